/- The law WorldsVoid. -/
import Derived.Test.YtmdofhdjikapgaaWdV
import Derived.Test.YtmdofhdjikapgaaOpen
namespace Go.Proofs.Ytmdofhdjikapgaa
open Go.RowKit Go.Maps
set_option linter.unusedVariables false
set_option maxHeartbeats 1500000 in
set_option maxRecDepth 100000 in
theorem walk_WorldsVoid (a0_0 : Int) (a0_1 : Int) (a0_2 : Int) (a0_3 : Int) (a0_4 : Int) (a0_5 : Int) (a0_6 : Int) (a0_7 : Int) (a0_8 : Int) (a0_9 : ByteArray) (a0_10 : ByteArray) (a0_11 : Int) (a0_12 : Int) (a0_13 : Int) (a0_14 : Int) (w : World) (w0_0 : (Lit.int .u8 a0_0).wf = true) (w0_1 : (Lit.int .u8 a0_1).wf = true) (w0_2 : (Lit.int .i64 a0_2).wf = true) (w0_3 : (Lit.int .i64 a0_3).wf = true) (w0_4 : (Lit.int .i64 a0_4).wf = true) (w0_5 : (Lit.int .i64 a0_5).wf = true) (w0_6 : (Lit.int .i64 a0_6).wf = true) (w0_7 : (Lit.int .u64 a0_7).wf = true) (w0_8 : (Lit.int .u64 a0_8).wf = true) (w0_9 : a0_9.size ≤ maxLen) (w0_10 : a0_10.size ≤ maxLen) (w0_11 : (Lit.int .u32 a0_11).wf = true) (w0_12 : (Lit.int .u64 a0_12).wf = true) (w0_13 : (Lit.int .i64 a0_13).wf = true) (w0_14 : (Lit.int .i64 a0_14).wf = true) :
    Calls Try.prog 4 #[.agg #[.int .u8 a0_0, .int .u8 a0_1, .int .i64 a0_2, .int .i64 a0_3, .int .i64 a0_4, .int .i64 a0_5, .int .i64 a0_6, .int .u64 a0_7, .int .u64 a0_8, .string a0_9, .string a0_10, .int .u32 a0_11, .int .u64 a0_12, .int .i64 a0_13, .int .i64 a0_14]] w fun e w' => e = .returned (.bool true) ∧ Below w.heap.size w w' := by
  clear w0_0 w0_1 w0_2 w0_3 w0_4 w0_5 w0_6 w0_7 w0_8 w0_9 w0_10 w0_11 w0_12 w0_13 w0_14
  obtain ⟨Q, hQ⟩ : ∃ Q, Q = w.heap.size := ⟨_, rfl⟩
  obtain ⟨W, hW⟩ : ∃ W, W = w.alloc (.cells #[.int .u8 a0_0, .int .u8 a0_1, .int .i64 a0_2, .int .i64 a0_3, .int .i64 a0_4, .int .i64 a0_5, .int .i64 a0_6, .int .u64 a0_7, .int .u64 a0_8, .string a0_9, .string a0_10, .int .u32 a0_11, .int .u64 a0_12, .int .i64 a0_13, .int .i64 a0_14] 56) := ⟨_, rfl⟩
  have hBw : Below w.heap.size w W := by rw [hW]; exact (Below.refl _ _).alloc (Nat.le_refl _) _
  have q1 : W.cell? ⟨Q, 1, none⟩ = some (.int .u8 a0_1) := by rw [hQ, hW]; simp
  have q2 : W.cell? ⟨Q, 2, none⟩ = some (.int .i64 a0_2) := by rw [hQ, hW]; simp
  have q3 : W.cell? ⟨Q, 3, none⟩ = some (.int .i64 a0_3) := by rw [hQ, hW]; simp
  have q4 : W.cell? ⟨Q, 4, none⟩ = some (.int .i64 a0_4) := by rw [hQ, hW]; simp
  have q5 : W.cell? ⟨Q, 5, none⟩ = some (.int .i64 a0_5) := by rw [hQ, hW]; simp
  have q6 : W.cell? ⟨Q, 6, none⟩ = some (.int .i64 a0_6) := by rw [hQ, hW]; simp
  have hsQ : Q < W.heap.size := by rw [hQ, hW]; simp
  have HQ := Lib.hid hQ
  have HW := Lib.hid hW
  have HB := Lib.hid hBw
  have hsW := hBw.size
  have QS := Lib.hid (fun X (hb : Below W.heap.size W X) => (⟨(hb.cell (p := ⟨Q, 1, none⟩) hsQ).trans q1, (hb.cell (p := ⟨Q, 2, none⟩) hsQ).trans q2, (hb.cell (p := ⟨Q, 3, none⟩) hsQ).trans q3, (hb.cell (p := ⟨Q, 4, none⟩) hsQ).trans q4, (hb.cell (p := ⟨Q, 5, none⟩) hsQ).trans q5, (hb.cell (p := ⟨Q, 6, none⟩) hsQ).trans q6⟩ : X.cell? ⟨Q, 1, none⟩ = some (.int .u8 a0_1) ∧ X.cell? ⟨Q, 2, none⟩ = some (.int .i64 a0_2) ∧ X.cell? ⟨Q, 3, none⟩ = some (.int .i64 a0_3) ∧ X.cell? ⟨Q, 4, none⟩ = some (.int .i64 a0_4) ∧ X.cell? ⟨Q, 5, none⟩ = some (.int .i64 a0_5) ∧ X.cell? ⟨Q, 6, none⟩ = some (.int .i64 a0_6)))
  clear hQ hW hBw
  go_enter Try.func4, Try.ntmps4
  go_wp2_with fail
  rw [← HQ.out, ← HW.out]
  refine (tick_nil _).mono ?_
  rintro e w1 ⟨rfl, rfl⟩
  go_wp2_with fail
  refine (note_nil _ _ _ _ _ _ _).mono ?_
  rintro e w2 ⟨rfl, K2⟩
  clear q1 q2 q3 q4 q5 q6
  have HK2 := Lib.hid K2
  clear K2
  go_wp2_with fail
  refine (steps_nil _).mono ?_
  rintro e w3 ⟨rfl, rfl⟩
  go_wp2_with fail
  refine (grows_nil _).mono ?_
  rintro e w3 ⟨rfl, rfl⟩
  go_wp2_with fail
  refine (full_nil _).mono ?_
  rintro e w3 ⟨rfl, rfl⟩
  go_wp2_with fail
  have hv := isVoid_made w2 42
  have hb3 : Below W.heap.size W (w2.alloc (.cells Try.zeroCells42 42)) := HK2.out.alloc HK2.out.size _
  obtain ⟨P, hP⟩ : ∃ P, P = w2.heap.size := ⟨_, rfl⟩
  have HP := Lib.hid hP
  rw [← hP] at hv ⊢
  clear hP
  generalize World.alloc _ _ = X at *
  have CT := tick_void hv
  have HV := Lib.hid hv
  have HB3 := Lib.hid hb3
  have HT := Lib.hid CT
  clear hv hb3 CT
  refine HT.out.mono ?_
  rintro e w4 ⟨rfl, K4⟩
  have hv4 := HV.out.new K4
  have hb4 := HB3.out.trans (K4.mono HB3.out.size)
  obtain ⟨q1, q2, q3, q4, q5, q6⟩ := QS.out _ hb4
  have HV4 := Lib.hid hv4
  have HB4 := Lib.hid hb4
  clear hv4 hb4 K4
  go_wp2_with fail
  refine (note_void HV4.out _ _ _ _ _ _).mono ?_
  rintro e w5 ⟨rfl, K5⟩
  have hv5 := HV4.out.new K5
  have HB5 := Lib.hid (HB4.out.trans (K5.mono HB4.out.size))
  have HV5 := Lib.hid hv5
  clear K5 hv5 q1 q2 q3 q4 q5 q6
  go_wp2_with fail
  have ch := HV5.out.ch
  refine (steps_void HV5.out).mono ?_
  rintro e w6 ⟨rfl, rfl⟩
  go_wp2_with fail
  refine (grows_void HV5.out).mono ?_
  rintro e w6 ⟨rfl, K6⟩
  have HV6 := Lib.hid (HV5.out.new K6)
  have HB6 := Lib.hid (HB5.out.trans (K6.mono HB5.out.size))
  clear K6 ch
  go_wp2_with fail
  refine (full_void HV6.out).mono ?_
  rintro e w7 ⟨rfl, K7⟩
  have hv7 := HV6.out.new K7
  have c2 := hv7.c2
  have HB7 := Lib.hid (HB6.out.trans (K7.mono HB6.out.size))
  clear K7 hv7
  go_wp2_with fail
  refine (ncount_nil _).mono ?_
  rintro e w8 ⟨rfl, rfl⟩
  go_wp2_with fail
  refine (lives10 _).mono ?_
  rintro e w9 ⟨rfl, K9⟩
  have hfin := HB.out.trans ((HB7.out.trans (K9.mono HB7.out.size)).mono hsW)
  clear K9 c2
  go_wp2_with fail
  go_ret
  exact ⟨rfl, hfin⟩
end Go.Proofs.Ytmdofhdjikapgaa
