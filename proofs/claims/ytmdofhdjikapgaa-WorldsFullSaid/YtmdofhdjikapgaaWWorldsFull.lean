/- The law WorldsFull. -/
import Derived.Test.YtmdofhdjikapgaaWd4
import Derived.Test.YtmdofhdjikapgaaOpen
namespace Go.Proofs.Ytmdofhdjikapgaa
open Go.RowKit Go.Maps
set_option linter.unusedVariables false
set_option maxHeartbeats 1500000 in
set_option maxRecDepth 100000 in
theorem walk_WorldsFull (a0_0 : Int) (a0_1 : Int) (a0_2 : Int) (a0_3 : Int) (a0_4 : Int) (a1 : Int) (w : World) (w0_0 : (Lit.int .i64 a0_0).wf = true) (w0_1 : (Lit.int .i64 a0_1).wf = true) (w0_2 : (Lit.int .i64 a0_2).wf = true) (w0_3 : (Lit.int .i64 a0_3).wf = true) (w0_4 : (Lit.int .i64 a0_4).wf = true) (w1 : (Lit.int .u64 a1).wf = true) :
    Calls Try.prog 7 #[.agg #[.int .i64 a0_0, .int .i64 a0_1, .int .i64 a0_2, .int .i64 a0_3, .int .i64 a0_4], .int .u64 a1] w fun e w' => e = .returned (.bool true) ∧ Below w.heap.size w w' := by
  obtain ⟨u1, u2⟩ := bounds_u64 w1
  clear w0_0 w0_1 w0_2 w0_3 w0_4 w1
  have hBw : Below w.heap.size w (w.alloc (.cells #[.int .i64 a0_0, .int .i64 a0_1, .int .i64 a0_2, .int .i64 a0_3, .int .i64 a0_4] 23)) := (Below.refl _ _).alloc (Nat.le_refl _) _
  cases hm : mayc a0_0 a0_1 a0_2 a0_3 a0_4 with
  | false =>
    have C := Lib.hid (fun W => newW_no a0_0 a0_1 a0_2 a0_3 a0_4 W hm)
    have HB := Lib.hid hBw
    clear hm hBw
    go_enter Try.func7, Try.ntmps7
    go_wp2_with fail
    refine (C.out _).mono ?_
    rintro e w2 ⟨rfl, K2⟩
    have H2 := Lib.hid (below_then HB.out K2)
    clear K2
    go_wp2_with fail
    refine (lives10 _).mono ?_
    rintro e w3 ⟨rfl, K3⟩
    have H3 := Lib.hid (below_then H2.out K3)
    clear K3
    go_wp2_with fail
    go_ret
    exact ⟨rfl, H3.out⟩
  | true =>
    have C := Lib.hid (fun W => newW a0_0 a0_1 a0_2 a0_3 a0_4 W hm)
    have hmm := of_decide_eq_true (show decide _ = true from hm)
    have b1 : 1 ≤ a0_1 := by omega
    have b2 : a0_1 ≤ 65536 := by omega
    clear hm hmm
    obtain ⟨Q, hQ⟩ : ∃ Q, Q = w.heap.size := ⟨_, rfl⟩
    have hq : (w.alloc (.cells #[.int .i64 a0_0, .int .i64 a0_1, .int .i64 a0_2, .int .i64 a0_3, .int .i64 a0_4] 23)).cell? ⟨Q, 1, none⟩ = some (.int .i64 a0_1) := by rw [hQ]; simp
    have hsQ : Q < (w.alloc (.cells #[.int .i64 a0_0, .int .i64 a0_1, .int .i64 a0_2, .int .i64 a0_3, .int .i64 a0_4] 23)).heap.size := by rw [hQ]; simp
    have HQ := Lib.hid hQ
    go_enter Try.func7, Try.ntmps7
    clear hQ
    go_wp2_with fail
    rw [← HQ.out]
    generalize World.alloc _ _ = W at *
    have HBW := Lib.hid hBw
    have hsW := hBw.size
    clear hBw
    refine (C.out _).mono ?_
    rintro e w2 ⟨A, rfl, hW2, K2⟩
    have hq2 := (K2.cell (p := ⟨Q, 1, none⟩) hsQ).trans hq
    have c0 := hW2.box.c0
    have hs2 : W.heap.size ≤ w2.heap.size := K2.size
    have CS := Lib.hid (bstore hW2 hs2 (a := 6) (v := a1) ⟨by decide, by decide⟩ ⟨u1, by omega⟩ (by simp [V0]))
    have HK2 := Lib.hid K2
    clear hW2 K2 hq
    go_wp2_with fail
    refine CS.out.mono ?_
    rintro e w3 ⟨rfl, hW3, K3⟩
    have hq3 := (K3.cell (p := ⟨Q, 1, none⟩) hsQ).trans hq2
    have HK3 := Lib.hid (HK2.out.trans K3)
    clear CS c0 K3 hq2
    have CF := bfull hW3 (by show 0 ≤ a0_1; omega) (by show a0_1 ≤ _; omega)
    rw [show (Wv.acc (V0 ⟨a0_0, a0_1, a0_2, a0_3, a0_4⟩) (upd (V0 ⟨a0_0, a0_1, a0_2, a0_3, a0_4⟩).f 6 a1) 2 6 ((V0 ⟨a0_0, a0_1, a0_2, a0_3, a0_4⟩).f 6) a1).f 6 = a1 from acc_upd _ _ _ _ _ _ _ _] at CF
    rw [show (Wv.acc (V0 ⟨a0_0, a0_1, a0_2, a0_3, a0_4⟩) (upd (V0 ⟨a0_0, a0_1, a0_2, a0_3, a0_4⟩).f 6 a1) 2 6 ((V0 ⟨a0_0, a0_1, a0_2, a0_3, a0_4⟩).f 6) a1).c.budget = a0_1 from rfl] at CF
    have hcb : (Wv.acc (V0 ⟨a0_0, a0_1, a0_2, a0_3, a0_4⟩) (upd (V0 ⟨a0_0, a0_1, a0_2, a0_3, a0_4⟩).f 6 a1) 2 6 ((V0 ⟨a0_0, a0_1, a0_2, a0_3, a0_4⟩).f 6) a1).c.budget = a0_1 := rfl
    have hcn : (Wv.acc (V0 ⟨a0_0, a0_1, a0_2, a0_3, a0_4⟩) (upd (V0 ⟨a0_0, a0_1, a0_2, a0_3, a0_4⟩).f 6 a1) 2 6 ((V0 ⟨a0_0, a0_1, a0_2, a0_3, a0_4⟩).f 6) a1).cnt = 1 := rfl
    generalize (Wv.acc (V0 ⟨a0_0, a0_1, a0_2, a0_3, a0_4⟩) (upd (V0 ⟨a0_0, a0_1, a0_2, a0_3, a0_4⟩).f 6 a1) 2 6 ((V0 ⟨a0_0, a0_1, a0_2, a0_3, a0_4⟩).f 6) a1) = V at *
    have HF := Lib.hid CF
    have HW3 := Lib.hid hW3
    have HCB := Lib.hid hcb
    have HCN := Lib.hid hcn
    clear CF hW3 hcb hcn
    go_wp2_with fail
    refine HF.out.mono ?_
    rintro e w4 ⟨rfl, K4⟩
    have hW4 : WdB w4.drew A V W.heap.size := HW3.out.new (K4.drew)
    have HK4 := Lib.hid (HK3.out.trans (K4.mono HK3.out.size))
    have hq4 : w4.drew.cell? ⟨Q, 1, none⟩ = some (.int .i64 a0_1) := (K4.cell (p := ⟨Q, 1, none⟩) (by have := HK3.out.size; show Q < _; omega)).trans hq3
    have c0 := hW4.box.c0
    have hs4 : W.heap.size ≤ w4.heap.size := HK4.out.size
    have y1 : IntKind.u64.wrap a0_1 = a0_1 := by rw [IntKind.wrap_u64]; omega
    have y2 : IntKind.u64.wrap (a0_1 - 1) = a0_1 - 1 := by rw [IntKind.wrap_u64]; omega
    have CS := Lib.hid (bstore hW4 (by simpa using hs4) (a := 6) (v := a0_1 - 1) ⟨by decide, by decide⟩ ⟨by omega, by omega⟩ (by rw [HCN.out]; decide))
    clear hW4 K4 hq3
    go_wp2_with fail
    go_region_held3 (fun w' => w'.cell? ⟨A.p, 0, none⟩ = some (.pointer (some ⟨A.pc, 0, none⟩)) ∧ w'.cell? ⟨Q, 1, none⟩ = some (.int .i64 a0_1))
      (first | exact ⟨by assumption, by assumption⟩)
      (first
        | (go_at_call 37; ((with_reducible refine CS.out.mono ?_); rintro e w5 ⟨rfl, hW5, K5⟩; replace hq4 := (K5.cell (p := ⟨Q, 1, none⟩) hsQ).trans hq4; replace c0 := hW5.box.c0; have HW5 := Lib.hid hW5; have HK5 := Lib.hid (HK4.out.drew.trans K5); clear hW5 K5 CS)))
    have CF := bfull HW5.out (by show 0 ≤ V.c.budget; rw [HCB.out]; omega) (by show V.c.budget ≤ _; rw [HCB.out]; omega)
    rw [show (Wv.acc V (upd V.f 6 (a0_1 - 1)) 2 6 (V.f 6) (a0_1 - 1)).f 6 = a0_1 - 1 from acc_upd _ _ _ _ _ _ _ _, show (Wv.acc V (upd V.f 6 (a0_1 - 1)) 2 6 (V.f 6) (a0_1 - 1)).c.budget = a0_1 from HCB.out, show decide (a0_1 ≤ a0_1 - 1) = false from decide_eq_false (by omega)] at CF
    have HF2 := Lib.hid CF
    clear CF c0
    go_wp2_with fail
    refine HF2.out.mono ?_
    rintro e w6 ⟨rfl, K6⟩
    have hq6 := (K6.cell (p := ⟨Q, 1, none⟩) (by have := HK5.out.size; show Q < _; omega)).trans hq4
    have HK6 := Lib.hid (HK5.out.trans (K6.mono HK5.out.size))
    clear K6 hq4
    by_cases hcmp : a0_1 ≤ a1
    · have z1 : decide (a0_1 ≤ a1) = true := decide_eq_true hcmp
      go_wp2_with fail
      refine (lives10 _).mono ?_
      rintro e w7 ⟨rfl, K7⟩
      have hfin : Below w.heap.size w w7 := (HBW.out.trans (HK6.out.mono hsW)).trans (K7.mono (by have := HK6.out.size; omega))
      clear K7 hq6
      go_wp2_with fail
      go_ret
      exact ⟨rfl, hfin⟩
    · have z1 : decide (a0_1 ≤ a1) = false := decide_eq_false hcmp
      go_wp2_with fail
      refine (lives10 _).mono ?_
      rintro e w7 ⟨rfl, K7⟩
      have hfin : Below w.heap.size w w7 := (HBW.out.trans (HK6.out.mono hsW)).trans (K7.mono (by have := HK6.out.size; omega))
      clear K7 hq6
      go_wp2_with fail
      go_ret
      exact ⟨rfl, hfin⟩
end Go.Proofs.Ytmdofhdjikapgaa
