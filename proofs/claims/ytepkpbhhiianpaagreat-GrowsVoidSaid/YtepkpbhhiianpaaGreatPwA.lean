/- A pair of worlds without notes: SameAll. -/
import Derived.Test.YtepkpbhhiianpaaGreatPwS
import Derived.Test.YtepkpbhhiianpaaGreatSm
import Derived.Test.YtepkpbhhiianpaaGreatRaT
import Derived.Test.YtepkpbhhiianpaaGreatGNl
namespace Go.Proofs.YtepkpbhhiianpaaGreat
open Go.RowKit Go.Maps
set_option linter.unusedVariables false
section
variable {w : World} {A R : Ad} {V : Wv} {S T : Nat → Prop}
theorem pw_cells (h : Pw w A R V S T) (hc : V.cnt ≤ 1000000) : Calls Tryz.prog 70 #[.pointer (some ⟨A.pc, 0, none⟩), .pointer (some ⟨R.pc, 0, none⟩)] w fun e w' => e = .returned (.bool true) ∧ Below w.heap.size w w' := by
  obtain ⟨L, n, SC, TC, hcp, hn⟩ := h.cp
  exact same_all hcp (by omega)
theorem pw_notes (h : Pw w A R V S T) (hM : V.M = []) : Calls Tryz.prog 71 #[.pointer (some ⟨A.pn, 0, none⟩)] w fun e w' => ∃ a cap, e = .returned (.slice a 0 cap) ∧ Below w.heap.size w w' := by
  obtain ⟨n, SC, SI, SN, ha⟩ := h.a
  have hnt := ha.nt
  rw [hM] at hnt
  obtain ⟨v, hv⟩ := hnt
  obtain rfl := hv.nil rfl
  refine (allw w A.pn [] ⟨_, hv.c0, hv.f0, World.ownsRow_nil _ _ _ _, fun _ => rfl⟩ (by simp)).mono ?_
  rintro e w' ⟨v, rfl, ⟨_, ⟨rfl, _⟩ | ⟨g, cap, rfl, _⟩⟩, hb⟩
  · exact ⟨_, _, rfl, hb⟩
  · exact ⟨_, _, rfl, hb⟩
theorem pw_ats (h : Pw w A R V S T) (hI : V.I.length ≤ 300) (ref : Int) : ∃ (xk xv : ByteArray) (x2 x3 x4 x5 : Int) (b : Bool),
    (Calls Tryz.prog 72 #[.pointer (some ⟨A.pi, 0, none⟩), .int .i64 ref] w fun e w' => e = .returned (.tuple #[.agg #[.string xk, .string xv, .int .u32 x2, .int .u64 x3, .int .i64 x4, .int .i64 x5], .bool b]) ∧ Below w.heap.size w w') ∧
    (∀ w2, Below w.heap.size w w2 → Calls Tryz.prog 73 #[.pointer (some ⟨R.pi, 0, none⟩), .int .i64 ref] w2 fun e w' => e = .returned (.tuple #[.agg #[.string xk, .string xv, .int .u32 x2, .int .u64 x3, .int .i64 x4, .int .i64 x5], .bool b]) ∧ Below w2.heap.size w2 w') := by
  obtain ⟨xk, xv, x2, x3, x4, x5, b, PA, PB⟩ := at_both V.I hI ref
  refine ⟨xk, xv, x2, x3, x4, x5, b, ?_, fun w2 hb => ?_⟩
  · obtain ⟨n, SC, SI, SN, ha⟩ := h.a
    exact PA ha.it
  · obtain ⟨L, ⟨TC, TI, TN, r⟩, -⟩ := (h.new hb).r
    exact PB r.it
set_option maxHeartbeats 4000000 in
set_option maxRecDepth 100000 in
theorem pw_all (h : Pw w A R V S T) (hM : V.M = []) (hI : V.I.length ≤ 300) (hc : V.cnt ≤ 1000000) :
    Calls Tryz.prog 21 #[.agg #[.pointer (some ⟨A.p, 0, none⟩), .pointer (some ⟨R.p, 0, none⟩)]] w fun e w' => e = .returned (.bool true) ∧ Below w.heap.size w w' := by
  obtain ⟨B, hB⟩ : ∃ B, B = w.heap.size := ⟨_, rfl⟩
  obtain ⟨m, hm⟩ : ∃ m, m = V.I.length := ⟨_, rfl⟩
  have hm3 : m ≤ 300 := by omega
  have HH : Hid (∀ X, Below w.heap.size w X → Pw X A R V S T) := Lib.hid (fun X hb => h.new hb)
  obtain ⟨ga, gc, hf⟩ := pw_facts h
  have HF := Lib.hid hf
  have HM := Lib.hid hM
  have HI := Lib.hid hI
  have HB := Lib.hid hB
  have HMM := Lib.hid hm
  have HML := Lib.hid (show V.M.length = 0 by rw [hM]; rfl)
  clear h hf hM hI hB hm
  go_enter Tryz.func21, Tryz.ntmps21
  go_wp2_with fail
  generalize hW : w.alloc _ = W
  have bW : Below w.heap.size w W := by rw [← hW]; exact (Below.refl _ _).alloc (Nat.le_refl _) _
  have e0 : W.cell? ⟨w.heap.size, 0, none⟩ = some (.pointer (some ⟨A.p, 0, none⟩)) := by rw [← hW]; simp
  have e1 : W.cell? ⟨w.heap.size, 1, none⟩ = some (.pointer (some ⟨R.p, 0, none⟩)) := by rw [← hW]; simp
  rw [show w.heap.size = B from HB.out.symm]
  rw [show w.heap.size = B from HB.out.symm] at e0 e1
  have KEEP : Hid (∀ X, Below W.heap.size W X → (X.cell? ⟨B, 0, none⟩ = some (.pointer (some ⟨A.p, 0, none⟩)) ∧ X.cell? ⟨B, 1, none⟩ = some (.pointer (some ⟨R.p, 0, none⟩)) ∧ X.cell? ⟨A.p, 0, none⟩ = some (.pointer (some ⟨A.pc, 0, none⟩)) ∧ X.cell? ⟨R.p, 0, none⟩ = some (.pointer (some ⟨R.pc, 0, none⟩)) ∧ X.cell? ⟨A.p, 1, none⟩ = some (.pointer (some ⟨A.pi, 0, none⟩)) ∧ X.cell? ⟨R.p, 1, none⟩ = some (.pointer (some ⟨R.pi, 0, none⟩)) ∧ X.cell? ⟨A.p, 2, none⟩ = some (.pointer (some ⟨A.pn, 0, none⟩)) ∧ X.cell? ⟨R.p, 2, none⟩ = some (.pointer (some ⟨R.pn, 0, none⟩)) ∧ X.cell? ⟨R.pn, 0, none⟩ = some (.slice ga 0 gc))) := Lib.hid (fun X hb => by
    obtain ⟨a0, a1, a2, a72, r0, r1, r2, r72, c2, c3, c4, c5, n0, t1, t2⟩ := HF.out X (below_then bW hb)
    rw [HML.out] at n0
    exact ⟨(hb.cell (p := ⟨B, 0, none⟩) (World.block_lt_of_cell? _ _ e0)).trans e0, (hb.cell (p := ⟨B, 1, none⟩) (World.block_lt_of_cell? _ _ e1)).trans e1, a0, r0, a1, r1, a2, r2, n0⟩)
  have PP : Hid (∀ X, Below W.heap.size W X → Pw X A R V S T) := Lib.hid (fun X hb => HH.out X (below_then bW hb))
  have HBW := Lib.hid bW
  have hb0 : Below W.heap.size W W.drew := (Below.refl _ _).drew
  have C1 := Lib.hid (pw_same (PP.out _ hb0) (by rw [HML.out]; decide))
  clear hW bW e0 e1 HH HF
  obtain ⟨f0, f1, f2, f3, f4, f5, f6, f7, f8⟩ := KEEP.out _ hb0
  clear f4 f5 f6 f7 f8
  go_region_held3 (fun w' => w'.cell? ⟨B, 0, none⟩ = some (.pointer (some ⟨A.p, 0, none⟩)) ∧ w'.cell? ⟨B, 1, none⟩ = some (.pointer (some ⟨R.p, 0, none⟩)) ∧ w'.cell? ⟨A.p, 0, none⟩ = some (.pointer (some ⟨A.pc, 0, none⟩)) ∧ w'.cell? ⟨R.p, 0, none⟩ = some (.pointer (some ⟨R.pc, 0, none⟩)))
    (first | exact ⟨by assumption, by assumption, by assumption, by assumption⟩)
    (first
      | (go_at_call 20; ((with_reducible refine C1.out.mono ?_); rintro e w2 ⟨rfl, hk2⟩; have hb2 : Below W.heap.size W w2 := hb0.trans hk2; have C2 := Lib.hid (pw_cells (PP.out _ hb2) hc); clear hk2 f0 f1 f2 f3; obtain ⟨f0, f1, f2, f3, f4, f5, f6, f7, f8⟩ := KEEP.out _ hb2; clear f4 f5 f6 f7 f8))
      | (go_at_call 70; ((with_reducible refine C2.out.mono ?_); rintro e w3 ⟨rfl, hk3⟩; have hb3 : Below W.heap.size W w3 := below_then hb2 hk3; clear hk3 f0 f1 f2 f3; obtain ⟨f0, f1, f2, f3, f4, f5, f6, f7, f8⟩ := KEEP.out _ hb3)))
  have C3 := Lib.hid (pw_notes (PP.out _ hb3) HM.out)
  clear hb0 hb2 f4 f5 C1 C2
  go_wp2_with (go_at_call 71; ((with_reducible refine C3.out.mono ?_); rintro e w4 ⟨al, ac, rfl, hk4⟩; have hb4 : Below W.heap.size W w4 := below_then hb3 hk4; clear hk4 hb3 f0 f1 f2 f3 f6 f7 f8 C3; obtain ⟨f0, f1, f2, f3, f4, f5, f6, f7, f8⟩ := KEEP.out _ hb4))
  go_wp2_with fail
  refine wp_loop_rounds 1 ?_
  rw [rounds_succ]
  go_wp2_with fail
  clear f0 f1 f2 f3 f4 f5 f6 f7 f8
  go_loopw [6] (fun i X => ∃ k : Nat, k ≤ m + 2 ∧ i = .int .i64 k ∧ Below W.heap.size W X) (fun i _ => m + 2 - (intOf i).toNat)
  case atStart => exact ⟨0, Nat.zero_le _, rfl, hb4⟩
  case round =>
    obtain ⟨k, hk, rfl, hb⟩ := hrel
    clear hb4
    have HBX := Lib.hid hb
    have CC := Lib.hid (pw_rcount (PP.out _ hb) (z := m) (by have := HMM.out; omega))
    obtain ⟨f0, f1, f2, f3, f4, f5, f6, f7, f8⟩ := KEEP.out _ hb
    have hw1 : IntKind.i64.wrap ((m : Int) + 1) = (m : Int) + 1 := IntWalk.i64_in _ (by omega)
    by_cases hlt : k ≤ m + 1
    · have hd : decide ((k : Int) ≤ (m : Int) + 1) = true := decide_eq_true (by omega)
      obtain ⟨xk, xv, x2, x3, x4, x5, b, hA1, hB1⟩ := pw_ats (PP.out _ hb) HI.out (k : Int)
      have CA := Lib.hid hA1
      have CB := Lib.hid hB1
      clear hA1 hB1 hb
      go_wp2_with (first
        | (go_at_call 69; ((with_reducible refine CC.out.mono ?_); rintro e w5 ⟨rfl, rfl⟩))
        | (go_at_call 72; ((with_reducible refine CA.out.mono ?_); rintro e w6 ⟨rfl, hk6⟩; have hb6 : Below W.heap.size W w6 := below_then HBX.out hk6; have G := fun o => KEEP.out (w6.alloc o) (hb6.alloc hb6.size o); have g1 := fun o => (G o).2.1; have g5 := fun o => (G o).2.2.2.2.2.1; clear G f0 f1 f2 f3 f4 f5 f6 f7 f8)))
      generalize hX : World.alloc _ _ = X
      have kx : Below wr.heap.size wr X := by rw [← hX]; exact hk6.alloc (by have := hk6.size; omega) _
      have sx : w6.heap.size < X.heap.size := by rw [← hX]; simp
      have e0 : X.cell? ⟨w6.heap.size, 0, none⟩ = some (.string xk) := by rw [← hX]; simp
      have e1 : X.cell? ⟨w6.heap.size, 1, none⟩ = some (.string xv) := by rw [← hX]; simp
      have e2 : X.cell? ⟨w6.heap.size, 2, none⟩ = some (.int .u32 x2) := by rw [← hX]; simp
      have e3 : X.cell? ⟨w6.heap.size, 3, none⟩ = some (.int .u64 x3) := by rw [← hX]; simp
      have e4 : X.cell? ⟨w6.heap.size, 4, none⟩ = some (.int .i64 x4) := by rw [← hX]; simp
      have e5 : X.cell? ⟨w6.heap.size, 5, none⟩ = some (.int .i64 x5) := by rw [← hX]; simp
      clear hX g1 g5 hk6 CA CC
      refine (CB.out _ kx).mono ?_
      rintro e w7 ⟨rfl, k7⟩
      replace e0 := (k7.cell (p := ⟨w6.heap.size, 0, none⟩) sx).trans e0
      replace e1 := (k7.cell (p := ⟨w6.heap.size, 1, none⟩) sx).trans e1
      replace e2 := (k7.cell (p := ⟨w6.heap.size, 2, none⟩) sx).trans e2
      replace e3 := (k7.cell (p := ⟨w6.heap.size, 3, none⟩) sx).trans e3
      replace e4 := (k7.cell (p := ⟨w6.heap.size, 4, none⟩) sx).trans e4
      replace e5 := (k7.cell (p := ⟨w6.heap.size, 5, none⟩) sx).trans e5
      have hb7 := below_then (below_then HBX.out kx) k7
      have s7 : w6.heap.size < w7.heap.size := by have := k7.size; omega
      clear CB k7 kx sx hb6
      go_wp2_with fail
      generalize hY : World.alloc _ _ = Y
      have hbY : Below W.heap.size W Y := by rw [← hY]; exact hb7.alloc hb7.size _
      clear hY
      exact ⟨⟨k + 1, by omega, by go_num, hbY⟩, by simp [intOf]; omega⟩
    · obtain rfl : k = m + 2 := by omega
      have hd : decide (((m + 2 : Nat) : Int) ≤ (m : Int) + 1) = false := decide_eq_false (by omega)
      clear hb
      go_wp2_with (first
        | (go_at_call 69; ((with_reducible refine CC.out.mono ?_); rintro e w5 ⟨rfl, rfl⟩)))
      go_ret
      exact ⟨rfl, below_then HBW.out HBX.out⟩
end
end Go.Proofs.YtepkpbhhiianpaaGreat
