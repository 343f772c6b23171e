/- The law CellsBack. -/
import Derived.Test.YteofbgbjibbdaabClZ
import Derived.Deep.RegionHeld3
namespace Go.Proofs.Yteofbgbjibbdaab
open Go.RowKit
set_option linter.unusedVariables false
theorem add_neg {u v : Int} (h : isU u) : IntKind.u64.wrap (IntKind.u64.wrap (u + v) + IntKind.u64.wrap (-v)) = u := by
  obtain ⟨h1, h2⟩ := h
  simp only [IntKind.wrap_u64]; omega
theorem succ_ne {u : Int} (h : isU u) : u ≠ IntKind.u64.wrap (u + 1) := by
  obtain ⟨h1, h2⟩ := h
  simp only [IntKind.wrap_u64]; omega
set_option maxRecDepth 100000 in
set_option maxHeartbeats 2000000 in
theorem back_CellsBack (HS : SortNone) (a0 : Int) (a1_0 : Int) (a1_1 : Int) (a1_2 : Int) (w : World) (w0 : (Lit.int .u64 a0).wf = true) (w1_0 : (Lit.int .u64 a1_0).wf = true) (w1_1 : (Lit.int .u64 a1_1).wf = true) (w1_2 : (Lit.int .u64 a1_2).wf = true) :
    Calls Try.prog 5 #[.int .u64 a0, .agg #[.int .u64 a1_0, .int .u64 a1_1, .int .u64 a1_2]] w fun e w' => e = .returned (.bool true) ∧ Below w.heap.size w w' := by
  have ua := wf_isU w0
  have u0 := wf_isU w1_0
  have u1 := wf_isU w1_1
  have u2 := wf_isU w1_2
  have an := Lib.hid (add_neg (v := a1_2) u0)
  have sn := Lib.hid (succ_ne u0)
  have uw := isU_wrap (a1_0 + a1_2)
  have e1 : IntKind.u64.wrap (a1_0 + a1_2) = IntKind.u64.wrap (a1_0 + a1_2) := rfl
  generalize hm : IntKind.u64.wrap (-a1_2) = m at *
  generalize hz : IntKind.u64.wrap (a1_0 + a1_2) = z at *
  generalize hs : IntKind.u64.wrap (a1_0 + 1) = s at *
  have ZZ := Lib.hid hz
  clear w0 w1_0 w1_1 w1_2 hz e1
  go_enter Try.func5, Try.ntmps5
  go_wp2_with fail
  generalize hW : w.alloc _ = W
  have hb0 : Below w.heap.size w W := by rw [← hW]; exact (Below.refl _ _).alloc (Nat.le_refl _) _
  have lt : w.heap.size < W.heap.size := by rw [← hW]; simp
  have c0 : W.cell? ⟨w.heap.size, 0, none⟩ = some (.int .u64 a1_0) := by rw [← hW]; simp
  have c1 : W.cell? ⟨w.heap.size, 1, none⟩ = some (.int .u64 a1_1) := by rw [← hW]; simp
  have c2 : W.cell? ⟨w.heap.size, 2, none⟩ = some (.int .u64 a1_2) := by rw [← hW]; simp
  clear hW
  refine (znew _).mono ?_
  rintro e w1 ⟨rfl, b1, h1⟩
  have g1 := b1.size
  have d0 := box_cell b1 lt c0
  have d1 := box_cell b1 lt c1
  have d2 := box_cell b1 lt c2
  have C2 := Lib.hid (zstore (a := a0) (v := a1_0) (u := 0) h1 g1 ua u0 (by omega) (by omega) rfl)
  go_wp2_with (go_at_call 17; ((with_reducible refine (C2.out).mono ?_); rintro e w2 ⟨rfl, b2, h2⟩; replace d0 := box_cell b2 lt d0; replace d1 := box_cell b2 lt d1; replace d2 := box_cell b2 lt d2))
  replace b2 := b1.trans b2
  have g2 := b2.size
  change Cls w2 _ _ (one a0 a1_0) _ _ _ _ _ at h2
  clear b1 g1 h1 C2
  have C3 := Lib.hid (zcas_hit (a := a0) (u := a1_0) (v := a1_1) h2 g2 ua u1 (by omega) (by omega) (one_at _ _))
  go_wp2_with (go_at_call 15; ((with_reducible refine (C3.out).mono ?_); rintro e w3 ⟨rfl, b3, h3⟩; replace d0 := box_cell b3 lt d0; replace d1 := box_cell b3 lt d1; replace d2 := box_cell b3 lt d2))
  replace b3 := b2.trans b3
  have g3 := b3.size
  rw [one_upd] at h3
  clear b2 g2 h2 C3
  have C4 := Lib.hid (zcas_hit (a := a0) (u := a1_1) (v := a1_0) h3 g3 ua u0 (by omega) (by omega) (one_at _ _))
  go_wp2_with (go_at_call 15; ((with_reducible refine (C4.out).mono ?_); rintro e w4 ⟨rfl, b4, h4⟩; replace d0 := box_cell b4 lt d0; replace d1 := box_cell b4 lt d1; replace d2 := box_cell b4 lt d2))
  replace b4 := b3.trans b4
  have g4 := b4.size
  rw [one_upd] at h4
  clear b3 g3 h3 C4
  have C5 := Lib.hid (zadd (a := a0) (u := a1_0) (v := a1_2) (z := z) h4 g4 ua (by omega) (by omega) (one_at _ _) ZZ.out)
  go_wp2_with (go_at_call 19; ((with_reducible refine (C5.out).mono ?_); rintro e w5 ⟨rfl, b5, h5⟩; replace d0 := box_cell b5 lt d0; replace d1 := box_cell b5 lt d1; replace d2 := box_cell b5 lt d2))
  replace b5 := b4.trans b5
  have g5 := b5.size
  rw [one_upd] at h5
  clear b4 g4 h4 C5
  have C6 := Lib.hid (zadd (a := a0) (u := z) (v := m) (z := a1_0) h5 g5 ua (by omega) (by omega) (one_at _ _) an.out)
  go_wp2_with (go_at_call 19; ((with_reducible refine (C6.out).mono ?_); rintro e w6 ⟨rfl, b6, h6⟩; replace d0 := box_cell b6 lt d0; replace d1 := box_cell b6 lt d1; replace d2 := box_cell b6 lt d2))
  replace b6 := b5.trans b6
  have g6 := b6.size
  rw [one_upd] at h6
  clear b5 g5 h5 C6
  have C7 := Lib.hid (zcas_miss (a := a0) (u := a1_0) (z := s) (v := a1_1) h6 g6 ua u1 (by omega) (by omega) (one_at _ _) sn.out)
  go_wp2_with (go_at_call 15; ((with_reducible refine (C7.out).mono ?_); rintro e w7 ⟨rfl, b7, h7⟩; replace d0 := box_cell b7 lt d0; replace d1 := box_cell b7 lt d1; replace d2 := box_cell b7 lt d2))
  replace b7 := b6.trans b7
  have g7 := b7.size
  clear b6 g6 h6 C7
  have hB : Below w7.heap.size w7 w7.drew := (Below.refl _ _).drew
  have hN : w7.heap.size ≤ w7.heap.size := Nat.le_refl _
  have lt7 : w.heap.size < w7.heap.size := by omega
  have H7 := Lib.hid h7
  have B7 := Lib.hid b7
  clear c0 c1 c2 h7 b7
  go_wp2_with fail
  go_region_held3 (fun w' => w'.cell? ⟨w.heap.size, 0, none⟩ = some (.int .u64 a1_0))
    (first
      | exact box_cell (by assumption) lt7 d0)
    (first
      | (go_at_call 22; refine (zpeek (u := a1_0) (H7.out.keep (by assumption)) ua (one_at _ _)).mono ?_; rintro e w' ⟨rfl, rfl⟩)
      | (go_at_call 26; refine (lives05 HS _).mono ?_; rintro e w' ⟨rfl, hk⟩; have hq := box_then (by assumption) hN hk; clear hk))
  all_goals
    go_wp2
    go_ret
    exact ⟨rfl, below_then hb0 (below_then B7.out (by assumption))⟩
end Go.Proofs.Yteofbgbjibbdaab
