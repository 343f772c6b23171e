/- The law EpochsDead. -/
import Derived.Test.YteofbgbjibbdaabEpLives
namespace Go.Proofs.Yteofbgbjibbdaab
open Go.RowKit
set_option linter.unusedVariables false
set_option maxHeartbeats 4000000 in
theorem dead_lt (a0_0 : ByteArray) (a0_1 : ByteArray) (a0_2 : Int) (a0_3 : Int) (a0_4 : Int) (a0_5 : Int) (a1 : Int) (a2 : Int) (w : World) (l1 : 0 ≤ a1) (u1 : a1 ≤ 18446744073709551615) (g : Int) (hg : genf a1 = g) (K : Int) (hK : flushf a1 a2 = K) (r1 : 0 ≤ K) (r2 : K < 18446744073709551616) (T : Int) (hT : tickf a1 = T) (t1 : 0 ≤ T) (t2 : T < 18446744073709551616) (hx : g < a0_5) (ok : Bool) (hok : flushes a1 = ok) (hd : (ok = true ∧ a2 < 1 ∧ alivef g a0_4 K = false) ∨ (ok = true ∧ ¬ a2 < 1) ∨ ok = false) (ha : alivef g a0_4 a1 = true ∨ (alivef g a0_4 a1 = false ∧ alivef g a0_4 T = false ∧ alivef g a0_4 K = false)) :
    Calls Try.prog 14 #[.agg #[.string a0_0, .string a0_1, .int .u32 a0_2, .int .u64 a0_3, .int .i64 a0_4, .int .i64 a0_5], .int .u64 a1, .int .i64 a2] w fun e w' => e = .returned (.bool true) ∧ Below w.heap.size w w' := by
  rcases hd with ⟨rfl, e2, e3⟩ | ⟨rfl, e2⟩ | rfl <;> rcases ha with e4 | ⟨e4, e5, e6⟩
  all_goals
    go_enter Try.func14, Try.ntmps14
    go_wp2_with fail
    refine (genw _ _ l1 (by omega)).mono ?_
    rintro e w1 ⟨rfl, hk1⟩
    rw [hg]
    have hbw : Below w.heap.size w w1 := ((Below.refl _ _).alloc (Nat.le_refl _) _).trans (hk1.mono (by simp))
    have hs1 : w.heap.size < w1.heap.size := by have := hk1.size; simp at this; omega
    have c0 : w1.cell? ⟨w.heap.size, 0, none⟩ = some (.string a0_0) := (hk1.cell (p := ⟨w.heap.size, 0, none⟩) (by simp)).trans (by simp)
    have c1 : w1.cell? ⟨w.heap.size, 1, none⟩ = some (.string a0_1) := (hk1.cell (p := ⟨w.heap.size, 1, none⟩) (by simp)).trans (by simp)
    have c2 : w1.cell? ⟨w.heap.size, 2, none⟩ = some (.int .u32 a0_2) := (hk1.cell (p := ⟨w.heap.size, 2, none⟩) (by simp)).trans (by simp)
    have c3 : w1.cell? ⟨w.heap.size, 3, none⟩ = some (.int .u64 a0_3) := (hk1.cell (p := ⟨w.heap.size, 3, none⟩) (by simp)).trans (by simp)
    have c4 : w1.cell? ⟨w.heap.size, 4, none⟩ = some (.int .i64 a0_4) := (hk1.cell (p := ⟨w.heap.size, 4, none⟩) (by simp)).trans (by simp)
    have c5 : w1.cell? ⟨w.heap.size, 5, none⟩ = some (.int .i64 a0_5) := (hk1.cell (p := ⟨w.heap.size, 5, none⟩) (by simp)).trans (by simp)
    have u5 : w1.frozen? ⟨w.heap.size, 5, none⟩ = false := (hk1.frozen (p := ⟨w.heap.size, 5, none⟩) (by simp)).trans (by simp)
    have cA0 : (w1.setCell ⟨w.heap.size, 5, none⟩ (.int .i64 g)).cell? ⟨w.heap.size, 0, none⟩ = some (.string a0_0) := (World.cell?_setCell_other _ _ _ _ (by simp)).trans c0
    have cA1 : (w1.setCell ⟨w.heap.size, 5, none⟩ (.int .i64 g)).cell? ⟨w.heap.size, 1, none⟩ = some (.string a0_1) := (World.cell?_setCell_other _ _ _ _ (by simp)).trans c1
    have cA2 : (w1.setCell ⟨w.heap.size, 5, none⟩ (.int .i64 g)).cell? ⟨w.heap.size, 2, none⟩ = some (.int .u32 a0_2) := (World.cell?_setCell_other _ _ _ _ (by simp)).trans c2
    have cA3 : (w1.setCell ⟨w.heap.size, 5, none⟩ (.int .i64 g)).cell? ⟨w.heap.size, 3, none⟩ = some (.int .u64 a0_3) := (World.cell?_setCell_other _ _ _ _ (by simp)).trans c3
    have cA4 : (w1.setCell ⟨w.heap.size, 5, none⟩ (.int .i64 g)).cell? ⟨w.heap.size, 4, none⟩ = some (.int .i64 a0_4) := (World.cell?_setCell_other _ _ _ _ (by simp)).trans c4
    have cA5 : (w1.setCell ⟨w.heap.size, 5, none⟩ (.int .i64 g)).cell? ⟨w.heap.size, 5, none⟩ = some (.int .i64 g) := World.cell?_setCell_same _ _ _ c5
    have hBw : Below w.heap.size w (w1.setCell ⟨w.heap.size, 5, none⟩ (.int .i64 g)) := hbw.setCell (by simp) _
    have hB : Below (w.heap.size + 1) (w1.setCell ⟨w.heap.size, 5, none⟩ (.int .i64 g)) (w1.setCell ⟨w.heap.size, 5, none⟩ (.int .i64 g)) := Below.refl _ _
    have hN : w.heap.size + 1 ≤ (w1.setCell ⟨w.heap.size, 5, none⟩ (.int .i64 g)).heap.size := by simp; omega
    have hlt : w.heap.size < w.heap.size + 1 := by omega
    have hN0 : w.heap.size ≤ (w1.setCell ⟨w.heap.size, 5, none⟩ (.int .i64 g)).heap.size := Nat.le_trans (Nat.le_succ _) hN
    clear hk1 hbw
    go_wp2_with (first
      | (go_at_call 36; refine (flushw _ _ _ l1 (by omega)).mono ?_; rintro e w' ⟨rfl, hk⟩; have hq := box_then (by assumption) hN hk; clear hk; have d0 := box_cell hq (p := ⟨w.heap.size, 0, none⟩) hlt cA0; have d1 := box_cell hq (p := ⟨w.heap.size, 1, none⟩) hlt cA1; have d2 := box_cell hq (p := ⟨w.heap.size, 2, none⟩) hlt cA2; have d3 := box_cell hq (p := ⟨w.heap.size, 3, none⟩) hlt cA3; have d4 := box_cell hq (p := ⟨w.heap.size, 4, none⟩) hlt cA4; have d5 := box_cell hq (p := ⟨w.heap.size, 5, none⟩) hlt cA5)
      | (go_at_call 46; refine (tickw _ _ l1 (by omega)).mono ?_; rintro e w' ⟨rfl, hk⟩; have hq := box_then (by assumption) hN hk; clear hk; have d0 := box_cell hq (p := ⟨w.heap.size, 0, none⟩) hlt cA0; have d1 := box_cell hq (p := ⟨w.heap.size, 1, none⟩) hlt cA1; have d2 := box_cell hq (p := ⟨w.heap.size, 2, none⟩) hlt cA2; have d3 := box_cell hq (p := ⟨w.heap.size, 3, none⟩) hlt cA3; have d4 := box_cell hq (p := ⟨w.heap.size, 4, none⟩) hlt cA4; have d5 := box_cell hq (p := ⟨w.heap.size, 5, none⟩) hlt cA5)
      | (go_at_call 49; refine (alivew _ _ _ _ _ _ _ _ (by omega) (by omega)).mono ?_; rintro e w' ⟨rfl, hk⟩; have hq := box_then (by assumption) hN hk; clear hk; have d0 := box_cell hq (p := ⟨w.heap.size, 0, none⟩) hlt cA0; have d1 := box_cell hq (p := ⟨w.heap.size, 1, none⟩) hlt cA1; have d2 := box_cell hq (p := ⟨w.heap.size, 2, none⟩) hlt cA2; have d3 := box_cell hq (p := ⟨w.heap.size, 3, none⟩) hlt cA3; have d4 := box_cell hq (p := ⟨w.heap.size, 4, none⟩) hlt cA4; have d5 := box_cell hq (p := ⟨w.heap.size, 5, none⟩) hlt cA5)
      | (go_at_call 48; refine (lives07 _).mono ?_; rintro e w' ⟨rfl, hk⟩; have hq := box_then (by assumption) hN hk; clear hk))
  all_goals first
    | (go_ret; exact ⟨rfl, hBw.trans (Below.mono (show Below (w.heap.size + 1) _ _ by assumption) (by omega))⟩)
    | skip
  all_goals
    have hqd := hq.drew
    go_region_held3 (fun w' => w'.cell? ⟨w.heap.size, 0, none⟩ = some (.string a0_0) ∧ w'.cell? ⟨w.heap.size, 1, none⟩ = some (.string a0_1) ∧ w'.cell? ⟨w.heap.size, 2, none⟩ = some (.int .u32 a0_2) ∧ w'.cell? ⟨w.heap.size, 3, none⟩ = some (.int .u64 a0_3) ∧ w'.cell? ⟨w.heap.size, 4, none⟩ = some (.int .i64 a0_4) ∧ w'.cell? ⟨w.heap.size, 5, none⟩ = some (.int .i64 g))
      (first
        | go_keep
        | exact ⟨box_cell (by assumption) hlt cA0, box_cell (by assumption) hlt cA1, box_cell (by assumption) hlt cA2, box_cell (by assumption) hlt cA3, box_cell (by assumption) hlt cA4, box_cell (by assumption) hlt cA5⟩)
      (first
        | (go_at_call 46; refine (tickw _ _ l1 (by omega)).mono ?_; rintro e w' ⟨rfl, hk⟩; have hq := box_then (by assumption) hN hk; clear hk)
        | (go_at_call 49; refine (alivew _ _ _ _ _ _ _ _ (by omega) (by omega)).mono ?_; rintro e w' ⟨rfl, hk⟩; have hq := box_then (by assumption) hN hk; clear hk)
        | (go_at_call 48; refine (lives07 _).mono ?_; rintro e w' ⟨rfl, hk⟩; have hq := box_then (by assumption) hN hk; clear hk))
  all_goals go_wp2
  all_goals go_ret
  all_goals exact ⟨rfl, hBw.trans (Below.mono (show Below (w.heap.size + 1) _ _ by assumption) (by omega))⟩
set_option maxHeartbeats 4000000 in
theorem dead_ge (a0_0 : ByteArray) (a0_1 : ByteArray) (a0_2 : Int) (a0_3 : Int) (a0_4 : Int) (a0_5 : Int) (a1 : Int) (a2 : Int) (w : World) (l1 : 0 ≤ a1) (u1 : a1 ≤ 18446744073709551615) (g : Int) (hg : genf a1 = g) (K : Int) (hK : flushf a1 a2 = K) (r1 : 0 ≤ K) (r2 : K < 18446744073709551616) (T : Int) (hT : tickf a1 = T) (t1 : 0 ≤ T) (t2 : T < 18446744073709551616) (hx : ¬ g < a0_5) (ok : Bool) (hok : flushes a1 = ok) (hd : (ok = true ∧ a2 < 1 ∧ alivef a0_5 a0_4 K = false) ∨ (ok = true ∧ ¬ a2 < 1) ∨ ok = false) (ha : alivef a0_5 a0_4 a1 = true ∨ (alivef a0_5 a0_4 a1 = false ∧ alivef a0_5 a0_4 T = false ∧ alivef a0_5 a0_4 K = false)) :
    Calls Try.prog 14 #[.agg #[.string a0_0, .string a0_1, .int .u32 a0_2, .int .u64 a0_3, .int .i64 a0_4, .int .i64 a0_5], .int .u64 a1, .int .i64 a2] w fun e w' => e = .returned (.bool true) ∧ Below w.heap.size w w' := by
  rcases hd with ⟨rfl, e2, e3⟩ | ⟨rfl, e2⟩ | rfl <;> rcases ha with e4 | ⟨e4, e5, e6⟩
  all_goals
    go_enter Try.func14, Try.ntmps14
    go_wp2_with fail
    refine (genw _ _ l1 (by omega)).mono ?_
    rintro e w1 ⟨rfl, hk1⟩
    rw [hg]
    have hbw : Below w.heap.size w w1 := ((Below.refl _ _).alloc (Nat.le_refl _) _).trans (hk1.mono (by simp))
    have hs1 : w.heap.size < w1.heap.size := by have := hk1.size; simp at this; omega
    have c0 : w1.cell? ⟨w.heap.size, 0, none⟩ = some (.string a0_0) := (hk1.cell (p := ⟨w.heap.size, 0, none⟩) (by simp)).trans (by simp)
    have c1 : w1.cell? ⟨w.heap.size, 1, none⟩ = some (.string a0_1) := (hk1.cell (p := ⟨w.heap.size, 1, none⟩) (by simp)).trans (by simp)
    have c2 : w1.cell? ⟨w.heap.size, 2, none⟩ = some (.int .u32 a0_2) := (hk1.cell (p := ⟨w.heap.size, 2, none⟩) (by simp)).trans (by simp)
    have c3 : w1.cell? ⟨w.heap.size, 3, none⟩ = some (.int .u64 a0_3) := (hk1.cell (p := ⟨w.heap.size, 3, none⟩) (by simp)).trans (by simp)
    have c4 : w1.cell? ⟨w.heap.size, 4, none⟩ = some (.int .i64 a0_4) := (hk1.cell (p := ⟨w.heap.size, 4, none⟩) (by simp)).trans (by simp)
    have c5 : w1.cell? ⟨w.heap.size, 5, none⟩ = some (.int .i64 a0_5) := (hk1.cell (p := ⟨w.heap.size, 5, none⟩) (by simp)).trans (by simp)
    have u5 : w1.frozen? ⟨w.heap.size, 5, none⟩ = false := (hk1.frozen (p := ⟨w.heap.size, 5, none⟩) (by simp)).trans (by simp)
    have cA0 : w1.cell? ⟨w.heap.size, 0, none⟩ = some (.string a0_0) := c0
    have cA1 : w1.cell? ⟨w.heap.size, 1, none⟩ = some (.string a0_1) := c1
    have cA2 : w1.cell? ⟨w.heap.size, 2, none⟩ = some (.int .u32 a0_2) := c2
    have cA3 : w1.cell? ⟨w.heap.size, 3, none⟩ = some (.int .u64 a0_3) := c3
    have cA4 : w1.cell? ⟨w.heap.size, 4, none⟩ = some (.int .i64 a0_4) := c4
    have cA5 : w1.cell? ⟨w.heap.size, 5, none⟩ = some (.int .i64 a0_5) := c5
    have hBw : Below w.heap.size w w1 := hbw
    have hB : Below (w.heap.size + 1) w1 w1 := Below.refl _ _
    have hN : w.heap.size + 1 ≤ w1.heap.size := by omega
    have hlt : w.heap.size < w.heap.size + 1 := by omega
    have hN0 : w.heap.size ≤ w1.heap.size := Nat.le_trans (Nat.le_succ _) hN
    clear hk1 hbw
    go_wp2_with (first
      | (go_at_call 36; refine (flushw _ _ _ l1 (by omega)).mono ?_; rintro e w' ⟨rfl, hk⟩; have hq := box_then (by assumption) hN hk; clear hk; have d0 := box_cell hq (p := ⟨w.heap.size, 0, none⟩) hlt cA0; have d1 := box_cell hq (p := ⟨w.heap.size, 1, none⟩) hlt cA1; have d2 := box_cell hq (p := ⟨w.heap.size, 2, none⟩) hlt cA2; have d3 := box_cell hq (p := ⟨w.heap.size, 3, none⟩) hlt cA3; have d4 := box_cell hq (p := ⟨w.heap.size, 4, none⟩) hlt cA4; have d5 := box_cell hq (p := ⟨w.heap.size, 5, none⟩) hlt cA5)
      | (go_at_call 46; refine (tickw _ _ l1 (by omega)).mono ?_; rintro e w' ⟨rfl, hk⟩; have hq := box_then (by assumption) hN hk; clear hk; have d0 := box_cell hq (p := ⟨w.heap.size, 0, none⟩) hlt cA0; have d1 := box_cell hq (p := ⟨w.heap.size, 1, none⟩) hlt cA1; have d2 := box_cell hq (p := ⟨w.heap.size, 2, none⟩) hlt cA2; have d3 := box_cell hq (p := ⟨w.heap.size, 3, none⟩) hlt cA3; have d4 := box_cell hq (p := ⟨w.heap.size, 4, none⟩) hlt cA4; have d5 := box_cell hq (p := ⟨w.heap.size, 5, none⟩) hlt cA5)
      | (go_at_call 49; refine (alivew _ _ _ _ _ _ _ _ (by omega) (by omega)).mono ?_; rintro e w' ⟨rfl, hk⟩; have hq := box_then (by assumption) hN hk; clear hk; have d0 := box_cell hq (p := ⟨w.heap.size, 0, none⟩) hlt cA0; have d1 := box_cell hq (p := ⟨w.heap.size, 1, none⟩) hlt cA1; have d2 := box_cell hq (p := ⟨w.heap.size, 2, none⟩) hlt cA2; have d3 := box_cell hq (p := ⟨w.heap.size, 3, none⟩) hlt cA3; have d4 := box_cell hq (p := ⟨w.heap.size, 4, none⟩) hlt cA4; have d5 := box_cell hq (p := ⟨w.heap.size, 5, none⟩) hlt cA5)
      | (go_at_call 48; refine (lives07 _).mono ?_; rintro e w' ⟨rfl, hk⟩; have hq := box_then (by assumption) hN hk; clear hk))
  all_goals first
    | (go_ret; exact ⟨rfl, hBw.trans (Below.mono (show Below (w.heap.size + 1) _ _ by assumption) (by omega))⟩)
    | skip
  all_goals
    have hqd := hq.drew
    go_region_held3 (fun w' => w'.cell? ⟨w.heap.size, 0, none⟩ = some (.string a0_0) ∧ w'.cell? ⟨w.heap.size, 1, none⟩ = some (.string a0_1) ∧ w'.cell? ⟨w.heap.size, 2, none⟩ = some (.int .u32 a0_2) ∧ w'.cell? ⟨w.heap.size, 3, none⟩ = some (.int .u64 a0_3) ∧ w'.cell? ⟨w.heap.size, 4, none⟩ = some (.int .i64 a0_4) ∧ w'.cell? ⟨w.heap.size, 5, none⟩ = some (.int .i64 a0_5))
      (first
        | go_keep
        | exact ⟨box_cell (by assumption) hlt cA0, box_cell (by assumption) hlt cA1, box_cell (by assumption) hlt cA2, box_cell (by assumption) hlt cA3, box_cell (by assumption) hlt cA4, box_cell (by assumption) hlt cA5⟩)
      (first
        | (go_at_call 46; refine (tickw _ _ l1 (by omega)).mono ?_; rintro e w' ⟨rfl, hk⟩; have hq := box_then (by assumption) hN hk; clear hk)
        | (go_at_call 49; refine (alivew _ _ _ _ _ _ _ _ (by omega) (by omega)).mono ?_; rintro e w' ⟨rfl, hk⟩; have hq := box_then (by assumption) hN hk; clear hk)
        | (go_at_call 48; refine (lives07 _).mono ?_; rintro e w' ⟨rfl, hk⟩; have hq := box_then (by assumption) hN hk; clear hk))
  all_goals go_wp2
  all_goals go_ret
  all_goals exact ⟨rfl, hBw.trans (Below.mono (show Below (w.heap.size + 1) _ _ by assumption) (by omega))⟩
theorem walk_EpochsDead (a0_0 : ByteArray) (a0_1 : ByteArray) (a0_2 : Int) (a0_3 : Int) (a0_4 : Int) (a0_5 : Int) (a1 : Int) (a2 : Int) (w : World) (w0_0 : a0_0.size ≤ maxLen) (w0_1 : a0_1.size ≤ maxLen) (w0_2 : (Lit.int .u32 a0_2).wf = true) (w0_3 : (Lit.int .u64 a0_3).wf = true) (w0_4 : (Lit.int .i64 a0_4).wf = true) (w0_5 : (Lit.int .i64 a0_5).wf = true) (w1 : (Lit.int .u64 a1).wf = true) (w2 : (Lit.int .i64 a2).wf = true) :
    Calls Try.prog 14 #[.agg #[.string a0_0, .string a0_1, .int .u32 a0_2, .int .u64 a0_3, .int .i64 a0_4, .int .i64 a0_5], .int .u64 a1, .int .i64 a2] w fun e w' => e = .returned (.bool true) ∧ Below w.heap.size w w' := by
  obtain ⟨l1, u1⟩ := bounds_u64 w1
  have hr := flushf_range a1 a2 l1 (by omega)
  have ht := tickf_range a1
  have key : ∀ h, h ≤ genf a1 → ((flushes a1 = true ∧ a2 < 1 ∧ alivef h a0_4 (flushf a1 a2) = false) ∨ (flushes a1 = true ∧ ¬ a2 < 1) ∨ flushes a1 = false) ∧ (alivef h a0_4 a1 = true ∨ (alivef h a0_4 a1 = false ∧ alivef h a0_4 (tickf a1) = false ∧ alivef h a0_4 (flushf a1 a2) = false)) := by
    intro h hh
    constructor
    · cases c : flushes a1
      · exact .inr (.inr rfl)
      · by_cases d : a2 < 1
        · exact .inl ⟨rfl, d, dead_now h a0_4 a1 a2 hh c d⟩
        · exact .inr (.inl ⟨rfl, d⟩)
    · cases c : alivef h a0_4 a1
      · exact .inr ⟨rfl, dead_tick h a0_4 a1 hh c, dead_flush h a0_4 a1 a2 hh c⟩
      · exact .inl rfl
  by_cases hx : genf a1 < a0_5
  · have k := key (genf a1) (Int.le_refl _)
    exact dead_lt a0_0 a0_1 a0_2 a0_3 a0_4 a0_5 a1 a2 w l1 u1 _ rfl _ rfl hr.1 hr.2 _ rfl ht.1 ht.2 hx _ rfl k.1 k.2
  · have k := key a0_5 (by omega)
    exact dead_ge a0_0 a0_1 a0_2 a0_3 a0_4 a0_5 a1 a2 w l1 u1 _ rfl _ rfl hr.1 hr.2 _ rfl ht.1 ht.2 hx _ rfl k.1 k.2
end Go.Proofs.Yteofbgbjibbdaab
