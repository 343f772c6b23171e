/- Law PlacesWord, walked. -/
import Derived.Test.YteofbgbjibbdaacPlLives
import Derived.Test.YteofbgbjibbdaacPl4
import Derived.Deep.RegionHeld3
namespace Go.Proofs.Yteofbgbjibbdaac
open Go.RowKit
set_option linter.unusedVariables false
set_option maxHeartbeats 8000000 in
theorem walk_PlacesWord (x : Int) (n : Int) (z0 : Int) (z1 : Int) (z2 : Int) (w : World) (w0 : (Lit.int .u64 x).wf = true) (w1 : (Lit.int .i64 n).wf = true) (w2_0 : (Lit.int .i64 z0).wf = true) (w2_1 : (Lit.int .i64 z1).wf = true) (w2_2 : (Lit.int .i64 z2).wf = true) :
    Calls Try.prog 6 #[.int .u64 x, .int .i64 n, .agg #[.int .i64 z0, .int .i64 z1, .int .i64 z2]] w fun e w' => e = .returned (.bool true) ∧ Below w.heap.size w w' := by
  obtain ⟨l0, u0⟩ := bounds_u64 w0
  obtain ⟨l1, u1⟩ := bounds_i64 w1
  clear w0 w1 w2_0 w2_1 w2_2
  go_enter Try.func6, Try.ntmps6
  go_wp2_with fail
  refine (asw _ _ l0 (by omega)).mono ?_
  rintro e w1 ⟨rfl, hk1⟩
  go_wp2_with fail
  refine (ras _ _ l0 (by omega)).mono ?_
  rintro e w2 ⟨rfl, rfl⟩
  have hN : w.heap.size + 1 ≤ (w.alloc (.cells #[.int .i64 z0, .int .i64 z1, .int .i64 z2] 47)).heap.size := by simp
  have hB : Below (w.heap.size + 1) (w.alloc (.cells #[.int .i64 z0, .int .i64 z1, .int .i64 z2] 47)) w1.drew := (hk1.mono hN).drew
  have hlt : w.heap.size < w.heap.size + 1 := by omega
  clear hk1
  go_wp2_with fail
  simp only [List.append_eq, List.cons_append, List.nil_append]
  go_region_held3 (fun w' => w'.cell? ⟨w.heap.size, 0, none⟩ = some (.int .i64 z0) ∧ w'.cell? ⟨w.heap.size, 1, none⟩ = some (.int .i64 z1) ∧ w'.cell? ⟨w.heap.size, 2, none⟩ = some (.int .i64 z2))
    (first
      | exact ⟨box_cell (by assumption) hlt (by simp), box_cell (by assumption) hlt (by simp), box_cell (by assumption) hlt (by simp)⟩)
    (first
      | (go_at_call 34; refine (tgtw _ _ l0 (by omega)).mono ?_; rintro e w' ⟨rfl, hk⟩; have hq := box_then (by assumption) hN hk; clear hk)
      | (go_at_call 36; refine (spotsw _ _ l0 (by omega)).mono ?_; rintro e w' ⟨rfl, hk⟩; have hq := box_then (by assumption) hN hk; clear hk)
      | (go_at_call 38; refine (atw8 _ _ _ l0 (by omega) l1 u1).mono ?_; rintro e w' ⟨rfl, hk⟩; have hq := box_then (by assumption) hN hk; clear hk)
      | (go_at_call 40; refine (wordw8 _ _ _).mono ?_; rintro e w' ⟨rfl, rfl⟩)
      | (go_at_call 42; refine (mayw _ _ _ _).mono ?_; rintro e w' ⟨rfl, rfl⟩)
      | (go_at_call 35; refine (rtgt _ _ l0 (by omega)).mono ?_; rintro e w' ⟨rfl, hk⟩; have hq := box_then (by assumption) hN hk; clear hk)
      | (go_at_call 37; refine (rspots _ _ l0 (by omega)).mono ?_; rintro e w' ⟨rfl, hk⟩; have hq := box_then (by assumption) hN hk; clear hk)
      | (go_at_call 39; refine (rat _ _ _ l0 (by omega)).mono ?_; rintro e w' ⟨rfl, hk⟩; have hq := box_then (by assumption) hN hk; clear hk)
      | (go_at_call 41; refine (rword _ _ _).mono ?_; rintro e w' ⟨rfl, rfl⟩)
      | (go_at_call 43; refine (rmay _ _ _ _).mono ?_; rintro e w' ⟨rfl, rfl⟩)
      | (go_at_call 31; refine (lives08 _).mono ?_; rintro e w' ⟨rfl, hk⟩; have hq := box_then (by assumption) hN hk; clear hk))
  go_wp2
  go_ret
  exact ⟨rfl, box_out rfl (by assumption)⟩
end Go.Proofs.Yteofbgbjibbdaac
