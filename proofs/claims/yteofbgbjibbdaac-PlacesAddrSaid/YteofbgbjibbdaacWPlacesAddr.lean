/- Law PlacesAddr, walked. -/
import Derived.Test.YteofbgbjibbdaacPlLives
import Derived.Deep.RegionHeld3
namespace Go.Proofs.Yteofbgbjibbdaac
open Go.RowKit
set_option linter.unusedVariables false
set_option maxHeartbeats 8000000 in
theorem walk_PlacesAddr (b : Int) (k : Int) (s : Int) (r : Int) (w : World) (w0_0 : (Lit.int .i64 b).wf = true) (w0_1 : (Lit.int .i64 k).wf = true) (w0_2 : (Lit.int .i64 s).wf = true) (w1 : (Lit.int .i64 r).wf = true) :
    Calls Try.prog 5 #[.agg #[.int .i64 b, .int .i64 k, .int .i64 s], .int .i64 r] w fun e w' => e = .returned (.bool true) ∧ Below w.heap.size w w' := by
  obtain ⟨l1, u1⟩ := bounds_i64 w1
  clear w0_0 w0_1 w0_2 w1
  go_enter Try.func5, Try.ntmps5
  go_wp2_with fail
  have hN : w.heap.size + 1 ≤ (w.alloc (.cells #[.int .i64 b, .int .i64 k, .int .i64 s] 41)).heap.size := by simp
  have hB : Below (w.heap.size + 1) (w.alloc (.cells #[.int .i64 b, .int .i64 k, .int .i64 s] 41)) (w.alloc (.cells #[.int .i64 b, .int .i64 k, .int .i64 s] 41)).drew := (Below.refl _ _).drew
  have hlt : w.heap.size < w.heap.size + 1 := by omega
  go_region_held3 (fun w' => w'.cell? ⟨w.heap.size, 0, none⟩ = some (.int .i64 b) ∧ w'.cell? ⟨w.heap.size, 1, none⟩ = some (.int .i64 k) ∧ w'.cell? ⟨w.heap.size, 2, none⟩ = some (.int .i64 s))
    (first
      | exact ⟨by simp, by simp, by simp⟩
      | exact ⟨box_cell (by assumption) hlt (by simp), box_cell (by assumption) hlt (by simp), box_cell (by assumption) hlt (by simp)⟩)
    (first
      | (go_at_call 23; refine (tagsw _ _ _).mono ?_; rintro e w' ⟨rfl, hk⟩; have hq := box_then (by assumption) hN hk; clear hk)
      | (go_at_call 25; refine (itemw _ _ _ _).mono ?_; rintro e w' ⟨rfl, hk⟩; have hq := box_then (by assumption) hN hk; clear hk)
      | (go_at_call 29; refine (versw _ _ _).mono ?_; rintro e w' ⟨rfl, hk⟩; have hq := box_then (by assumption) hN hk; clear hk)
      | (go_at_call 27; refine (refw _ _ (by omega)).mono ?_; rintro e w' ⟨rfl, rfl⟩)
      | (go_at_call 24; refine (rtags _ _ _).mono ?_; rintro e w' ⟨rfl, hk⟩; have hq := box_then (by assumption) hN hk; clear hk)
      | (go_at_call 26; refine (ritem _ _ _ _).mono ?_; rintro e w' ⟨rfl, hk⟩; have hq := box_then (by assumption) hN hk; clear hk)
      | (go_at_call 30; refine (rvers _ _ _).mono ?_; rintro e w' ⟨rfl, hk⟩; have hq := box_then (by assumption) hN hk; clear hk)
      | (go_at_call 28; refine (rref _ _ (by omega)).mono ?_; rintro e w' ⟨rfl, rfl⟩)
      | (go_at_call 31; refine (lives08 _).mono ?_; rintro e w' ⟨rfl, hk⟩; have hq := box_then (by assumption) hN hk; clear hk))
  go_wp2
  go_ret
  exact ⟨rfl, box_out rfl (by assumption)⟩
end Go.Proofs.Yteofbgbjibbdaac
