/- The words of a spot, as the chapter's law asks them. -/
import Derived.Test.YteofbgbjibbdaacPlLives
import Derived.Deep.RegionWith
namespace Go.Proofs.Yteofbgbjibbdaac
open Go.RowKit
set_option linter.unusedVariables false
set_option maxHeartbeats 4000000 in
theorem wordsw (b k s : Int) (w : World) :
    Calls Try.prog 46 #[.agg #[.int .i64 b, .int .i64 k, .int .i64 s]] w fun e w' => e = .returned (.agg #[.int .u64 (tagsf b k), .int .u64 (itemf b k s)]) ∧ Below w.heap.size w w' := by
  go_enter Try.func46, Try.ntmps46
  go_wp2_with fail
  obtain ⟨n, hn⟩ : ∃ n, n = w.heap.size := ⟨_, rfl⟩
  have hN : n + 2 ≤ ((w.alloc (.cells #[.int .i64 b, .int .i64 k, .int .i64 s] 41)).alloc (.cells #[.int .u64 0, .int .u64 0] 58)).heap.size := by simp; omega
  have hB : Below (n + 2) ((w.alloc (.cells #[.int .i64 b, .int .i64 k, .int .i64 s] 41)).alloc (.cells #[.int .u64 0, .int .u64 0] 58)) ((w.alloc (.cells #[.int .i64 b, .int .i64 k, .int .i64 s] 41)).alloc (.cells #[.int .u64 0, .int .u64 0] 58)).drew := (Below.refl _ _).drew
  have hlt : w.heap.size < n + 2 := by omega
  have hlt' : w.heap.size + 1 < n + 2 := by omega
  go_region_with (first
      | (go_at_call 23; refine (tagsw _ _ _).mono ?_; rintro e w' ⟨rfl, hk⟩; have hq := box_then (by assumption) hN hk; clear hk
         have c0 : w'.cell? ⟨w.heap.size, 0, none⟩ = some (.int .i64 b) := box_cell hq hlt (by simp)
         have c1 : w'.cell? ⟨w.heap.size, 1, none⟩ = some (.int .i64 k) := box_cell hq hlt (by simp)
         have c2 : w'.cell? ⟨w.heap.size, 2, none⟩ = some (.int .i64 s) := box_cell hq hlt (by simp))
      | (go_at_call 25; refine (itemw _ _ _ _).mono ?_; rintro e w' ⟨rfl, hk⟩; have hq := box_then (by assumption) hN hk; clear hk
         have d0 : w'.cell? ⟨w.heap.size + 1, 0, none⟩ = some (.int .u64 0) := box_cell hq hlt' (by simp)
         have d1 : w'.cell? ⟨w.heap.size + 1, 1, none⟩ = some (.int .u64 0) := box_cell hq hlt' (by simp)
         have f0 : w'.frozen? ⟨w.heap.size + 1, 0, none⟩ = false := (hq.frozen (p := ⟨w.heap.size + 1, 0, none⟩) hlt').trans (by simp)
         have f1 : w'.frozen? ⟨w.heap.size + 1, 1, none⟩ = false := (hq.frozen (p := ⟨w.heap.size + 1, 1, none⟩) hlt').trans (by simp)))
  all_goals go_wp2
  all_goals
    refine bodyPost_ret (v := .agg #[.int .u64 (tagsf b k), .int .u64 (itemf b k s)]) (by simp [results, Try.results46, go_sem, d0, d1]) rfl ⟨rfl, ?_⟩
    refine ((Below.refl w.heap.size w).alloc (Nat.le_refl _) _ |>.alloc (by simp) _ |>.trans (hq.mono (by omega))) |>.setCell (by simp) _ |>.setCell (by simp) _
end Go.Proofs.Yteofbgbjibbdaac
