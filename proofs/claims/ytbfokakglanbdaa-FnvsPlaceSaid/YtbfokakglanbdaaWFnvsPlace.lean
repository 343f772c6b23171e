/- The law FnvsPlace. -/
import Derived.Test.YtbfokakglanbdaaLives01
import Derived.Deep.RegionHeld3
namespace Go.Proofs.Ytbfokakglanbdaa
open Go.RowKit
set_option linter.unusedVariables false
set_option maxHeartbeats 4000000 in
theorem walk_FnvsPlace (a0 : Int) (a1_0 : Int) (a1_1 : Int) (a2 : Int) (w : World) (w0 : (Lit.int .u64 a0).wf = true) (w1_0 : (Lit.int .i64 a1_0).wf = true) (w1_1 : (Lit.int .i64 a1_1).wf = true) (w2 : (Lit.int .i64 a2).wf = true) :
    Calls Try.prog 4 #[.int .u64 a0, .agg #[.int .i64 a1_0, .int .i64 a1_1], .int .i64 a2] w fun e w' => e = .returned (.bool true) ∧ Below w.heap.size w w' := by
  obtain ⟨l0, u0⟩ := bounds_u64 w0
  clear w0 w1_0 w1_1 w2
  obtain ⟨n, hn⟩ : ∃ n, n = w.heap.size + 1 := ⟨_, rfl⟩
  have hB : Below n (w.alloc (.cells #[.int .i64 a1_0, .int .i64 a1_1] 28)) (w.alloc (.cells #[.int .i64 a1_0, .int .i64 a1_1] 28)).drew := (Below.refl _ _).drew
  have hN : n ≤ (w.alloc (.cells #[.int .i64 a1_0, .int .i64 a1_1] 28)).heap.size := by simp [hn]
  have hlt : w.heap.size < n := by omega
  have HN := Lib.hid hn
  clear hn
  go_enter Try.func4, Try.ntmps4
  go_wp2_with fail
  go_region_held3 (fun w' => w'.cell? ⟨w.heap.size, 0, none⟩ = some (.int .i64 a1_0) ∧ w'.cell? ⟨w.heap.size, 1, none⟩ = some (.int .i64 a1_1))
    (first
      | exact ⟨by simp, by simp⟩
      | exact ⟨box_cell (by assumption) hlt (by simp), box_cell (by assumption) hlt (by simp)⟩)
    (first
      | (go_at_call 19; refine (size_any _ _).mono ?_; rintro e w' ⟨rfl, rfl⟩)
      | (go_at_call 20; refine (refsize_any _ _).mono ?_; rintro e w' ⟨rfl, rfl⟩)
      | (go_at_call 21; refine (bucket_any _ _ _ l0 (by omega)).mono ?_; rintro e w' ⟨rfl, rfl⟩)
      | (go_at_call 22; refine (refbucket_any _ _ _ l0 (by omega)).mono ?_; rintro e w' ⟨rfl, rfl⟩)
      | (go_at_call 23; refine (other_any _ _ _ _).mono ?_; rintro e w' ⟨rfl, rfl⟩)
      | (go_at_call 24; refine (refother_any _ _ _ _).mono ?_; rintro e w' ⟨rfl, rfl⟩)
      | (go_at_call 25; refine (stripe_any _ _ _).mono ?_; rintro e w' ⟨rfl, hk⟩; have hq := box_then (by assumption) hN hk; clear hk)
      | (go_at_call 26; refine (refstripe_any _ _ _).mono ?_; rintro e w' ⟨rfl, hk⟩; have hq := box_then (by assumption) hN hk; clear hk)
      | (go_at_call 14; refine (lives01 _).mono ?_; rintro e w' ⟨rfl, hk⟩; have hq := box_then (by assumption) hN hk; clear hk))
  go_wp2
  go_ret
  exact ⟨rfl, box_out HN.out (by assumption)⟩
end Go.Proofs.Ytbfokakglanbdaa
