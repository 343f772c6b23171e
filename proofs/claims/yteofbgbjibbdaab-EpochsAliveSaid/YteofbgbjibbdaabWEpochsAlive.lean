/- The law EpochsAlive. -/
import Derived.Test.YteofbgbjibbdaabEpLives
import Derived.Test.YteofbgbjibbdaabEpRef
import Derived.Deep.RegionHeld3
namespace Go.Proofs.Yteofbgbjibbdaab
open Go.RowKit
set_option linter.unusedVariables false
set_option maxHeartbeats 4000000 in
theorem walk_EpochsAlive (a0_0 : ByteArray) (a0_1 : ByteArray) (a0_2 : Int) (a0_3 : Int) (a0_4 : Int) (a0_5 : Int) (a1 : Int) (a2 : Int) (w : World) (w0_0 : a0_0.size ≤ maxLen) (w0_1 : a0_1.size ≤ maxLen) (w0_2 : (Lit.int .u32 a0_2).wf = true) (w0_3 : (Lit.int .u64 a0_3).wf = true) (w0_4 : (Lit.int .i64 a0_4).wf = true) (w0_5 : (Lit.int .i64 a0_5).wf = true) (w1 : (Lit.int .u64 a1).wf = true) (w2 : (Lit.int .i64 a2).wf = true) :
    Calls Try.prog 12 #[.agg #[.string a0_0, .string a0_1, .int .u32 a0_2, .int .u64 a0_3, .int .i64 a0_4, .int .i64 a0_5], .int .u64 a1, .int .i64 a2] w fun e w' => e = .returned (.bool true) ∧ Below w.heap.size w w' := by
  obtain ⟨l1, u1⟩ := bounds_u64 w1
  obtain ⟨l2, u2⟩ := bounds_i64 w2
  clear w0_0 w0_1 w0_2 w0_3 w0_4 w0_5 w1 w2
  have hB : Below (w.heap.size + 1) (w.alloc (.cells #[.string a0_0, .string a0_1, .int .u32 a0_2, .int .u64 a0_3, .int .i64 a0_4, .int .i64 a0_5] 65)) (w.alloc (.cells #[.string a0_0, .string a0_1, .int .u32 a0_2, .int .u64 a0_3, .int .i64 a0_4, .int .i64 a0_5] 65)).drew := (Below.refl _ _).drew
  have hN : w.heap.size + 1 ≤ (w.alloc (.cells #[.string a0_0, .string a0_1, .int .u32 a0_2, .int .u64 a0_3, .int .i64 a0_4, .int .i64 a0_5] 65)).heap.size := by simp
  have hlt : w.heap.size < w.heap.size + 1 := by omega
  go_enter Try.func12, Try.ntmps12
  go_wp2_with fail
  go_region_held3 (fun w' => w'.cell? ⟨w.heap.size, 0, none⟩ = some (.string a0_0) ∧ w'.cell? ⟨w.heap.size, 1, none⟩ = some (.string a0_1) ∧ w'.cell? ⟨w.heap.size, 2, none⟩ = some (.int .u32 a0_2) ∧ w'.cell? ⟨w.heap.size, 3, none⟩ = some (.int .u64 a0_3) ∧ w'.cell? ⟨w.heap.size, 4, none⟩ = some (.int .i64 a0_4) ∧ w'.cell? ⟨w.heap.size, 5, none⟩ = some (.int .i64 a0_5))
    (first
      | exact ⟨by simp, by simp, by simp, by simp, by simp, by simp⟩
      | exact ⟨box_cell (by assumption) hlt (by simp), box_cell (by assumption) hlt (by simp), box_cell (by assumption) hlt (by simp), box_cell (by assumption) hlt (by simp), box_cell (by assumption) hlt (by simp), box_cell (by assumption) hlt (by simp)⟩)
    (first
      | (go_at_call 49; refine (alivew _ _ _ _ _ _ _ _ l1 (by omega)).mono ?_; rintro e w' ⟨rfl, hk⟩; have hq := box_then (by assumption) hN hk; clear hk)
      | (go_at_call 50; refine (ralive _ _ _ _ _ _ _ _ l1 (by omega)).mono ?_; rintro e w' ⟨rfl, hk⟩; have hq := box_then (by assumption) hN hk; clear hk)
      | (go_at_call 51; refine (diesw _ _ _ l1 (by omega) u2).mono ?_; rintro e w' ⟨rfl, hk⟩; have hq := box_then (by assumption) hN hk; clear hk)
      | (go_at_call 52; refine (rdies _ _ _ l1 (by omega)).mono ?_; rintro e w' ⟨rfl, rfl⟩)
      | (go_at_call 48; refine (lives07 _).mono ?_; rintro e w' ⟨rfl, hk⟩; have hq := box_then (by assumption) hN hk; clear hk))
  go_wp2
  go_ret
  exact ⟨rfl, box_out rfl (by assumption)⟩
end Go.Proofs.Yteofbgbjibbdaab
