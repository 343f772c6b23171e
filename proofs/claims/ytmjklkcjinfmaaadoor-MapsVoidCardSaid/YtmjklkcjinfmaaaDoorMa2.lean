/- Maps: what the calls give, one after the other. -/
import Derived.Test.YtmjklkcjinfmaaaDoorMa1
namespace Go.Proofs.YtmjklkcjinfmaaaDoor
open Go.RowKit
set_option linter.unusedVariables false
set_option maxHeartbeats 400000 in
set_option maxRecDepth 100000 in
theorem staysw (x : Ask) (k : Int) (w : World) : Calls Tryd.prog 88 #[.agg (askC x).toArray, .int .u8 k] w fun e w' => e = .returned (.agg (givC (x.stay k)).toArray) ∧ Below w.heap.size w w' := by
  go_enter Tryd.func88, Tryd.ntmps88
  go_wp2_with (first
    | (refine wpList_box_bk rfl 110 (.tmp 0) rfl (askC x) rfl ?_; intro W1 q1 h1)
    | (refine wpList_alloc_bk rfl 83 (givC Giv.none) alloc_giv rfl ?_; intro W2 q2 h2; obtain ⟨c0, c1, c2, c3, c4, c5, c6, c7, c9, c11, c14, c15, c16⟩ := ask_cells (h1.bk.new h2.below))
    | (refine wpList_was rfl (.tmp 7) rfl q1 x (h1.bk.new h2.below) rfl ?_)
    | (refine wpList_giv rfl (.tmp 4) (.tmp 15) rfl q2 Giv.none (x.stay k) h2.bk rfl rfl ?_; intro W hW kW))
  refine bodyPost_ret (ret_giv rfl _ hW rfl) rfl ⟨rfl, ?_⟩
  exact fr_set (fr_new h1.below h2.below) kW (h2.at h1.below)
end Go.Proofs.YtmjklkcjinfmaaaDoor
