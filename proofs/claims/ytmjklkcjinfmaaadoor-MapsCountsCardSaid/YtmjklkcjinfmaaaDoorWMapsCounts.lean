/- MapsCounts. -/
import Derived.Test.YtmjklkcjinfmaaaDoorMaCa
import Derived.Test.YtmjklkcjinfmaaaDoorMaCb
import Derived.Test.YtmjklkcjinfmaaaDoorMaCc
import Derived.Test.YtmjklkcjinfmaaaDoorMaCd
import Derived.Test.YtmjklkcjinfmaaaDoorOpen
namespace Go.Proofs.YtmjklkcjinfmaaaDoor
open Go.RowKit Go.Maps
set_option linter.unusedVariables false
set_option maxHeartbeats 4000000 in
set_option maxRecDepth 100000 in
theorem cnt_far (n b0 b1 fl : Int) (tx : ByteArray) (w : World) (hs : 1000 < tx.size) (htab : Lib.TabIs Tryd.prog w "internal/strconv.uint64pow10" .u64 Lib.pow10Tab) :
    Calls Tryd.prog 8 #[.int .u64 n, .agg #[.int .u64 b0, .int .u64 b1], .agg #[.int .u32 fl, .string tx]] w fun e w' => e = .returned (.bool true) ∧ Below w.heap.size w w' := by
  have hlen : decide (1000 < (tx.size : Int)) = true := decide_eq_true (by omega)
  have HT := Lib.hid htab
  clear hs htab
  go_enter Tryd.func8, Tryd.ntmps8
  go_wp2_with (first
    | ((with_reducible refine at_wp ?_); refine wpList_box_bk rfl 74 (.tmp 1) rfl [.int .u64 b0, .int .u64 b1] rfl ?_; intro U1 q4 u1)
    | ((with_reducible refine at_wp ?_); refine wpList_box_bk rfl 76 (.tmp 2) rfl [.int .u32 fl, .string tx] rfl ?_; intro U2 q5 u2; have f0 := u2.bk.at_ 0 _ rfl; have f1 := u2.bk.at_ 1 _ rfl; have HU := Lib.hid (fr_new u1.below u2.below); clear u1 u2)
    | (go_at_call 10; refine (lives36 _ (tab_below HT.out HU.out)).mono ?_; rintro e WL ⟨rfl, bl⟩))
  go_ret
  exact ⟨rfl, fr_new HU.out bl⟩
theorem walk_MapsCounts (a0 : Int) (a1_0 : Int) (a1_1 : Int) (a2_0 : Int) (a2_1 : ByteArray) (w : World) (w0 : (Lit.int .u64 a0).wf = true) (w1_0 : (Lit.int .u64 a1_0).wf = true) (w1_1 : (Lit.int .u64 a1_1).wf = true) (w2_0 : (Lit.int .u32 a2_0).wf = true) (w2_1 : a2_1.size ≤ maxLen) (htab : Lib.TabIs Tryd.prog w "internal/strconv.uint64pow10" .u64 Lib.pow10Tab) :
    Calls Tryd.prog 8 #[.int .u64 a0, .agg #[.int .u64 a1_0, .int .u64 a1_1], .agg #[.int .u32 a2_0, .string a2_1]] w fun e w' => e = .returned (.bool true) ∧ Below w.heap.size w w' := by
  by_cases hs : a2_1.size ≤ 1000
  · have h0 := bounds_u64 w0
    have h1 := bounds_u64 w1_0
    have h2 := bounds_u64 w1_1
    have h3 : 0 ≤ a2_0 ∧ a2_0 < 4294967296 := by have := bounds_u32 w2_0; omega
    obtain ⟨p, b⟩ : ∃ p, parseF a2_1.data.toList = p := ⟨_, rfl⟩
    obtain ⟨pn, pb⟩ := p
    by_cases hg : a1_1 < incrF a0 a1_0
    · cases pb with
      | true => exact cnt_a a0 a1_0 a1_1 a2_0 a2_1 _ _ _ _ _ w h0 h1 h2 h3 hs htab rfl rfl rfl rfl rfl hg pn b
      | false => exact cnt_b a0 a1_0 a1_1 a2_0 a2_1 _ _ _ _ _ w h0 h1 h2 h3 hs htab rfl rfl rfl rfl rfl hg pn b
    · cases pb with
      | true => exact cnt_c a0 a1_0 a1_1 a2_0 a2_1 _ _ _ _ _ w h0 h1 h2 h3 hs htab rfl rfl rfl rfl rfl hg pn b
      | false => exact cnt_d a0 a1_0 a1_1 a2_0 a2_1 _ _ _ _ _ w h0 h1 h2 h3 hs htab rfl rfl rfl rfl rfl hg pn b
  · exact cnt_far a0 a1_0 a1_1 a2_0 a2_1 w (by omega) htab
end Go.Proofs.YtmjklkcjinfmaaaDoor
