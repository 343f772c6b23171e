/- Maps: a call that reads, takes away, touches, flushes. -/
import Derived.Test.YtmjklkcjinfmaaaDoorMa3
namespace Go.Proofs.YtmjklkcjinfmaaaDoor
open Go.RowKit
set_option linter.unusedVariables false
def Ask.get (x : Ask) : Giv := if x.there then ⟨⟨11, 0, x.was⟩, x.was, x.is, false, x.w, x.ids⟩ else x.stay 12
def Ask.rem (x : Ask) : Giv := ⟨Ans.of 6, Itm.none, false, false, x.w, x.ids⟩
def Ask.touch (x : Ask) : Giv := ⟨Ans.of 7, ⟨x.was.k, x.was.v, x.was.fl, x.was.id, diesf x.w x.c.exp, x.was.gen⟩, x.is, false, x.w, x.ids⟩
def Ask.flush (x : Ask) : Giv := if flushes x.w then ⟨Ans.of 10, x.was, x.is, false, flushf x.w x.c.exp, x.ids⟩ else x.stay 5
set_option maxHeartbeats 4000000 in
set_option maxRecDepth 100000 in
theorem getw (x : Ask) (w : World) : Calls Tryd.prog 59 #[.agg (askC x).toArray] w fun e w' => e = .returned (.agg (givC x.get).toArray) ∧ Below w.heap.size w w' := by
  unfold Ask.get
  cases ht : x.there with
  | false =>
    rw [if_neg (by decide)]
    go_enter Tryd.func59, Tryd.ntmps59
    go_wp2_with (first
      | (refine wpList_box_bk rfl 110 (.tmp 0) rfl (askC x) rfl ?_; intro W1 q1 h1)
      | (refine wpList_alloc_bk rfl 83 (givC Giv.none) alloc_giv rfl ?_; intro W2 q2 h2; obtain ⟨c0, c1, c2, c3, c4, c5, c6, c7, c9, c11, c14, c15, c16⟩ := ask_cells (h1.bk.new h2.below); rw [ht] at c15)
      | (refine wpList_ask rfl (.tmp 1) rfl q1 x (h1.bk.new h2.below) rfl ?_)
      | (go_at_call 88; refine (staysw x 12 _).mono ?_; rintro e W3 ⟨rfl, b3⟩)
      | (refine wpList_giv rfl (.tmp 2) (.tmp 8) rfl q2 Giv.none (x.stay 12) (h2.bk.new b3) rfl rfl ?_; intro W5 h5 k5))
    refine bodyPost_ret (ret_giv rfl _ h5 rfl) rfl ⟨rfl, ?_⟩
    exact fr_set (fr_new (fr_new h1.below h2.below) b3) k5 (h2.at h1.below)
  | true =>
    rw [if_pos (by decide)]
    go_enter Tryd.func59, Tryd.ntmps59
    go_wp2_with (first
      | (refine wpList_box_bk rfl 110 (.tmp 0) rfl (askC x) rfl ?_; intro W1 q1 h1)
      | (have _ := b3; refine wpList_alloc_bk rfl 83 (givC Giv.none) alloc_giv rfl ?_; intro W4 q4 h4)
      | (refine wpList_alloc_bk rfl 83 (givC Giv.none) alloc_giv rfl ?_; intro W2 q2 h2; obtain ⟨c0, c1, c2, c3, c4, c5, c6, c7, c9, c11, c14, c15, c16⟩ := ask_cells (h1.bk.new h2.below); rw [ht] at c15)
      | (refine wpList_ask rfl (.tmp 1) rfl q1 x (h1.bk.new h2.below) rfl ?_)
      | (go_at_call 88; refine (staysw x 11 _).mono ?_; rintro e W3 ⟨rfl, b3⟩)
      | (refine wpList_giv rfl (.tmp 3) (.tmp 10) rfl q4 Giv.none (x.stay 11) h4.bk rfl rfl ?_; intro W5 h5 k5)
      | (refine wpList_was rfl (.tmp 11) rfl q1 x ((h1.bk.new (h2.below.trans ((b3.trans (h4.below.mono b3.size)).mono h2.below.size))).keep k5 (by have e1 := h1.eq; have e2 := h4.at (fr_new (fr_new h1.below h2.below) b3); have e4 := h4.eq; have e5 := b3.size; have e6 := h2.size; have e7 := h2.eq; have e8 := h1.size; omega)) rfl ?_)
      | (refine wpList_grec rfl (.tmp 14) (.tmp 12) rfl q4 2 _ x.was ⟨⟨11, 0, x.was⟩, x.was, x.is, false, x.w, x.ids⟩ h5 (by decide) rfl rfl rfl ?_; intro W6 h6 k6)
      | (refine wpList_givl rfl (.tmp 3) rfl q4 _ h6 rfl ?_)
      | (refine wpList_giv rfl (.tmp 2) (.tmp 15) rfl q2 Giv.none _ ((h2.bk.new (fr_new b3 h4.below)).keep (k5.trans k6 (fun _ _ s => s)) (by have e1 := h4.eq; have e2 := b3.size; have e3 := h2.size; omega)) rfl rfl ?_; intro W14 h14 k14))
    refine bodyPost_ret (ret_giv rfl _ h14 rfl) rfl ⟨rfl, ?_⟩
    have e0 := fr_new (fr_new (fr_new h1.below h2.below) b3) h4.below
    have e4 := h4.at (fr_new (fr_new h1.below h2.below) b3)
    exact fr_set (fr_set (fr_set e0 k5 e4) k6 e4) k14 (h2.at h1.below)
set_option maxHeartbeats 4000000 in
set_option maxRecDepth 100000 in
theorem removew (x : Ask) (w : World) : Calls Tryd.prog 66 #[.agg (askC x).toArray] w fun e w' => e = .returned (.agg (givC x.rem).toArray) ∧ Below w.heap.size w w' := by
  go_enter Tryd.func66, Tryd.ntmps66
  go_wp2_with (first
    | (refine wpList_box_bk rfl 110 (.tmp 0) rfl (askC x) rfl ?_; intro W1 q1 h1)
    | (have _ := b3; refine wpList_alloc_bk rfl 83 (givC Giv.none) alloc_giv rfl ?_; intro W4 q4 h4)
    | (refine wpList_alloc_bk rfl 83 (givC Giv.none) alloc_giv rfl ?_; intro W2 q2 h2)
    | (refine wpList_ask rfl (.tmp 1) rfl q1 x (h1.bk.new h2.below) rfl ?_)
    | (go_at_call 88; refine (staysw x 6 _).mono ?_; rintro e W3 ⟨rfl, b3⟩)
    | (refine wpList_giv rfl (.tmp 3) (.tmp 5) rfl q4 Giv.none (x.stay 6) h4.bk rfl rfl ?_; intro W5 h5 k5)
    | (refine wpList_grec rfl (.tmp 7) (.tmp 6) rfl q4 8 _ Itm.none ⟨Ans.of 6, Itm.none, x.is, false, x.w, x.ids⟩ h5 (by decide) rfl rfl rfl ?_; intro W6 h6 k6)
    | (refine wpList_gset rfl 4 (.tmp 8) (.const (.bool false)) rfl (by kernel_rfl) q4 14 _ _ x.rem h6 (by decide) rfl rfl rfl rfl ?_; intro W7 h7 k7)
    | (refine wpList_givl rfl (.tmp 3) rfl q4 _ h7 rfl ?_)
    | (refine wpList_giv rfl (.tmp 2) (.tmp 9) rfl q2 Giv.none _ ((h2.bk.new (fr_new b3 h4.below)).keep ((k5.trans k6 (fun _ _ s => s)).trans k7 (fun _ _ s => s)) (by have e1 := h4.eq; have e2 := b3.size; have e3 := h2.size; omega)) rfl rfl ?_; intro W14 h14 k14))
  refine bodyPost_ret (ret_giv rfl _ h14 rfl) rfl ⟨rfl, ?_⟩
  have e0 := fr_new (fr_new (fr_new h1.below h2.below) b3) h4.below
  have e4 := h4.at (fr_new (fr_new h1.below h2.below) b3)
  exact fr_set (fr_set (fr_set (fr_set e0 k5 e4) k6 e4) k7 e4) k14 (h2.at h1.below)
set_option maxHeartbeats 4000000 in
set_option maxRecDepth 100000 in
theorem touchw (x : Ask) (w : World) (hx : AskOk x) : Calls Tryd.prog 67 #[.agg (askC x).toArray] w fun e w' => e = .returned (.agg (givC x.touch).toArray) ∧ Below w.heap.size w w' := by
  have hw1 := hx.w.1
  have hw2 := hx.w.2
  have hd1 := hx.c.exp.2
  clear hx
  go_enter Tryd.func67, Tryd.ntmps67
  go_wp2_with (first
    | (refine wpList_box_bk rfl 110 (.tmp 0) rfl (askC x) rfl ?_; intro W1 q1 h1)
    | (have _ := b3; refine wpList_alloc_bk rfl 83 (givC Giv.none) alloc_giv rfl ?_; intro W4 q4 h4)
    | (refine wpList_alloc_bk rfl 83 (givC Giv.none) alloc_giv rfl ?_; intro W2 q2 h2)
    | (refine wpList_ask rfl (.tmp 1) rfl q1 x (h1.bk.new h2.below) rfl ?_)
    | (go_at_call 88; refine (staysw x 7 _).mono ?_; rintro e W3 ⟨rfl, b3⟩)
    | (refine wpList_giv rfl (.tmp 3) (.tmp 5) rfl q4 Giv.none (x.stay 7) h4.bk rfl rfl ?_; intro W5 h5 k5; obtain ⟨c0, c1, c2, c3, c4, c5, c6, c7, c9, c11, c14, c15, c16⟩ := ask_cells ((h1.bk.new (h2.below.trans ((b3.trans (h4.below.mono b3.size)).mono h2.below.size))).keep k5 (by have e1 := h1.eq; have e2 := h4.at (fr_new (fr_new h1.below h2.below) b3); have e4 := h4.eq; have e5 := b3.size; have e6 := h2.size; have e7 := h2.eq; have e8 := h1.size; omega)))
    | (go_at_call 92; refine (diesw _ _ _ hw1 hw2 hd1).mono ?_; rintro e W6 ⟨rfl, b6⟩)
    | (refine wpList_gset rfl 3 (.tmp 13) (.tmp 11) rfl (by kernel_rfl) q4 12 _ _ x.touch (h5.new b6) (by decide) rfl rfl rfl rfl ?_; intro W7 h7 k7)
    | (refine wpList_givl rfl (.tmp 3) rfl q4 _ h7 rfl ?_)
    | (refine wpList_giv rfl (.tmp 2) (.tmp 14) rfl q2 Giv.none _ ((((h2.bk.new (fr_new b3 h4.below)).keep k5 (by have e1 := h4.eq; have e2 := b3.size; have e3 := h2.size; omega)).new b6).keep k7 (by have e1 := h4.eq; have e2 := b3.size; have e3 := h2.size; omega)) rfl rfl ?_; intro W14 h14 k14))
  refine bodyPost_ret (ret_giv rfl _ h14 rfl) rfl ⟨rfl, ?_⟩
  have e0 := fr_new (fr_new (fr_new h1.below h2.below) b3) h4.below
  have e4 := h4.at (fr_new (fr_new h1.below h2.below) b3)
  exact fr_set (fr_set (fr_new (fr_set e0 k5 e4) b6) k7 e4) k14 (h2.at h1.below)
set_option maxHeartbeats 4000000 in
set_option maxRecDepth 100000 in
theorem flushmw (x : Ask) (w : World) (hx : AskOk x) : Calls Tryd.prog 71 #[.agg (askC x).toArray] w fun e w' => e = .returned (.agg (givC x.flush).toArray) ∧ Below w.heap.size w w' := by
  have hw1 := hx.w.1
  have hw2 := hx.w.2
  have hd0 := hx.c.exp.1
  have hd1 := hx.c.exp.2
  clear hx
  unfold Ask.flush
  cases ht : flushes x.w with
  | false =>
    rw [if_neg (by decide)]
    go_enter Tryd.func71, Tryd.ntmps71
    go_wp2_with (first
      | (refine wpList_box_bk rfl 110 (.tmp 0) rfl (askC x) rfl ?_; intro W1 q1 h1)
      | (refine wpList_alloc_bk rfl 83 (givC Giv.none) alloc_giv rfl ?_; intro W2 q2 h2; obtain ⟨c0, c1, c2, c3, c4, c5, c6, c7, c9, c11, c14, c15, c16⟩ := ask_cells (h1.bk.new h2.below))
      | (go_at_call 94; refine (flushw _ _ _ hw1 hw2).mono ?_; rintro e W6 ⟨rfl, b6⟩; rw [ht])
      | (refine wpList_ask rfl (.tmp 1) rfl q1 x (h1.bk.new (fr_new h2.below b6)) rfl ?_)
      | (go_at_call 88; refine (staysw x 5 _).mono ?_; rintro e W3 ⟨rfl, b3⟩)
      | (refine wpList_giv rfl (.tmp 2) (.tmp 18) rfl q2 Giv.none (x.stay 5) (h2.bk.new (fr_new b6 b3)) rfl rfl ?_; intro W5 h5 k5))
    refine bodyPost_ret (ret_giv rfl _ h5 rfl) rfl ⟨rfl, ?_⟩
    exact fr_set (fr_new (fr_new (fr_new h1.below h2.below) b6) b3) k5 (h2.at h1.below)
  | true =>
    rw [if_pos (by decide)]
    go_enter Tryd.func71, Tryd.ntmps71
    go_wp2_with (first
      | (refine wpList_box_bk rfl 110 (.tmp 0) rfl (askC x) rfl ?_; intro W1 q1 h1)
      | (have _ := b3; refine wpList_alloc_bk rfl 83 (givC Giv.none) alloc_giv rfl ?_; intro W4 q4 h4)
      | (refine wpList_alloc_bk rfl 83 (givC Giv.none) alloc_giv rfl ?_; intro W2 q2 h2; obtain ⟨c0, c1, c2, c3, c4, c5, c6, c7, c9, c11, c14, c15, c16⟩ := ask_cells (h1.bk.new h2.below))
      | (go_at_call 94; refine (flushw _ _ _ hw1 hw2).mono ?_; rintro e W6 ⟨rfl, b6⟩; rw [ht])
      | (refine wpList_ask rfl (.tmp 1) rfl q1 x (h1.bk.new (fr_new h2.below b6)) rfl ?_)
      | (go_at_call 88; refine (staysw x 10 _).mono ?_; rintro e W3 ⟨rfl, b3⟩)
      | (refine wpList_giv rfl (.tmp 5) (.tmp 20) rfl q4 Giv.none (x.stay 10) h4.bk rfl rfl ?_; intro W5 h5 k5)
      | (refine wpList_gset rfl 29 (.tmp 22) (.tmp 21) rfl (by kernel_rfl) q4 16 _ _ ⟨Ans.of 10, x.was, x.is, false, flushf x.w x.c.exp, x.ids⟩ h5 (by decide) rfl rfl rfl rfl ?_; intro W7 h7 k7)
      | (refine wpList_givl rfl (.tmp 5) rfl q4 _ h7 rfl ?_)
      | (refine wpList_giv rfl (.tmp 2) (.tmp 23) rfl q2 Giv.none _ ((h2.bk.new (fr_new (fr_new b6 b3) h4.below)).keep (k5.trans k7 (fun _ _ s => s)) (by have e1 := h4.eq; have e2 := b3.size; have e3 := h2.size; have e4 := b6.size; omega)) rfl rfl ?_; intro W14 h14 k14))
    refine bodyPost_ret (ret_giv rfl _ h14 rfl) rfl ⟨rfl, ?_⟩
    have e1 := fr_new (fr_new (fr_new h1.below h2.below) b6) b3
    have e4 := h4.at e1
    exact fr_set (fr_set (fr_set (fr_new e1 h4.below) k5 e4) k7 e4) k14 (h2.at h1.below)
end Go.Proofs.YtmjklkcjinfmaaaDoor
