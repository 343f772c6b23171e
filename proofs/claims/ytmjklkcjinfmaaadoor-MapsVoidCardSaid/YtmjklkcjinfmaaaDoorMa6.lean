/- Maps: counting. -/
import Derived.Test.YtmjklkcjinfmaaaDoorMa5
import Derived.Test.YtmjklkcjinfmaaaDoorNu
namespace Go.Proofs.YtmjklkcjinfmaaaDoor
open Go.RowKit
set_option linter.unusedVariables false
def Ask.cnt (x : Ask) (n : Int) : Giv := ⟨⟨8, n, Itm.none⟩, ⟨x.was.k, textB n, x.was.fl, u64 (x.ids + 1), x.was.dies, x.was.gen⟩, x.is, false, x.w, u64 (x.ids + 1)⟩
def Ask.count (x : Ask) (r : Int) : Giv := if (parseF x.was.v.data.toList).2 then x.cnt r else x.stay 9
set_option maxHeartbeats 4000000 in
set_option maxRecDepth 100000 in
theorem countsw (f : FuncId) (hcf : Fnc f) (r : Int) (x : Ask) (b : Nat) (w : World) (hb : w.cell? ⟨b, 0, none⟩ = some (fn0 f)) (hr : 0 ≤ r ∧ r ≤ 18446744073709551615) (hv : x.was.v.size ≤ maxLen) (hf : ∀ W, Calls Tryd.prog f #[.int .u64 (parseF x.was.v.data.toList).1, .int .u64 x.c.by_] W fun e w' => e = .returned (.int .u64 r) ∧ W = w') (htab : Lib.TabIs Tryd.prog w "internal/strconv.uint64pow10" .u64 Lib.pow10Tab) :
    Calls Tryd.prog 93 #[.agg (askC x).toArray, .pointer (some ⟨b, 0, none⟩)] w fun e w' => e = .returned (.agg (givC (x.count r)).toArray) ∧ Below w.heap.size w w' := by
  have HF := Lib.hid hf
  have HT := Lib.hid htab
  have HB := Lib.hid hb
  have hlt : b < w.heap.size := World.block_lt_of_cell? w _ hb
  unfold Fnc at hcf
  unfold Ask.count
  obtain ⟨r0, r1⟩ := hr
  clear hf hb htab
  obtain ⟨p, hp⟩ : ∃ p, parseF x.was.v.data.toList = p := ⟨_, rfl⟩
  obtain ⟨pn, po⟩ := p
  have HP := Lib.hid hp
  rw [hp] at HF ⊢
  clear hp
  cases po with
  | false =>
    rw [if_neg (by simp)]
    go_enter Tryd.func93, Tryd.ntmps93
    go_wp2_with (first
      | (refine wpList_box_bk rfl 110 (.tmp 0) rfl (askC x) rfl ?_; intro W1 q1 h1)
      | (refine wpList_alloc_bk rfl 83 (givC Giv.none) alloc_giv rfl ?_; intro W2 q2 h2; obtain ⟨c0, c1, c2, c3, c4, c5, c6, c7, c9, c11, c14, c15, c16⟩ := ask_cells (h1.bk.new h2.below))
      | (go_at_call 34; refine (parsew _ _ hv).mono ?_; rintro e W3 ⟨rfl, b3⟩; rw [HP.out])
      | (refine wpList_ask rfl (.tmp 2) rfl q1 x (h1.bk.new (fr_new h2.below b3)) rfl ?_)
      | (go_at_call 88; refine (staysw x 9 _).mono ?_; rintro e W4 ⟨rfl, b4⟩)
      | (refine wpList_giv rfl (.tmp 3) (.tmp 17) rfl q2 Giv.none _ (h2.bk.new (fr_new b3 b4)) rfl rfl ?_; intro W5 h5 k5))
    refine bodyPost_ret (ret_giv rfl _ h5 rfl) rfl ⟨rfl, ?_⟩
    exact fr_set (fr_new (fr_new (fr_new h1.below h2.below) b3) b4) k5 (h2.at h1.below)
  | true =>
    rw [if_pos rfl]
    go_enter Tryd.func93, Tryd.ntmps93
    go_wp2_with (first
      | (refine wpList_box_bk rfl 110 (.tmp 0) rfl (askC x) rfl ?_; intro W1 q1 h1)
      | (have _ := b4; refine wpList_alloc_bk rfl 83 (givC Giv.none) alloc_giv rfl ?_; intro W5 q5 h5)
      | (refine wpList_alloc_bk rfl 83 (givC Giv.none) alloc_giv rfl ?_; intro W2 q2 h2; obtain ⟨c0, c1, c2, c3, c4, c5, c6, c7, c9, c11, c14, c15, c16⟩ := ask_cells (h1.bk.new h2.below))
      | (go_at_call 34; refine (parsew _ _ hv).mono ?_; rintro e W3 ⟨rfl, b3⟩; rw [HP.out])
      | (refine wpList_ask rfl (.tmp 2) rfl q1 x (h1.bk.new (fr_new h2.below b3)) rfl ?_)
      | (go_at_call 88; refine (staysw x 8 _).mono ?_; rintro e W4 ⟨rfl, b4⟩)
      | (refine wpList_giv rfl (.tmp 6) (.tmp 19) rfl q5 Giv.none (x.stay 8) h5.bk rfl rfl ?_; intro W6 h6 k6; have HE := Lib.hid (fr_new (fr_new (fr_new h1.below h2.below) b3) b4); have HQ := Lib.hid (h5.at HE.out); have HA := Lib.hid ((h1.bk.new (fr_new (fr_new (fr_new h2.below b3) b4) h5.below)).keep k6 (by have e1 := h1.eq; have e2 := h5.eq; have e3 := (fr_new (fr_new h2.below b3) b4).size; have e4 := h1.size; omega)); have HG := Lib.hid (fr_set (fr_new HE.out h5.below) k6 HQ.out); obtain ⟨c0, c1, c2, c3, c4, c5, c6, c7, c9, c11, c14, c15, c16⟩ := ask_cells HA.out; have x0 := (HG.out.cell (p := ⟨b, 0, none⟩) hlt).trans HB.out)
      | (refine (HF.out _).mono ?_; rintro e W7 ⟨rfl, rfl⟩)
      | (refine wpList_gset rfl 29 (.tmp 27) (.tmp 25) rfl (by kernel_rfl) q5 1 _ _ ⟨⟨8, r, Itm.none⟩, x.was, x.is, false, x.w, x.ids⟩ h6 (by decide) rfl rfl rfl rfl ?_; intro W8 h8 k8; clear x0; have y1 := h8.at_ 17 _ rfl; have y2 := h8.at_ 1 _ rfl)
      | (refine wpList_gset rfl 29 (.tmp 31) (.tmp 30) rfl (by kernel_rfl) q5 17 _ _ ⟨⟨8, r, Itm.none⟩, x.was, x.is, false, x.w, u64 (x.ids + 1)⟩ h8 (by decide) rfl rfl rfl rfl ?_; intro W9 h9 k9; have z1 := h9.at_ 17 _ rfl; have z2 := h9.at_ 1 _ rfl)
      | (refine wpList_gset rfl 29 (.tmp 35) (.tmp 33) rfl (by kernel_rfl) q5 11 _ _ ⟨⟨8, r, Itm.none⟩, ⟨x.was.k, x.was.v, x.was.fl, u64 (x.ids + 1), x.was.dies, x.was.gen⟩, x.is, false, x.w, u64 (x.ids + 1)⟩ h9 (by decide) rfl rfl rfl rfl ?_; intro W10 h10 k10; have v1 := h10.at_ 1 _ rfl; have HH := Lib.hid (fr_set (fr_set (fr_set HG.out k8 HQ.out) k9 HQ.out) k10 HQ.out))
      | (go_at_call 33; refine (textnu r r0 r1 _ (tab_below HT.out HH.out)).mono ?_; rintro e W11 ⟨rfl, b11⟩)
      | (refine wpList_gset rfl 9 (.tmp 41) (.tmp 39) rfl (by kernel_rfl) q5 9 _ _ (x.cnt r) (h10.new b11) (by decide) rfl rfl rfl rfl ?_; intro W12 h12 k12)
      | (refine wpList_givl rfl (.tmp 6) rfl q5 _ h12 rfl ?_)
      | (refine wpList_giv rfl (.tmp 3) (.tmp 42) rfl q2 Giv.none _ (((h2.bk.new (fr_new (fr_new b3 b4) h5.below)).keep (((k6.trans k8 (fun _ _ s => s)).trans k9 (fun _ _ s => s)).trans k10 (fun _ _ s => s)) (by have e1 := h5.eq; have e2 := (fr_new b3 b4).size; have e3 := h2.size; omega)).new b11 |>.keep k12 (by have e1 := h5.eq; have e2 := (fr_new b3 b4).size; have e3 := h2.size; omega)) rfl rfl ?_; intro W14 h14 k14))
    refine bodyPost_ret (ret_giv rfl _ h14 rfl) rfl ⟨rfl, ?_⟩
    exact fr_set (fr_set (fr_new HH.out b11) k12 HQ.out) k14 (h2.at h1.below)
end Go.Proofs.YtmjklkcjinfmaaaDoor
