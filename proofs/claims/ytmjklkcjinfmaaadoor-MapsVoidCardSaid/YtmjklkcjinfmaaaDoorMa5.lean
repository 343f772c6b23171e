/- Maps: the closures. -/
import Derived.Test.YtmjklkcjinfmaaaDoorMa4
namespace Go.Proofs.YtmjklkcjinfmaaaDoor
open Go.RowKit
set_option linter.unusedVariables false
/-- A function of the program's own. -/
def Fnc (f : FuncId) : Prop := ∀ (args : Array Value) (W : World), Sem.run Tryd.prog (callFunc f args) W = .ok (.enter f args) W
/-- A function without captures; one that has captured one variable. -/
abbrev fn0 (f : FuncId) : Value := .func (.func f) #[] #[]
abbrev fn1 (f : FuncId) (b : Nat) : Value := .func (.func f) #[] #[.pointer (some ⟨b, 0, none⟩)]
theorem vs1w (x : Ask) (w : World) : Calls Tryd.prog 61 #[.agg (askC x).toArray] w fun e w' => e = .returned (.int .u8 0) ∧ Below w.heap.size w w' := by
  go_enter Tryd.func61, Tryd.ntmps61
  go_wp2_with fail
  go_ret
  first
    | exact ⟨rfl, Below.refl _ _⟩
    | exact ⟨rfl, (Below.refl _ _).alloc (Nat.le_refl _) _⟩
theorem vs2w (x : Ask) (w : World) : Calls Tryd.prog 62 #[.agg (askC x).toArray] w fun e w' => e = .returned (.int .u8 (if x.there then 2 else 0)) ∧ Below w.heap.size w w' := by
  cases ht : x.there with
  | false =>
    go_enter Tryd.func62, Tryd.ntmps62
    go_wp2_with (refine wpList_box_bk rfl 110 (.tmp 0) rfl (askC x) rfl ?_; intro W1 q1 h1; obtain ⟨c0, c1, c2, c3, c4, c5, c6, c7, c9, c11, c14, c15, c16⟩ := ask_cells h1.bk; rw [ht] at c15)
    go_ret
    exact ⟨rfl, h1.below⟩
  | true =>
    go_enter Tryd.func62, Tryd.ntmps62
    go_wp2_with (refine wpList_box_bk rfl 110 (.tmp 0) rfl (askC x) rfl ?_; intro W1 q1 h1; obtain ⟨c0, c1, c2, c3, c4, c5, c6, c7, c9, c11, c14, c15, c16⟩ := ask_cells h1.bk; rw [ht] at c15)
    go_ret
    exact ⟨rfl, h1.below⟩
theorem vs3w (x : Ask) (w : World) : Calls Tryd.prog 63 #[.agg (askC x).toArray] w fun e w' => e = .returned (.int .u8 (if x.there then 0 else 2)) ∧ Below w.heap.size w w' := by
  cases ht : x.there with
  | false =>
    go_enter Tryd.func63, Tryd.ntmps63
    go_wp2_with (refine wpList_box_bk rfl 110 (.tmp 0) rfl (askC x) rfl ?_; intro W1 q1 h1; obtain ⟨c0, c1, c2, c3, c4, c5, c6, c7, c9, c11, c14, c15, c16⟩ := ask_cells h1.bk; rw [ht] at c15)
    go_ret
    exact ⟨rfl, h1.below⟩
  | true =>
    go_enter Tryd.func63, Tryd.ntmps63
    go_wp2_with (refine wpList_box_bk rfl 110 (.tmp 0) rfl (askC x) rfl ?_; intro W1 q1 h1; obtain ⟨c0, c1, c2, c3, c4, c5, c6, c7, c9, c11, c14, c15, c16⟩ := ask_cells h1.bk; rw [ht] at c15)
    go_ret
    exact ⟨rfl, h1.below⟩
theorem vs4w (x : Ask) (w : World) : Calls Tryd.prog 65 #[.agg (askC x).toArray] w fun e w' => e = .returned (.int .u8 (if x.was.id = x.c.id then 0 else 3)) ∧ Below w.heap.size w w' := by
  by_cases h : x.was.id = x.c.id
  · rw [if_pos h]
    have hc : (x.was.id != x.c.id) = false := by simpa using h
    clear h
    go_enter Tryd.func65, Tryd.ntmps65
    go_wp2_with (refine wpList_box_bk rfl 110 (.tmp 0) rfl (askC x) rfl ?_; intro W1 q1 h1; obtain ⟨c0, c1, c2, c3, c4, c5, c6, c7, c9, c11, c14, c15, c16⟩ := ask_cells h1.bk)
    go_ret
    exact ⟨rfl, h1.below⟩
  · rw [if_neg h]
    have hc : (x.was.id != x.c.id) = true := by simpa using h
    clear h
    go_enter Tryd.func65, Tryd.ntmps65
    go_wp2_with (refine wpList_box_bk rfl 110 (.tmp 0) rfl (askC x) rfl ?_; intro W1 q1 h1; obtain ⟨c0, c1, c2, c3, c4, c5, c6, c7, c9, c11, c14, c15, c16⟩ := ask_cells h1.bk)
    go_ret
    exact ⟨rfl, h1.below⟩
def Ask.unless (x : Ask) (k : Int) : Giv := if k = 0 then x.store else x.stay k
set_option maxHeartbeats 4000000 in
set_option maxRecDepth 100000 in
theorem unlessw (f : FuncId) (hcf : Fnc f) (k : Int) (x : Ask) (b : Nat) (w : World) (hb : w.cell? ⟨b, 0, none⟩ = some (fn0 f)) (hf : ∀ W, Calls Tryd.prog f #[.agg (askC x).toArray] W fun e w' => e = .returned (.int .u8 k) ∧ Below W.heap.size W w') (hx : AskOk x) :
    Calls Tryd.prog 89 #[.agg (askC x).toArray, .pointer (some ⟨b, 0, none⟩)] w fun e w' => e = .returned (.agg (givC (x.unless k)).toArray) ∧ Below w.heap.size w w' := by
  have HF := Lib.hid hf
  unfold Fnc at hcf
  have HX := Lib.hid hx
  have HB := Lib.hid hb
  have hlt : b < w.heap.size := World.block_lt_of_cell? w _ hb
  unfold Ask.unless
  clear hf hx hb
  by_cases hk : k = 0
  · rw [if_pos hk]
    subst hk
    go_enter Tryd.func89, Tryd.ntmps89
    go_wp2_with (first
      | (refine wpList_box_bk rfl 110 (.tmp 0) rfl (askC x) rfl ?_; intro W1 q1 h1)
      | (refine wpList_alloc_bk rfl 83 (givC Giv.none) alloc_giv rfl ?_; intro W2 q2 h2; have x0 := ((h1.below.trans (h2.below.mono h1.below.size)).cell (p := ⟨b, 0, none⟩) hlt).trans HB.out)
      | (refine wpList_ask rfl (.tmp 2) rfl q1 x (h1.bk.new h2.below) rfl ?_)
      | (refine (HF.out _).mono ?_; rintro e W3 ⟨rfl, b3⟩; clear x0)
      | (refine wpList_ask rfl (.tmp 2) rfl q1 x (h1.bk.new (fr_new h2.below b3)) rfl ?_)
      | (go_at_call 90; refine (storesw x _ HX.out).mono ?_; rintro e W4 ⟨rfl, b4⟩)
      | (refine wpList_giv rfl (.tmp 3) (.tmp 14) rfl q2 Giv.none _ (h2.bk.new (fr_new b3 b4)) rfl rfl ?_; intro W5 h5 k5))
    refine bodyPost_ret (ret_giv rfl _ h5 rfl) rfl ⟨rfl, ?_⟩
    exact fr_set (fr_new (fr_new (fr_new h1.below h2.below) b3) b4) k5 (h2.at h1.below)
  · rw [if_neg hk]
    have hc : (k != 0) = true := by simpa using hk
    clear hk
    go_enter Tryd.func89, Tryd.ntmps89
    go_wp2_with (first
      | (refine wpList_box_bk rfl 110 (.tmp 0) rfl (askC x) rfl ?_; intro W1 q1 h1)
      | (refine wpList_alloc_bk rfl 83 (givC Giv.none) alloc_giv rfl ?_; intro W2 q2 h2; have x0 := ((h1.below.trans (h2.below.mono h1.below.size)).cell (p := ⟨b, 0, none⟩) hlt).trans HB.out)
      | (refine wpList_ask rfl (.tmp 2) rfl q1 x (h1.bk.new h2.below) rfl ?_)
      | (refine (HF.out _).mono ?_; rintro e W3 ⟨rfl, b3⟩; clear x0)
      | (refine wpList_ask rfl (.tmp 2) rfl q1 x (h1.bk.new (fr_new h2.below b3)) rfl ?_)
      | (go_at_call 88; refine (staysw x k _).mono ?_; rintro e W4 ⟨rfl, b4⟩)
      | (refine wpList_giv rfl (.tmp 3) (.tmp 12) rfl q2 Giv.none _ (h2.bk.new (fr_new b3 b4)) rfl rfl ?_; intro W5 h5 k5))
    refine bodyPost_ret (ret_giv rfl _ h5 rfl) rfl ⟨rfl, ?_⟩
    exact fr_set (fr_new (fr_new (fr_new h1.below h2.below) b3) b4) k5 (h2.at h1.below)
def Ask.needs (x : Ask) (g : Giv) : Giv := if x.there then g else x.stay 4
set_option maxHeartbeats 4000000 in
set_option maxRecDepth 100000 in
theorem needs0w (f : FuncId) (hcf : Fnc f) (g : Giv) (x : Ask) (b : Nat) (w : World) (hb : w.cell? ⟨b, 0, none⟩ = some (fn0 f)) (hf : x.there = true → ∀ W, Below w.heap.size w W → Calls Tryd.prog f #[.agg (askC x).toArray] W fun e w' => e = .returned (.agg (givC g).toArray) ∧ Below W.heap.size W w') :
    Calls Tryd.prog 91 #[.agg (askC x).toArray, .pointer (some ⟨b, 0, none⟩)] w fun e w' => e = .returned (.agg (givC (x.needs g)).toArray) ∧ Below w.heap.size w w' := by
  have HF := Lib.hid hf
  unfold Fnc at hcf
  have HB := Lib.hid hb
  have hlt : b < w.heap.size := World.block_lt_of_cell? w _ hb
  unfold Ask.needs
  clear hf hb
  cases ht : x.there with
  | true =>
    rw [if_pos (by decide)]
    go_enter Tryd.func91, Tryd.ntmps91
    go_wp2_with (first
      | (refine wpList_box_bk rfl 110 (.tmp 0) rfl (askC x) rfl ?_; intro W1 q1 h1)
      | (refine wpList_alloc_bk rfl 83 (givC Giv.none) alloc_giv rfl ?_; intro W2 q2 h2; have x0 := ((h1.below.trans (h2.below.mono h1.below.size)).cell (p := ⟨b, 0, none⟩) hlt).trans HB.out; obtain ⟨c0, c1, c2, c3, c4, c5, c6, c7, c9, c11, c14, c15, c16⟩ := ask_cells (h1.bk.new h2.below); rw [ht] at c15)
      | (refine wpList_ask rfl (.tmp 2) rfl q1 x (h1.bk.new h2.below) rfl ?_)
      | (refine (HF.out ht _ (h1.below.trans (h2.below.mono h1.below.size))).mono ?_; rintro e W3 ⟨rfl, b3⟩; clear x0)
      | (refine wpList_giv rfl (.tmp 3) (.tmp 11) rfl q2 Giv.none _ (h2.bk.new b3) rfl rfl ?_; intro W5 h5 k5))
    refine bodyPost_ret (ret_giv rfl _ h5 rfl) rfl ⟨rfl, ?_⟩
    exact fr_set (fr_new (fr_new h1.below h2.below) b3) k5 (h2.at h1.below)
  | false =>
    rw [if_neg (by decide)]
    go_enter Tryd.func91, Tryd.ntmps91
    go_wp2_with (first
      | (refine wpList_box_bk rfl 110 (.tmp 0) rfl (askC x) rfl ?_; intro W1 q1 h1)
      | (refine wpList_alloc_bk rfl 83 (givC Giv.none) alloc_giv rfl ?_; intro W2 q2 h2; obtain ⟨c0, c1, c2, c3, c4, c5, c6, c7, c9, c11, c14, c15, c16⟩ := ask_cells (h1.bk.new h2.below); rw [ht] at c15)
      | (refine wpList_ask rfl (.tmp 2) rfl q1 x (h1.bk.new h2.below) rfl ?_)
      | (go_at_call 88; refine (staysw x 4 _).mono ?_; rintro e W3 ⟨rfl, b3⟩)
      | (refine wpList_giv rfl (.tmp 3) (.tmp 8) rfl q2 Giv.none _ (h2.bk.new b3) rfl rfl ?_; intro W5 h5 k5))
    refine bodyPost_ret (ret_giv rfl _ h5 rfl) rfl ⟨rfl, ?_⟩
    exact fr_set (fr_new (fr_new h1.below h2.below) b3) k5 (h2.at h1.below)
set_option maxHeartbeats 4000000 in
set_option maxRecDepth 100000 in
theorem needs1w (f : FuncId) (hcf : Fnc f) (d : Nat) (g : Giv) (x : Ask) (b : Nat) (w : World) (hb : w.cell? ⟨b, 0, none⟩ = some (fn1 f d)) (hf : x.there = true → ∀ W, Below w.heap.size w W → Calls Tryd.prog f #[.agg (askC x).toArray, .pointer (some ⟨d, 0, none⟩)] W fun e w' => e = .returned (.agg (givC g).toArray) ∧ Below W.heap.size W w') :
    Calls Tryd.prog 91 #[.agg (askC x).toArray, .pointer (some ⟨b, 0, none⟩)] w fun e w' => e = .returned (.agg (givC (x.needs g)).toArray) ∧ Below w.heap.size w w' := by
  have HF := Lib.hid hf
  unfold Fnc at hcf
  have HB := Lib.hid hb
  have hlt : b < w.heap.size := World.block_lt_of_cell? w _ hb
  unfold Ask.needs
  clear hf hb
  cases ht : x.there with
  | true =>
    rw [if_pos (by decide)]
    go_enter Tryd.func91, Tryd.ntmps91
    go_wp2_with (first
      | (refine wpList_box_bk rfl 110 (.tmp 0) rfl (askC x) rfl ?_; intro W1 q1 h1)
      | (refine wpList_alloc_bk rfl 83 (givC Giv.none) alloc_giv rfl ?_; intro W2 q2 h2; have x0 := ((h1.below.trans (h2.below.mono h1.below.size)).cell (p := ⟨b, 0, none⟩) hlt).trans HB.out; obtain ⟨c0, c1, c2, c3, c4, c5, c6, c7, c9, c11, c14, c15, c16⟩ := ask_cells (h1.bk.new h2.below); rw [ht] at c15)
      | (refine wpList_ask rfl (.tmp 2) rfl q1 x (h1.bk.new h2.below) rfl ?_)
      | (refine (HF.out ht _ (h1.below.trans (h2.below.mono h1.below.size))).mono ?_; rintro e W3 ⟨rfl, b3⟩; clear x0)
      | (refine wpList_giv rfl (.tmp 3) (.tmp 11) rfl q2 Giv.none _ (h2.bk.new b3) rfl rfl ?_; intro W5 h5 k5))
    refine bodyPost_ret (ret_giv rfl _ h5 rfl) rfl ⟨rfl, ?_⟩
    exact fr_set (fr_new (fr_new h1.below h2.below) b3) k5 (h2.at h1.below)
  | false =>
    rw [if_neg (by decide)]
    go_enter Tryd.func91, Tryd.ntmps91
    go_wp2_with (first
      | (refine wpList_box_bk rfl 110 (.tmp 0) rfl (askC x) rfl ?_; intro W1 q1 h1)
      | (refine wpList_alloc_bk rfl 83 (givC Giv.none) alloc_giv rfl ?_; intro W2 q2 h2; obtain ⟨c0, c1, c2, c3, c4, c5, c6, c7, c9, c11, c14, c15, c16⟩ := ask_cells (h1.bk.new h2.below); rw [ht] at c15)
      | (refine wpList_ask rfl (.tmp 2) rfl q1 x (h1.bk.new h2.below) rfl ?_)
      | (go_at_call 88; refine (staysw x 4 _).mono ?_; rintro e W3 ⟨rfl, b3⟩)
      | (refine wpList_giv rfl (.tmp 3) (.tmp 8) rfl q2 Giv.none _ (h2.bk.new b3) rfl rfl ?_; intro W5 h5 k5))
    refine bodyPost_ret (ret_giv rfl _ h5 rfl) rfl ⟨rfl, ?_⟩
    exact fr_set (fr_new (fr_new h1.below h2.below) b3) k5 (h2.at h1.below)
theorem fnc_vs1 : Fnc 61 := fun args W => by kernel_rfl
theorem fnc_vs2 : Fnc 62 := fun args W => by kernel_rfl
theorem fnc_vs3 : Fnc 63 := fun args W => by kernel_rfl
theorem fnc_vs4 : Fnc 65 := fun args W => by kernel_rfl
theorem fnc_unless : Fnc 89 := fun args W => by kernel_rfl
theorem fnc_remove : Fnc 66 := fun args W => by kernel_rfl
theorem fnc_touch : Fnc 67 := fun args W => by kernel_rfl
theorem fnc_counts : Fnc 93 := fun args W => by kernel_rfl
theorem fnc_get : Fnc 59 := fun args W => by kernel_rfl
theorem fnc_flush : Fnc 71 := fun args W => by kernel_rfl
theorem fnc_needs : Fnc 91 := fun args W => by kernel_rfl
theorem fnc_incr : Fnc 69 := fun args W => by kernel_rfl
theorem fnc_decr : Fnc 70 := fun args W => by kernel_rfl
end Go.Proofs.YtmjklkcjinfmaaaDoor
