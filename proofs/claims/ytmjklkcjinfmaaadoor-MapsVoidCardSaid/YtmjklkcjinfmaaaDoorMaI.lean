/- Maps: a call, done. -/
import Derived.Test.YtmjklkcjinfmaaaDoorMaH
namespace Go.Proofs.YtmjklkcjinfmaaaDoor
open Go.RowKit Go.Maps
set_option linter.unusedVariables false
/-- What does leaves. -/
def DsP (w : World) (m : Nat) (mv : Option Nat) (r : Ans × Mst) (e : Ending) (w' : World) : Prop := e = .returned (.agg (ansC r.1).toArray) ∧ ∃ mv', Mp w' m mv' r.2 ∧ Keeps (MpB m mv) w w' ∧ (mv' = mv ∨ ∃ b, mv' = some b ∧ w.heap.size ≤ b)
theorem an_cells {w : World} {q : Nat} {x : Ans} (h : Bk w q (ansC x)) : w.cell? ⟨q, 0, none⟩ = some (.int .u8 x.kind) ∧ w.cell? ⟨q, 1, none⟩ = some (.int .u64 x.num) ∧ w.cell? ⟨q, 2, none⟩ = some (.string x.item.k) ∧ w.cell? ⟨q, 3, none⟩ = some (.string x.item.v) ∧ w.cell? ⟨q, 4, none⟩ = some (.int .u32 x.item.fl) ∧ w.cell? ⟨q, 5, none⟩ = some (.int .u64 x.item.id) ∧ w.cell? ⟨q, 6, none⟩ = some (.int .i64 x.item.dies) ∧ w.cell? ⟨q, 7, none⟩ = some (.int .i64 x.item.gen) :=
  ⟨h.at_ 0 _ rfl, h.at_ 1 _ rfl, h.at_ 2 _ rfl, h.at_ 3 _ rfl, h.at_ 4 _ rfl, h.at_ 5 _ rfl, h.at_ 6 _ rfl, h.at_ 7 _ rfl⟩
section
variable {m : Nat} {mv : Option Nat} {S : Mst} {c : Cal} {x : Int} {w : World}
set_option maxHeartbeats 4000000 in
set_option maxRecDepth 100000 in
theorem does_no (h : Mp w m mv S) (hS : MOk S) (hc : CalOk c) (hx : 0 ≤ x ∧ x < 18446744073709551616) (htab : Lib.TabIs Tryd.prog w "internal/strconv.uint64pow10" .u64 Lib.pow10Tab) (hn : S.gives c x = none) :
    Calls Tryd.prog 28 #[.pointer (some ⟨m, 0, none⟩), .agg (calC c).toArray, .int .u64 x] w (DsP w m mv (Ans.none, S)) := by
  have H := Lib.hid h
  have HS := Lib.hid hS
  have HC := Lib.hid hc
  have HX := Lib.hid hx
  have HT := Lib.hid htab
  have HA := Lib.hid (show gAns S c x = Ans.none ∧ (S.gives c x).isSome = false by unfold gAns; rw [hn]; exact ⟨rfl, rfl⟩)
  clear h hS hc hx htab hn
  go_enter Tryd.func28, Tryd.ntmps28
  go_wp2_with (first
    | ((with_reducible refine at_wp ?_); refine wpList_box_bk rfl 35 (.tmp 1) rfl (calC c) rfl ?_; intro W1 q1 h1)
    | (have _ := b3; (with_reducible refine at_wp ?_); refine wpList_alloc_bk rfl 40 (ansC Ans.none) alloc_an rfl ?_; intro W4 q4 h4)
    | ((with_reducible refine at_wp ?_); refine wpList_alloc_bk rfl 40 (ansC Ans.none) alloc_an rfl ?_; intro W2 q2 h2)
    | ((with_reducible refine at_wp ?_); refine wpList_load_bk rfl 35 (.tmp 4) rfl q1 0 (calC c) (calC c) (h1.bk.new h2.below) rfl _ Tryd.underlying35 rfl info_ca rfl ?_)
    | (go_at_call 12; refine (Givesw (H.out.new (fr_new h1.below h2.below)) HS.out HC.out HX.out (tab_below HT.out (fr_new h1.below h2.below))).mono ?_; rintro e W3 ⟨rfl, b3⟩; rw [HA.out.1, HA.out.2])
    | ((with_reducible refine at_wp ?_); refine wpList_store_bk rfl 40 (.tmp 7) (.tmp 14) rfl q4 0 (ansC Ans.none) (ansC Ans.none) (ansC Ans.none) h4.bk (Nat.le_refl 8) rfl info_an (ansC_one _) rfl rfl ?_; intro W5 h5 k5)
    | ((with_reducible refine at_wp ?_); refine wpList_store_bk rfl 40 (.tmp 6) (.tmp 27) rfl q2 0 (ansC Ans.none) (ansC Ans.none) (ansC Ans.none) ((h2.bk.new (fr_new b3 h4.below)).keep k5 (by have e1 := h2.bk.lt; have e2 := h4.eq; have e3 := b3.size; omega)) (Nat.le_refl 8) rfl info_an (ansC_one _) rfl rfl ?_; intro W6 h6 k6))
  refine bodyPost_ret (results_bk rfl _ h6 rfl _ Tryd.underlying40 rfl info_an) rfl ⟨rfl, ?_⟩
  have e0 := fr_new (fr_new h1.below h2.below) b3
  have e1 := fr_set (fr_set (fr_new e0 h4.below) k5 (h4.at e0)) k6 (h2.at h1.below)
  exact ⟨mv, H.out.new e1, mk_keeps e1, .inl rfl⟩
set_option maxHeartbeats 4000000 in
set_option maxRecDepth 100000 in
theorem does_yes {G : Gv} (h : Mp w m mv S) (hS : MOk S) (hc : CalOk c) (hx : 0 ≤ x ∧ x < 18446744073709551616) (htab : Lib.TabIs Tryd.prog w "internal/strconv.uint64pow10" .u64 Lib.pow10Tab) (hL : S.L.length < maxLen) (hn : S.gives c x = some G) :
    Calls Tryd.prog 28 #[.pointer (some ⟨m, 0, none⟩), .agg (calC c).toArray, .int .u64 x] w (DsP w m mv (G.a, G.S)) := by
  have H := Lib.hid h
  have HS := Lib.hid hS
  have HC := Lib.hid hc
  have HX := Lib.hid hx
  have HT := Lib.hid htab
  have HA := Lib.hid (show gAns S c x = G.a ∧ (S.gives c x).isSome = true by unfold gAns; rw [hn]; exact ⟨rfl, rfl⟩)
  have HF := Lib.hid (does_fits S c x hn)
  have HL := Lib.hid hL
  obtain ⟨a, ha⟩ : ∃ a, G.a = a := ⟨_, rfl⟩
  rw [ha] at HA HF ⊢
  clear h hS hc hx htab hn hL ha
  go_enter Tryd.func28, Tryd.ntmps28
  go_wp2_with (first
    | ((with_reducible refine at_wp ?_); refine wpList_box_bk rfl 35 (.tmp 1) rfl (calC c) rfl ?_; intro W1 q1 h1)
    | (have _ := b3; (with_reducible refine at_wp ?_); refine wpList_alloc_bk rfl 40 (ansC Ans.none) alloc_an rfl ?_; intro W4 q4 h4)
    | ((with_reducible refine at_wp ?_); refine wpList_alloc_bk rfl 40 (ansC Ans.none) alloc_an rfl ?_; intro W2 q2 h2)
    | ((with_reducible refine at_wp ?_); refine wpList_load_bk rfl 35 (.tmp 4) rfl q1 0 (calC c) (calC c) (h1.bk.new h2.below) rfl _ Tryd.underlying35 rfl info_ca rfl ?_)
    | (go_at_call 12; refine (Givesw (H.out.new (fr_new h1.below h2.below)) HS.out HC.out HX.out (tab_below HT.out (fr_new h1.below h2.below))).mono ?_; rintro e W3 ⟨rfl, b3⟩; rw [HA.out.1, HA.out.2])
    | ((with_reducible refine at_wp ?_); refine wpList_store_bk rfl 40 (.tmp 7) (.tmp 14) rfl q4 0 (ansC Ans.none) (ansC a) (ansC a) h4.bk (Nat.le_refl 8) rfl info_an (ansC_one _) rfl rfl ?_; intro W5 h5 k5; have HE := Lib.hid (fr_new (fr_new h1.below h2.below) b3); have HF5 := Lib.hid (fr_set (fr_new HE.out h4.below) k5 (h4.at HE.out)); have HB := Lib.hid ((h1.bk.new (fr_new (fr_new h2.below b3) h4.below)).keep k5 (by have e1 := h1.bk.lt; have e2 := h4.eq; have e3 := (fr_new h2.below b3).size; omega)); obtain ⟨c0, c1, c2, c3, c4, c5, c6⟩ := call_cells HB.out; obtain ⟨a0, a1, a2, a3, a4, a5, a6, a7⟩ := an_cells h5; have H5 := Lib.hid h5; have K5 := Lib.hid k5; clear h5 k5)
    | (go_at_call 17; refine (Fitsw (d := ⟨0, c, 0, 0, a, x, 0⟩) (H.out.new HF5.out) HS.out HC.out HX.out (tab_below HT.out HF5.out) HL.out).mono ?_; rintro e W6 ⟨rfl, mv', h6, k6, n6⟩; have H6 := Lib.hid (And.intro h6 (And.intro k6 n6)); clear h6 k6 n6 c0 c1 c2 c3 c4 c5 c6 a0 a1 a2 a3 a4 a5 a6 a7; rw [HF.out])
    | ((with_reducible refine at_wp ?_); refine wpList_load_bk rfl 40 (.tmp 7) rfl q4 0 (ansC a) (ansC a) (H5.out.keep H6.out.2.1 (by intro s; rcases s with s | s; exact absurd s (by have e1 := H.out.bk.lt; have e2 := h4.at HE.out; omega); exact absurd (H.out.lts q4 (.inr s)) (by have e2 := h4.at HE.out; omega))) rfl _ Tryd.underlying40 rfl info_an rfl ?_)
    | ((with_reducible refine at_wp ?_); refine wpList_store_bk rfl 40 (.tmp 6) (.tmp 28) rfl q2 0 (ansC Ans.none) (ansC a) (ansC a) (((h2.bk.new (fr_new b3 h4.below)).keep K5.out (by have e1 := h2.bk.lt; have e2 := h4.eq; have e3 := b3.size; omega)).keep H6.out.2.1 (by intro s; have e2 := h2.at h1.below; rcases s with s | s; exact absurd s (by have e1 := H.out.bk.lt; omega); exact absurd (H.out.lts q2 (.inr s)) (by omega))) (Nat.le_refl 8) rfl info_an (ansC_one _) rfl rfl ?_; intro W7 h7 k7))
  refine bodyPost_ret (results_bk rfl _ h7 rfl _ Tryd.underlying40 rfl info_an) rfl ⟨rfl, mv', ?_⟩
  obtain ⟨h6, k6, n6⟩ := H6.out
  rw [HF.out] at h6
  have e2 := h2.at h1.below
  have e5 := HF5.out.size
  refine ⟨h6.keep k7 (fun k hk e => ?_), ?_, ?_⟩
  · subst e
    rcases hk with hk | hk
    · have e1 := H.out.bk.lt; omega
    · rcases n6 with n6 | ⟨b, n6, n7⟩
      · rw [n6] at hk
        have := H.out.lts k (.inr hk)
        omega
      · rw [n6] at hk
        injection hk with hk
        have e7 := h2.bk.lt
        have e8 := (fr_new b3 h4.below).size
        have e9 := K5.out.size
        omega
  · refine ((mk_keeps (m := m) (mv := mv) HF5.out).trans k6 (fun _ _ s => s)).trans (T := fun k => k = q2) k7 (fun k hk e => ?_)
    subst e
    omega
  · rcases n6 with n6 | ⟨b, n6, n7⟩
    · exact .inl n6
    · exact .inr ⟨b, n6, by omega⟩
theorem doesw (h : Mp w m mv S) (hS : MOk S) (hc : CalOk c) (hx : 0 ≤ x ∧ x < 18446744073709551616) (htab : Lib.TabIs Tryd.prog w "internal/strconv.uint64pow10" .u64 Lib.pow10Tab) (hL : S.L.length < maxLen) :
    Calls Tryd.prog 28 #[.pointer (some ⟨m, 0, none⟩), .agg (calC c).toArray, .int .u64 x] w (DsP w m mv (S.does c x)) := by
  unfold Mst.does
  cases e : S.gives c x with
  | none => exact does_no h hS hc hx htab e
  | some G => exact does_yes h hS hc hx htab hL e
end
end Go.Proofs.YtmjklkcjinfmaaaDoor
