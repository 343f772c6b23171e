/- Maps: Fits of whatever call; Drop of whatever record; does. -/
import Derived.Test.YtmjklkcjinfmaaaDoorMaG
namespace Go.Proofs.YtmjklkcjinfmaaaDoor
open Go.RowKit Go.Maps
set_option linter.unusedVariables false
section
variable {m : Nat} {mv : Option Nat} {S : Mst} {w : World}
theorem Fitsw {d : Cld} (h : Mp w m mv S) (hS : MOk S) (hc : CalOk d.c) (hx : 0 ≤ d.e ∧ d.e < 18446744073709551616) (htab : Lib.TabIs Tryd.prog w "internal/strconv.uint64pow10" .u64 Lib.pow10Tab) (hL : S.L.length < maxLen) :
    Calls Tryd.prog 17 #[.pointer (some ⟨m, 0, none⟩), .agg (cldC d).toArray] w (FtP w m mv (S.fits d.c d.e d.a)) := by
  unfold Mst.fits
  rcases link hS.uniq d.c d.e with ⟨e1, e2⟩ | ⟨g, G, e1, e2, e3⟩
  · rw [e2]
    cases hs : (mlook S.L d.c.key).isSome with
    | true => exact fit_no_true h hS hc hx htab e1 hs
    | false => exact fit_no_false h hS hc hx htab e1 hs
  · rw [e2]
    simp only
    have hG := hS.gives hc hx e2
    by_cases ha : d.a = G.a
    · rw [if_pos ha]
      have hg : d.a = g.a := by rw [e3.a]; exact ha
      have hto : ∀ e w', FtP w m mv (true, mtake S d.c.key g) e w' → FtP w m mv (true, G.S) e w' := by
        rintro e w' ⟨h1, mv', h2, h3⟩
        exact ⟨h1, mv', h2.to hG.uniq e3.L e3.e e3.i, h3⟩
      cases hs : (mlook S.L d.c.key).isSome with
      | true => exact (fit_yes_true h hS hc hx htab e1 hg e3.k hL hs).mono hto
      | false => exact (fit_yes_false h hS hc hx htab e1 hg e3.k hL hs).mono hto
    · rw [if_neg ha]
      have hg : ¬ d.a = g.a := by rw [e3.a]; exact ha
      have hr := e3.r
      cases hs : (mlook S.L d.c.key).isSome with
      | true =>
        rw [hs] at hr
        rw [hr, if_neg (by simp)]
        exact fit_true_nost_any h hS hc hx htab e1 hg hs
      | false =>
        rw [hs] at hr
        cases ht : g.st with
        | false =>
          rw [ht] at hr
          rw [hr, if_neg (by simp)]
          exact fit_false_nost_any h hS hc hx htab e1 hg ht hs
        | true =>
          rw [ht] at hr
          rw [hr]
          by_cases hn : d.a = Ans.of 5
          · rw [if_pos ⟨rfl, hn⟩]
            exact fit_false_st_nr h hS hc hx htab e1 hg ht hn hs
          · rw [if_neg (fun k => hn k.2)]
            exact fit_false_st_no h hS hc hx htab e1 hg ht hn hs
set_option maxHeartbeats 4000000 in
set_option maxRecDepth 100000 in
theorem drop_no {x : Itm} (h : Mp w m mv S) (hx : x.k.size ≤ maxLen) (hn : mlook S.L x.k = none) :
    Calls Tryd.prog 15 #[.pointer (some ⟨m, 0, none⟩), .agg (itC x).toArray] w (FtP w m mv (false, S)) := by
  have H := Lib.hid h
  have HN := Lib.hid hn
  clear h hn
  go_enter Tryd.func15, Tryd.ntmps15
  go_wp2_with (first
    | ((with_reducible refine at_wp ?_); refine wpList_box_bk rfl 38 (.tmp 1) rfl (itC x) rfl ?_; intro W1 q1 h1; have c0 := h1.bk.at_ 0 _ rfl)
    | (go_at_call 20; refine (Atw (H.out.new h1.below) x.k hx).mono ?_; rintro e W2 ⟨rfl, b2⟩; unfold atV; rw [HN.out])
    | ((with_reducible refine at_wp ?_); refine wpList_alloc_bk rfl 38 (itC Itm.none) alloc_it rfl ?_; intro W3 q3 h3)
    | ((with_reducible refine at_wp ?_); refine wpList_store_bk rfl 38 (.tmp 5) (.tmp 12) rfl q3 0 (itC Itm.none) (itC Itm.none) (itC Itm.none) h3.bk (Nat.le_refl 6) rfl info_it (itC_one _) rfl rfl ?_; intro W4 h4 k4))
  go_ret
  have e0 := fr_new h1.below b2
  have e1 := fr_set (fr_new e0 h3.below) k4 (h3.at e0)
  exact ⟨rfl, mv, H.out.new e1, mk_keeps e1, .inl rfl⟩
set_option maxHeartbeats 4000000 in
set_option maxRecDepth 100000 in
theorem drop_other {x y : Itm} (h : Mp w m mv S) (hx : x.k.size ≤ maxLen) (hn : mlook S.L x.k = some y) (hne : ¬ y = x) :
    Calls Tryd.prog 15 #[.pointer (some ⟨m, 0, none⟩), .agg (itC x).toArray] w (FtP w m mv (false, S)) := by
  have H := Lib.hid h
  have HN := Lib.hid hn
  have hq : ∀ W, (binOp .neq 38 (.agg #[.string y.k, .string y.v, .int .u32 y.fl, .int .u64 y.id, .int .i64 y.dies, .int .i64 y.gen]) (.agg #[.string x.k, .string x.v, .int .u32 x.fl, .int .u64 x.id, .int .i64 x.dies, .int .i64 x.gen])).run Tryd.prog W = .ok (.bool true) W := fun W => by
    have := it_neq y x W
    rw [decide_eq_true hne] at this
    exact this
  clear h hn hne
  go_enter Tryd.func15, Tryd.ntmps15
  go_wp2_with (first
    | ((with_reducible refine at_wp ?_); refine wpList_box_bk rfl 38 (.tmp 1) rfl (itC x) rfl ?_; intro W1 q1 h1; have c0 := h1.bk.at_ 0 _ rfl)
    | (go_at_call 20; refine (Atw (H.out.new h1.below) x.k hx).mono ?_; rintro e W2 ⟨rfl, b2⟩; unfold atV; rw [HN.out])
    | ((with_reducible refine at_wp ?_); refine wpList_alloc_bk rfl 38 (itC Itm.none) alloc_it rfl ?_; intro W3 q3 h3)
    | ((with_reducible refine at_wp ?_); refine wpList_store_bk rfl 38 (.tmp 5) (.tmp 12) rfl q3 0 (itC Itm.none) (itC y) (itC y) h3.bk (Nat.le_refl 6) rfl info_it (itC_one _) rfl rfl ?_; intro W4 h4 k4; obtain ⟨a0, a1, a2, a3, a4, a5⟩ := it_cells h4; obtain ⟨b0, b1, b22, b3, b4, b5⟩ := it_cells ((h1.bk.new (fr_new b2 h3.below)).keep k4 (by have e1 := h1.bk.lt; have e2 := h3.eq; have e3 := b2.size; omega))))
  go_ret
  have e0 := fr_new h1.below b2
  have e1 := fr_set (fr_new e0 h3.below) k4 (h3.at e0)
  exact ⟨rfl, mv, H.out.new e1, mk_keeps e1, .inl rfl⟩
set_option maxHeartbeats 4000000 in
set_option maxRecDepth 100000 in
theorem drop_it {x : Itm} (h : Mp w m mv S) (hx : x.k.size ≤ maxLen) (hn : mlook S.L x.k = some x) :
    Calls Tryd.prog 15 #[.pointer (some ⟨m, 0, none⟩), .agg (itC x).toArray] w (FtP w m mv (true, ⟨wo S.L x.k, S.e, S.i⟩)) := by
  have H := Lib.hid h
  have HN := Lib.hid hn
  have hq : ∀ W, (binOp .neq 38 (.agg #[.string x.k, .string x.v, .int .u32 x.fl, .int .u64 x.id, .int .i64 x.dies, .int .i64 x.gen]) (.agg #[.string x.k, .string x.v, .int .u32 x.fl, .int .u64 x.id, .int .i64 x.dies, .int .i64 x.gen])).run Tryd.prog W = .ok (.bool false) W := fun W => by
    have := it_neq x x W
    rw [decide_eq_false (by simp)] at this
    exact this
  clear h hn
  go_enter Tryd.func15, Tryd.ntmps15
  go_wp2_with (first
    | ((with_reducible refine at_wp ?_); refine wpList_box_bk rfl 38 (.tmp 1) rfl (itC x) rfl ?_; intro W1 q1 h1; have c0 := h1.bk.at_ 0 _ rfl)
    | (go_at_call 20; refine (Atw (H.out.new h1.below) x.k hx).mono ?_; rintro e W2 ⟨rfl, b2⟩; unfold atV; rw [HN.out])
    | ((with_reducible refine at_wp ?_); refine wpList_alloc_bk rfl 38 (itC Itm.none) alloc_it rfl ?_; intro W3 q3 h3)
    | ((with_reducible refine at_wp ?_); refine wpList_store_bk rfl 38 (.tmp 5) (.tmp 12) rfl q3 0 (itC Itm.none) (itC x) (itC x) h3.bk (Nat.le_refl 6) rfl info_it (itC_one _) rfl rfl ?_; intro W4 h4 k4; obtain ⟨a0, a1, a2, a3, a4, a5⟩ := it_cells h4; obtain ⟨b0, b1, b22, b3, b4, b5⟩ := it_cells ((h1.bk.new (fr_new b2 h3.below)).keep k4 (by have e1 := h1.bk.lt; have e2 := h3.eq; have e3 := b2.size; omega))))
  have e0 := fr_new h1.below b2
  have HF4 := Lib.hid (fr_set (fr_new e0 h3.below) k4 (h3.at e0))
  have HM4 := Lib.hid (H.out.new HF4.out)
  have hd4 : Below W4.heap.size W4 W4.drew := (Below.refl _ _).drew
  have HB4 := Lib.hid b0
  have hlt := World.block_lt_of_cell? W4 _ b0
  have KEEP : Hid (∀ X, Below W4.heap.size W4 X → X.cell? ⟨m, 0, none⟩ = some (.map mv) ∧ X.cell? ⟨q1, 0, none⟩ = some (.string x.k)) := Lib.hid fun X hb => ⟨(HM4.out.new hb).bk.at_ 0 _ rfl, (hb.cell (p := ⟨q1, 0, none⟩) hlt).trans HB4.out⟩
  have HQ := Lib.hid (show ∀ k, mv = some k → k ≠ m ∧ k ≠ q1 by
    intro k hk
    have e1 := H.out.lts k (.inr hk)
    have e2 := h1.eq
    rcases H.out.recs with ⟨e, _⟩ | ⟨b, e, hb, _⟩
    · rw [e] at hk; cases hk
    · rw [e] at hk; injection hk with hk; subst hk; exact ⟨hb, by omega⟩)
  clear a0 a1 a2 a3 a4 a5 b0 b1 b22 b3 b4 b5 hq h4 k4 e0
  refine wp_region_held_drew (S := fun X => X.cell? ⟨m, 0, none⟩ = some (.map mv) ∧ X.cell? ⟨q1, 0, none⟩ = some (.string x.k)) (by kernel_rfl) (KEEP.out _ hd4) (fun hHeld => ?_)
  refine wpAnyH_take (i := 0) (oi := ({ dst := some 21, op := Op.move (Operand.tmp 0), type := 25, pos := "maps.go:246", after := #[], guard := none })) (v := ?_) rfl (by kernel_rfl) (by kernel_rfl) (by kernel_rfl) (fun _ _ _ h => h) (Or.inl ⟨by rfl, ?_⟩) (by assumption) ?_
  rotate_left 1
  · (intro w9 hSw; (try dsimp only at hSw); go_simp; try with_reducible rfl)
  try simp only [Act.put, List.setIfInBounds_toArray, List.set_cons_zero, List.set_cons_succ]
  refine wpAnyH_take (i := 1) (oi := ({ dst := some 22, op := Op.nilCheck (Operand.tmp 21), type := 0, pos := "maps.go:246", after := #[{ on := 0, ground := Ground.data }], guard := none })) (v := ?_) rfl (by kernel_rfl) (by kernel_rfl) (by kernel_rfl) (fun _ _ _ h => h) (Or.inl ⟨by rfl, ?_⟩) (by assumption) ?_
  rotate_left 1
  · (intro w9 hSw; (try dsimp only at hSw); go_simp; try with_reducible rfl)
  try simp only [Act.put, List.setIfInBounds_toArray, List.set_cons_zero, List.set_cons_succ]
  refine wpAnyH_take (i := 2) (oi := ({ dst := some 23, op := Op.fieldAddr 57 (Operand.tmp 22) 0, type := 0, pos := "maps.go:246", after := #[{ on := 1, ground := Ground.data }], guard := none })) (v := ?_) rfl (by kernel_rfl) (by kernel_rfl) (by kernel_rfl) (fun _ _ _ h => h) (Or.inl ⟨by rfl, ?_⟩) (by assumption) ?_
  rotate_left 1
  · (intro w9 hSw; (try dsimp only at hSw); go_simp; try with_reducible rfl)
  try simp only [Act.put, List.setIfInBounds_toArray, List.set_cons_zero, List.set_cons_succ]
  refine wpAnyH_take (i := 3) (oi := ({ dst := some 24, op := Op.load 55 (Operand.tmp 23), type := 55, pos := "maps.go:246", after := #[{ on := 2, ground := Ground.data }], guard := none })) (v := ?_) rfl (by kernel_rfl) (by kernel_rfl) (by kernel_rfl) (fun _ _ _ h => h) (Or.inl ⟨by rfl, ?_⟩) (by assumption) ?_
  rotate_left 1
  · (intro w9 hSw; (try dsimp only at hSw); go_simp; try with_reducible rfl)
  try simp only [Act.put, List.setIfInBounds_toArray, List.set_cons_zero, List.set_cons_succ]
  refine wpAnyH_take (i := 4) (oi := ({ dst := some 25, op := Op.fieldAddr 38 (Operand.tmp 3) 0, type := 0, pos := "maps.go:246", after := #[], guard := none })) (v := ?_) rfl (by kernel_rfl) (by kernel_rfl) (by kernel_rfl) (fun _ _ _ h => h) (Or.inl ⟨by rfl, ?_⟩) (by assumption) ?_
  rotate_left 1
  · (intro w9 hSw; (try dsimp only at hSw); go_simp; try with_reducible rfl)
  try simp only [Act.put, List.setIfInBounds_toArray, List.set_cons_zero, List.set_cons_succ]
  refine wpAnyH_take (i := 5) (oi := ({ dst := some 26, op := Op.load 9 (Operand.tmp 25), type := 9, pos := "maps.go:246", after := #[{ on := 4, ground := Ground.data }], guard := none })) (v := ?_) rfl (by kernel_rfl) (by kernel_rfl) (by kernel_rfl) (fun _ _ _ h => h) (Or.inl ⟨by rfl, ?_⟩) (by assumption) ?_
  rotate_left 1
  · (intro w9 hSw; (try dsimp only at hSw); go_simp; try with_reducible rfl)
  try simp only [Act.put, List.setIfInBounds_toArray, List.set_cons_zero, List.set_cons_succ]
  refine wpAnyH_ready (rs := [6]) (by kernel_rfl) (by simp) ?_
  refine AllReadyH.cons (o := ({ dst := none, op := Op.call { callee := Callee.builtin Builtin.delete, args := #[Operand.tmp 24, Operand.tmp 26], argTypes := #[55, 9] }, type := 0, pos := "maps.go:246", after := #[{ on := 3, ground := Ground.data }, { on := 5, ground := Ground.data }], guard := none })) rfl (fun K hK => ?_) AllReadyH.nil
  refine step_of rfl (wp_drop_mq (.tmp 24) (.tmp 26) rfl m mv S (HM4.out.new hd4) x.k hx rfl rfl ?_)
  intro W6 h6 k6
  refine hK.out _ _ (⟨h6.bk.at_ 0 _ rfl, k6.cell (p := ⟨q1, 0, none⟩) (fun e => (HQ.out _ e).2 rfl) (KEEP.out _ hd4).2⟩) (fun hHeld => ?_)
  clear hK K
  try simp only [Act.put]
  refine wpAnyH_done (by kernel_rfl) ?_ _
  go_wp2_with fail
  go_ret
  exact ⟨rfl, mv, h6, ((mk_keeps (m := m) (mv := mv) HF4.out).drew).trans k6 (fun _ _ e => .inr e), .inl rfl⟩
theorem Dropw {x : Itm} (h : Mp w m mv S) (hx : x.k.size ≤ maxLen) :
    Calls Tryd.prog 15 #[.pointer (some ⟨m, 0, none⟩), .agg (itC x).toArray] w (FtP w m mv (S.drop x)) := by
  unfold Mst.drop
  cases e : mlook S.L x.k with
  | none => rw [if_neg (by simp)]; exact drop_no h hx e
  | some y =>
    by_cases hy : y = x
    · subst hy; rw [if_pos rfl]; exact drop_it h hx e
    · rw [if_neg (by simpa using hy)]; exact drop_other h hx e hy
end
end Go.Proofs.YtmjklkcjinfmaaaDoor
