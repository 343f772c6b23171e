/- Maps: a call that stores. -/
import Derived.Test.YtmjklkcjinfmaaaDoorMa2
import Derived.Deep.RegionHeld3
namespace Go.Proofs.YtmjklkcjinfmaaaDoor
open Go.RowKit
set_option linter.unusedVariables false
def Ask.mid (x : Ask) (r : Itm) : Giv := ⟨⟨1, u64 (x.ids + 1), Itm.none⟩, r, x.is, false, x.w, x.ids⟩
theorem step_of {P : Program} {ops : Array Oper} {op : Oper} {a : Act} {w : World} {K : Act → World → Prop} {Q : Exit → Act → World → Prop} {E : Prop} (hgd : op.guard = none) (h : op.wp P a w K Q) : if Region.wanted op (yielded ops a.tmps) = true then Oper.wp P op a w K Q else E := by
  rw [if_pos (by unfold Region.wanted; rw [hgd])]
  exact h
theorem step_store_bk {P : Program} {ops : Array Oper} {op : Oper} {a : Act} {w : World} {K : Act → World → Prop} {Q : Exit → Act → World → Prop} {E : Prop} (hgd : op.guard = none) (ty : TypeId) (x y : Operand) (ho : op.op = .store ty x y)
    (q o : Nat) (C vs C' : List Value) (h : Bk w q C) (hn : o + vs.length ≤ C.length) (hC : C' = C.take o ++ (vs ++ C.drop (o + vs.length))) (hi : (P.info? ty).map (·.size) = some vs.length) (h1 : vs.toArray.all (·.oneCell') = true) (hx : a.eval x = .pointer (some ⟨q, o, none⟩)) (hy : a.eval y = .agg vs.toArray)
    (hK : ∀ W, Bk W q C' → Keeps (fun k => k = q) w W → K (a.put op.dst undef) W) : if Region.wanted op (yielded ops a.tmps) = true then Oper.wp P op a w K Q else E := by
  refine step_of hgd (wp_store_mid ty x y ho q o vs.toArray hx hy ?_ ?_ h1 (hK _ ?_ ?_))
  · simpa using h.there o vs.length hn
  · simpa using hi
  · simpa using h.put o vs hn hC
  · exact bk_keeps_setCells q _ o w
theorem step_grec {ops : Array Oper} {op : Oper} {a : Act} {w : World} {K : Act → World → Prop} {Q : Exit → Act → World → Prop} {E : Prop} (hgd : op.guard = none) (x y : Operand) (ho : op.op = .store 38 x y) (q o : Nat) (g : Giv) (r : Itm) (g' : Giv) (h : Bk w q (givC g)) (hn : o + 6 ≤ 18) (hC : givC g' = (givC g).take o ++ (itC r ++ (givC g).drop (o + 6))) (hx : a.eval x = .pointer (some ⟨q, o, none⟩)) (hy : a.eval y = .agg (itC r).toArray)
    (hK : ∀ W, Bk W q (givC g') → Keeps (fun k => k = q) w W → K (a.put op.dst undef) W) : if Region.wanted op (yielded ops a.tmps) = true then Oper.wp Tryd.prog op a w K Q else E :=
  step_store_bk hgd 38 x y ho q o (givC g) (itC r) (givC g') h hn hC info_it (itC_one _) hx hy hK
set_option maxHeartbeats 4000000 in
set_option maxRecDepth 100000 in
theorem storesw (x : Ask) (w : World) (hx : AskOk x) : Calls Tryd.prog 90 #[.agg (askC x).toArray] w fun e w' => e = .returned (.agg (givC x.store).toArray) ∧ Below w.heap.size w w' := by
  have hw1 := hx.w.1
  have hw2 := hx.w.2
  have hd1 := hx.c.exp.2
  have hi1 := hx.ids.1
  have hi2 := hx.ids.2
  clear hx
  go_enter Tryd.func90, Tryd.ntmps90
  go_wp2_with (first
    | (refine wpList_box_bk rfl 110 (.tmp 0) rfl (askC x) rfl ?_; intro W1 q1 h1)
    | (have _ := b3; refine wpList_alloc_bk rfl 83 (givC Giv.none) alloc_giv rfl ?_; intro W4 q4 h4)
    | (refine wpList_alloc_bk rfl 83 (givC Giv.none) alloc_giv rfl ?_; intro W2 q2 h2; obtain ⟨c0, c1, c2, c3, c4, c5, c6, c7, c9, c11, c14, c15, c16⟩ := ask_cells (h1.bk.new h2.below))
    | (refine wpList_ask rfl (.tmp 1) rfl q1 x (h1.bk.new h2.below) rfl ?_)
    | (go_at_call 88; refine (staysw x 1 _).mono ?_; rintro e W3 ⟨rfl, b3⟩)
    | (refine wpList_giv rfl (.tmp 4) (.tmp 9) rfl q4 Giv.none (x.stay 1) h4.bk rfl rfl ?_; intro W5 h5 k5)
    | (refine wpList_gset rfl 29 (.tmp 12) (.tmp 10) rfl (by kernel_rfl) q4 1 (x.stay 1) _ (x.mid x.was) h5 (by decide) rfl rfl rfl rfl ?_; intro W6 h6 k6))
  have bq : Below W2.heap.size W2 W6 := fr_set (fr_set (fr_new b3 h4.below) k5 (h4.at b3)) k6 (h4.at b3)
  have hq1 := h1.bk.new h2.below
  have d0 := (hq1.new bq).drew
  have e0 := h6.drew
  obtain ⟨n, hn⟩ : ∃ n, n = W6.heap.size := ⟨_, rfl⟩
  have hB : Below n W6.drew W6.drew := Below.refl _ _
  have hN : n ≤ W6.drew.heap.size := by rw [hn]; exact Nat.le_refl _
  have HN := Lib.hid hn
  have hlt : q1 < n := by rw [hn]; exact d0.lt
  have hltg : q4 < n := by rw [hn]; exact e0.lt
  clear hn c0 c1 c2 c3 c4 c5 c6 c7 c9 c11 c14 c15 c16
  have KEEP : Hid (∀ X, Below n W6.drew X → X.cell? ⟨q1, 1, none⟩ = some (.string x.c.key) ∧ X.cell? ⟨q1, 2, none⟩ = some (.string x.c.val) ∧ X.cell? ⟨q1, 3, none⟩ = some (.int .u32 x.c.fl) ∧ X.cell? ⟨q1, 4, none⟩ = some (.int .i64 x.c.exp) ∧ X.cell? ⟨q1, 7, none⟩ = some (.int .u64 x.w)) := Lib.hid fun X hb => by
    obtain ⟨y0, y1, y2, y3, y4, y5, y6, y7, y9, y11, y14, y15, y16⟩ := ask_cells (d0.keep (Keeps.of_below hb) (by omega))
    exact ⟨y1, y2, y3, y4, y7⟩
  have E0 := Lib.hid e0
  have D0 := Lib.hid d0
  have HNE := Lib.hid (show q1 ≠ q4 by have e1 := h1.eq; have e2 := h4.eq; have e3 := b3.size; have e4 := h2.size; have e5 := h2.eq; have e6 := h1.size; omega)
  have BQ := Lib.hid bq
  have K1 := Lib.hid (h2.at h1.below)
  clear e0 d0 hq1 h6 k6 h5 k5 bq hB
  refine wp_region_held_drew (S := fun X => X.cell? ⟨q1, 1, none⟩ = some (.string x.c.key) ∧ X.cell? ⟨q1, 2, none⟩ = some (.string x.c.val) ∧ X.cell? ⟨q1, 3, none⟩ = some (.int .u32 x.c.fl) ∧ X.cell? ⟨q1, 4, none⟩ = some (.int .i64 x.c.exp) ∧ X.cell? ⟨q1, 7, none⟩ = some (.int .u64 x.w)) (by kernel_rfl) (KEEP.out _ (Below.refl _ _)) (fun hHeld => ?_)
  refine wpAnyH_take (i := 0) (oi := ({ dst := some 13, op := Op.fieldAddr 110 (Operand.tmp 1) 0, type := 0, pos := "maps.go:48", after := #[], guard := none })) (v := ?_) rfl (by kernel_rfl) (by kernel_rfl) (by kernel_rfl) (fun _ _ _ h => h) (Or.inl ⟨by rfl, ?_⟩) (by assumption) ?_
  rotate_left 1
  · (intro w9 hSw; (try dsimp only at hSw); go_simp; try with_reducible rfl)
  try simp only [Act.put, List.setIfInBounds_toArray, List.set_cons_zero, List.set_cons_succ]
  refine wpAnyH_take (i := 1) (oi := ({ dst := some 14, op := Op.fieldAddr 35 (Operand.tmp 13) 1, type := 0, pos := "maps.go:48", after := #[{ on := 0, ground := Ground.data }], guard := none })) (v := ?_) rfl (by kernel_rfl) (by kernel_rfl) (by kernel_rfl) (fun _ _ _ h => h) (Or.inl ⟨by rfl, ?_⟩) (by assumption) ?_
  rotate_left 1
  · (intro w9 hSw; (try dsimp only at hSw); go_simp; try with_reducible rfl)
  try simp only [Act.put, List.setIfInBounds_toArray, List.set_cons_zero, List.set_cons_succ]
  refine wpAnyH_take (i := 2) (oi := ({ dst := some 15, op := Op.load 9 (Operand.tmp 14), type := 9, pos := "maps.go:48", after := #[{ on := 1, ground := Ground.data }], guard := none })) (v := ?_) rfl (by kernel_rfl) (by kernel_rfl) (by kernel_rfl) (fun _ _ _ h => h) (Or.inl ⟨by rfl, ?_⟩) (by assumption) ?_
  rotate_left 1
  · (intro w9 hSw; (try dsimp only at hSw); go_simp; try with_reducible rfl)
  try simp only [Act.put, List.setIfInBounds_toArray, List.set_cons_zero, List.set_cons_succ]
  refine wpAnyH_take (i := 3) (oi := ({ dst := some 16, op := Op.fieldAddr 110 (Operand.tmp 1) 0, type := 0, pos := "maps.go:48", after := #[], guard := none })) (v := ?_) rfl (by kernel_rfl) (by kernel_rfl) (by kernel_rfl) (fun _ _ _ h => h) (Or.inl ⟨by rfl, ?_⟩) (by assumption) ?_
  rotate_left 1
  · (intro w9 hSw; (try dsimp only at hSw); go_simp; try with_reducible rfl)
  try simp only [Act.put, List.setIfInBounds_toArray, List.set_cons_zero, List.set_cons_succ]
  refine wpAnyH_take (i := 4) (oi := ({ dst := some 17, op := Op.fieldAddr 35 (Operand.tmp 16) 2, type := 0, pos := "maps.go:48", after := #[{ on := 3, ground := Ground.data }], guard := none })) (v := ?_) rfl (by kernel_rfl) (by kernel_rfl) (by kernel_rfl) (fun _ _ _ h => h) (Or.inl ⟨by rfl, ?_⟩) (by assumption) ?_
  rotate_left 1
  · (intro w9 hSw; (try dsimp only at hSw); go_simp; try with_reducible rfl)
  try simp only [Act.put, List.setIfInBounds_toArray, List.set_cons_zero, List.set_cons_succ]
  refine wpAnyH_take (i := 5) (oi := ({ dst := some 18, op := Op.load 9 (Operand.tmp 17), type := 9, pos := "maps.go:48", after := #[{ on := 4, ground := Ground.data }], guard := none })) (v := ?_) rfl (by kernel_rfl) (by kernel_rfl) (by kernel_rfl) (fun _ _ _ h => h) (Or.inl ⟨by rfl, ?_⟩) (by assumption) ?_
  rotate_left 1
  · (intro w9 hSw; (try dsimp only at hSw); go_simp; try with_reducible rfl)
  try simp only [Act.put, List.setIfInBounds_toArray, List.set_cons_zero, List.set_cons_succ]
  refine wpAnyH_take (i := 6) (oi := ({ dst := some 19, op := Op.fieldAddr 110 (Operand.tmp 1) 0, type := 0, pos := "maps.go:48", after := #[], guard := none })) (v := ?_) rfl (by kernel_rfl) (by kernel_rfl) (by kernel_rfl) (fun _ _ _ h => h) (Or.inl ⟨by rfl, ?_⟩) (by assumption) ?_
  rotate_left 1
  · (intro w9 hSw; (try dsimp only at hSw); go_simp; try with_reducible rfl)
  try simp only [Act.put, List.setIfInBounds_toArray, List.set_cons_zero, List.set_cons_succ]
  refine wpAnyH_take (i := 7) (oi := ({ dst := some 20, op := Op.fieldAddr 35 (Operand.tmp 19) 3, type := 0, pos := "maps.go:48", after := #[{ on := 6, ground := Ground.data }], guard := none })) (v := ?_) rfl (by kernel_rfl) (by kernel_rfl) (by kernel_rfl) (fun _ _ _ h => h) (Or.inl ⟨by rfl, ?_⟩) (by assumption) ?_
  rotate_left 1
  · (intro w9 hSw; (try dsimp only at hSw); go_simp; try with_reducible rfl)
  try simp only [Act.put, List.setIfInBounds_toArray, List.set_cons_zero, List.set_cons_succ]
  refine wpAnyH_take (i := 8) (oi := ({ dst := some 21, op := Op.load 33 (Operand.tmp 20), type := 33, pos := "maps.go:48", after := #[{ on := 7, ground := Ground.data }], guard := none })) (v := ?_) rfl (by kernel_rfl) (by kernel_rfl) (by kernel_rfl) (fun _ _ _ h => h) (Or.inl ⟨by rfl, ?_⟩) (by assumption) ?_
  rotate_left 1
  · (intro w9 hSw; (try dsimp only at hSw); go_simp; try with_reducible rfl)
  try simp only [Act.put, List.setIfInBounds_toArray, List.set_cons_zero, List.set_cons_succ]
  refine wpAnyH_take (i := 9) (oi := ({ dst := some 22, op := Op.move (Operand.tmp 3), type := 29, pos := "maps.go:48", after := #[], guard := none })) (v := ?_) rfl (by kernel_rfl) (by kernel_rfl) (by kernel_rfl) (fun _ _ _ h => h) (Or.inl ⟨by rfl, ?_⟩) (by assumption) ?_
  rotate_left 1
  · (intro w9 hSw; (try dsimp only at hSw); go_simp; try with_reducible rfl)
  try simp only [Act.put, List.setIfInBounds_toArray, List.set_cons_zero, List.set_cons_succ]
  refine wpAnyH_take (i := 10) (oi := ({ dst := some 23, op := Op.fieldAddr 110 (Operand.tmp 1) 1, type := 0, pos := "maps.go:48", after := #[], guard := none })) (v := ?_) rfl (by kernel_rfl) (by kernel_rfl) (by kernel_rfl) (fun _ _ _ h => h) (Or.inl ⟨by rfl, ?_⟩) (by assumption) ?_
  rotate_left 1
  · (intro w9 hSw; (try dsimp only at hSw); go_simp; try with_reducible rfl)
  try simp only [Act.put, List.setIfInBounds_toArray, List.set_cons_zero, List.set_cons_succ]
  refine wpAnyH_take (i := 11) (oi := ({ dst := some 24, op := Op.load 29 (Operand.tmp 23), type := 29, pos := "maps.go:48", after := #[{ on := 10, ground := Ground.data }], guard := none })) (v := ?_) rfl (by kernel_rfl) (by kernel_rfl) (by kernel_rfl) (fun _ _ _ h => h) (Or.inl ⟨by rfl, ?_⟩) (by assumption) ?_
  rotate_left 1
  · (intro w9 hSw; (try dsimp only at hSw); go_simp; try with_reducible rfl)
  try simp only [Act.put, List.setIfInBounds_toArray, List.set_cons_zero, List.set_cons_succ]
  refine wpAnyH_take (i := 12) (oi := ({ dst := some 25, op := Op.fieldAddr 110 (Operand.tmp 1) 0, type := 0, pos := "maps.go:48", after := #[], guard := none })) (v := ?_) rfl (by kernel_rfl) (by kernel_rfl) (by kernel_rfl) (fun _ _ _ h => h) (Or.inl ⟨by rfl, ?_⟩) (by assumption) ?_
  rotate_left 1
  · (intro w9 hSw; (try dsimp only at hSw); go_simp; try with_reducible rfl)
  try simp only [Act.put, List.setIfInBounds_toArray, List.set_cons_zero, List.set_cons_succ]
  refine wpAnyH_take (i := 13) (oi := ({ dst := some 26, op := Op.fieldAddr 35 (Operand.tmp 25) 4, type := 0, pos := "maps.go:48", after := #[{ on := 12, ground := Ground.data }], guard := none })) (v := ?_) rfl (by kernel_rfl) (by kernel_rfl) (by kernel_rfl) (fun _ _ _ h => h) (Or.inl ⟨by rfl, ?_⟩) (by assumption) ?_
  rotate_left 1
  · (intro w9 hSw; (try dsimp only at hSw); go_simp; try with_reducible rfl)
  try simp only [Act.put, List.setIfInBounds_toArray, List.set_cons_zero, List.set_cons_succ]
  refine wpAnyH_take (i := 14) (oi := ({ dst := some 27, op := Op.load 2 (Operand.tmp 26), type := 2, pos := "maps.go:48", after := #[{ on := 13, ground := Ground.data }], guard := none })) (v := ?_) rfl (by kernel_rfl) (by kernel_rfl) (by kernel_rfl) (fun _ _ _ h => h) (Or.inl ⟨by rfl, ?_⟩) (by assumption) ?_
  rotate_left 1
  · (intro w9 hSw; (try dsimp only at hSw); go_simp; try with_reducible rfl)
  try simp only [Act.put, List.setIfInBounds_toArray, List.set_cons_zero, List.set_cons_succ]
  refine wpAnyH_take (i := 16) (oi := ({ dst := some 29, op := Op.fieldAddr 110 (Operand.tmp 1) 1, type := 0, pos := "maps.go:48", after := #[], guard := none })) (v := ?_) rfl (by kernel_rfl) (by kernel_rfl) (by kernel_rfl) (fun _ _ _ h => h) (Or.inl ⟨by rfl, ?_⟩) (by assumption) ?_
  rotate_left 1
  · (intro w9 hSw; (try dsimp only at hSw); go_simp; try with_reducible rfl)
  try simp only [Act.put, List.setIfInBounds_toArray, List.set_cons_zero, List.set_cons_succ]
  refine wpAnyH_take (i := 17) (oi := ({ dst := some 30, op := Op.load 29 (Operand.tmp 29), type := 29, pos := "maps.go:48", after := #[{ on := 16, ground := Ground.data }], guard := none })) (v := ?_) rfl (by kernel_rfl) (by kernel_rfl) (by kernel_rfl) (fun _ _ _ h => h) (Or.inl ⟨by rfl, ?_⟩) (by assumption) ?_
  rotate_left 1
  · (intro w9 hSw; (try dsimp only at hSw); go_simp; try with_reducible rfl)
  try simp only [Act.put, List.setIfInBounds_toArray, List.set_cons_zero, List.set_cons_succ]
  refine wpAnyH_ready (rs := [15]) (by kernel_rfl) (by simp) ?_
  refine AllReadyH.cons (o := ({ dst := some 28, op := Op.call { callee := Callee.value (Operand.func 92), args := #[Operand.tmp 24, Operand.tmp 27], argTypes := #[29, 2] }, type := 3, pos := "maps.go:53", after := #[{ on := 11, ground := Ground.data }, { on := 14, ground := Ground.data }], guard := none })) rfl (fun K hK => ?_) AllReadyH.nil
  go_simp
  refine (diesw _ _ _ (by omega) (by omega) (by omega)).mono ?_
  rintro e W8 ⟨rfl, b8⟩
  have hb8 := box_then (Below.refl n W6.drew) hN b8
  refine hK.out _ _ (KEEP.out _ hb8) (fun hHeld => ?_)
  clear hK K
  try simp only [Act.put, List.setIfInBounds_toArray, List.set_cons_zero, List.set_cons_succ]
  refine wpAnyH_ready (rs := [18]) (by kernel_rfl) (by simp) ?_
  refine AllReadyH.cons (o := ({ dst := some 31, op := Op.call { callee := Callee.value (Operand.func 31), args := #[Operand.tmp 30], argTypes := #[29] }, type := 3, pos := "maps.go:54", after := #[{ on := 17, ground := Ground.data }, { on := 15, ground := Ground.chain }], guard := none })) rfl (fun K hK => ?_) AllReadyH.nil
  go_simp
  refine (genw _ _ (by omega) (by omega)).mono ?_
  rintro e W9 ⟨rfl, b9⟩
  have hb9 := box_then hb8 hN b9
  refine hK.out _ _ (KEEP.out _ hb9) (fun hHeld => ?_)
  clear hK K
  try simp only [Act.put, List.setIfInBounds_toArray, List.set_cons_zero, List.set_cons_succ]
  refine wpAnyH_take (i := 19) (oi := ({ dst := some 32, op := Op.build 38 #[(0, Operand.tmp 15), (1, Operand.tmp 18), (2, Operand.tmp 21), (3, Operand.tmp 22), (4, Operand.tmp 28), (5, Operand.tmp 31)], type := 38, pos := "maps.go:48", after := #[{ on := 2, ground := Ground.data }, { on := 5, ground := Ground.data }, { on := 8, ground := Ground.data }, { on := 9, ground := Ground.data }, { on := 15, ground := Ground.data }, { on := 18, ground := Ground.data }], guard := none })) (v := ?_) rfl (by kernel_rfl) (by kernel_rfl) (by kernel_rfl) (fun _ _ _ h => h) (Or.inl ⟨by rfl, ?_⟩) (by assumption) ?_
  rotate_left 1
  · (intro w9 hSw; (try dsimp only at hSw); go_simp; try with_reducible rfl)
  try simp only [Act.put, List.setIfInBounds_toArray, List.set_cons_zero, List.set_cons_succ]
  refine wpAnyH_take (i := 20) (oi := ({ dst := some 33, op := Op.fieldAddr 83 (Operand.tmp 4) 1, type := 0, pos := "maps.go:48", after := #[{ on := 0, ground := Ground.phase }, { on := 1, ground := Ground.phase }, { on := 2, ground := Ground.phase }, { on := 3, ground := Ground.phase }, { on := 4, ground := Ground.phase }, { on := 5, ground := Ground.phase }, { on := 6, ground := Ground.phase }, { on := 7, ground := Ground.phase }, { on := 8, ground := Ground.phase }, { on := 9, ground := Ground.phase }, { on := 10, ground := Ground.phase }, { on := 11, ground := Ground.phase }, { on := 12, ground := Ground.phase }, { on := 13, ground := Ground.phase }, { on := 14, ground := Ground.phase }, { on := 15, ground := Ground.phase }, { on := 16, ground := Ground.phase }, { on := 17, ground := Ground.phase }, { on := 18, ground := Ground.phase }, { on := 19, ground := Ground.phase }], guard := none })) (v := ?_) rfl (by kernel_rfl) (by kernel_rfl) (by kernel_rfl) (fun _ _ _ h => h) (Or.inl ⟨by rfl, ?_⟩) (by assumption) ?_
  rotate_left 1
  · (intro w9 hSw; (try dsimp only at hSw); go_simp; try with_reducible rfl)
  try simp only [Act.put, List.setIfInBounds_toArray, List.set_cons_zero, List.set_cons_succ]
  refine wpAnyH_ready (rs := [21]) (by kernel_rfl) (by simp) ?_
  refine AllReadyH.cons (o := ({ dst := none, op := Op.store 38 (Operand.tmp 33) (Operand.tmp 32), type := 0, pos := "maps.go:48", after := #[{ on := 20, ground := Ground.data }, { on := 19, ground := Ground.data }, { on := 18, ground := Ground.chain }, { on := 0, ground := Ground.phase }, { on := 1, ground := Ground.phase }, { on := 2, ground := Ground.phase }, { on := 3, ground := Ground.phase }, { on := 4, ground := Ground.phase }, { on := 5, ground := Ground.phase }, { on := 6, ground := Ground.phase }, { on := 7, ground := Ground.phase }, { on := 8, ground := Ground.phase }, { on := 9, ground := Ground.phase }, { on := 10, ground := Ground.phase }, { on := 11, ground := Ground.phase }, { on := 12, ground := Ground.phase }, { on := 13, ground := Ground.phase }, { on := 14, ground := Ground.phase }, { on := 15, ground := Ground.phase }, { on := 16, ground := Ground.phase }, { on := 17, ground := Ground.phase }, { on := 18, ground := Ground.phase }, { on := 19, ground := Ground.phase }], guard := none })) rfl (fun K hK => ?_) AllReadyH.nil
  refine step_grec rfl (.tmp 33) (.tmp 32) rfl q4 8 _ ⟨x.c.key, x.c.val, x.c.fl, u64 (x.ids + 1), diesf x.w x.c.exp, genf x.w⟩ (x.mid ⟨x.c.key, x.c.val, x.c.fl, u64 (x.ids + 1), diesf x.w x.c.exp, genf x.w⟩) (E0.out.keep (Keeps.of_below hb9) (by omega)) (by decide) rfl rfl rfl ?_
  intro W10 h10 k10
  refine hK.out _ _ (by obtain ⟨y0, y1, y2, y3, y4, y5, y6, y7, y9, y11, y14, y15, y16⟩ := ask_cells ((D0.out.keep (Keeps.of_below hb9) (by omega)).keep k10 HNE.out); exact ⟨y1, y2, y3, y4, y7⟩) (fun hHeld => ?_)
  clear hK K
  try simp only [Act.put]
  refine wpAnyH_done (by kernel_rfl) ?_ _
  have f0 := fr_set (fr_new BQ.out ((Below.refl _ _).drew.trans (hb9.mono (by rw [HN.out]; exact Nat.le_refl _)))) k10 (h4.at b3)
  have H2 := Lib.hid ((h2.bk.new f0))
  have F0 := Lib.hid f0
  clear hHeld hb8 hb9 b8 b9 f0
  go_wp2_with (first
    | (refine wpList_gset rfl 4 (.tmp 35) (.const (.bool true)) rfl (by kernel_rfl) q4 14 _ _ ⟨⟨1, u64 (x.ids + 1), Itm.none⟩, ⟨x.c.key, x.c.val, x.c.fl, u64 (x.ids + 1), diesf x.w x.c.exp, genf x.w⟩, true, false, x.w, x.ids⟩ h10 (by decide) rfl rfl rfl rfl ?_; intro W11 h11 k11)
    | (refine wpList_gset rfl 4 (.tmp 36) (.const (.bool true)) rfl (by kernel_rfl) q4 15 _ _ ⟨⟨1, u64 (x.ids + 1), Itm.none⟩, ⟨x.c.key, x.c.val, x.c.fl, u64 (x.ids + 1), diesf x.w x.c.exp, genf x.w⟩, true, true, x.w, x.ids⟩ h11 (by decide) rfl rfl rfl rfl ?_; intro W12 h12 k12)
    | (refine wpList_gset rfl 29 (.tmp 37) (.tmp 34) rfl (by kernel_rfl) q4 17 _ _ x.store h12 (by decide) rfl rfl rfl rfl ?_; intro W13 h13 k13)
    | (refine wpList_givl rfl (.tmp 4) rfl q4 x.store h13 rfl ?_)
    | (refine wpList_giv rfl (.tmp 2) (.tmp 38) rfl q2 Giv.none x.store (H2.out.keep (((k11.trans k12 (fun _ _ s => s)).trans k13 (fun _ _ s => s))) (by have e1 := h4.eq; have e2 := b3.size; have e3 := h2.size; omega)) rfl rfl ?_; intro W14 h14 k14))
  refine bodyPost_ret (ret_giv rfl _ h14 rfl) rfl ⟨rfl, ?_⟩
  have g0 := fr_new (fr_new h1.below h2.below) F0.out
  have e4 := h4.at (fr_new (fr_new h1.below h2.below) b3)
  exact fr_set (fr_set (fr_set (fr_set g0 k11 e4) k12 e4) k13 e4) k14 K1.out
end Go.Proofs.YtmjklkcjinfmaaaDoor
