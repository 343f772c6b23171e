/- Maps: what a call gave is taken. -/
import Derived.Test.YtmjklkcjinfmaaaDoorMa9
namespace Go.Proofs.YtmjklkcjinfmaaaDoor
open Go.RowKit Go.Maps
set_option linter.unusedVariables false
theorem wp_put_mp {op : Oper} {a : Act} {w : World} {K : Act → World → Prop} {Q : Exit → Act → World → Prop} (mo xo vo : Operand) (ho : op.op = .mapUpdate 55 mo xo vo) (b : Nat) (L : List Itm) (h : Mq w b L) (x : Itm) (hs : x.k.size ≤ maxLen) (hL : L.length < maxLen) (hm : a.eval mo = .map (some b)) (hx : a.eval xo = .string x.k) (hv : a.eval vo = itV x)
    (hK : ∀ W, Mq W b (put L x) → Keeps (fun k => k = b) w W → K (a.put op.dst undef) W) : op.wp Tryd.prog a w K Q := by
  obtain ⟨w', hr, h1, h2⟩ := h.put (W := w) x hs hL
  unfold Oper.wp
  simp [execOp, ho, hm, hx, hv, hr, Result.andThen]
  exact hK _ h1 h2
theorem wpList_mkmap {ops : Array Oper} {rest : List Oper} {op : Oper} {a : Act} {w : World} {Q : Exit → Act → World → Prop} (hgd : op.guard = none) (ho : op.op = .makeMap 55 none)
    (hK : ∀ W b, Mq W b [] → b = w.heap.size → Below w.heap.size w W → wpList Tryd.prog ops Q rest (a.put op.dst (.map (some b))) W) : wpList Tryd.prog ops Q (op :: rest) a w := by
  refine wpList_plain hgd fun K hK' => ?_
  have hmm := @run_makeMap Tryd.prog
  unfold Oper.wp
  simp [execOp, ho, hmm, Result.andThen]
  exact hK' _ _ (hK _ _ (Mq.made w) rfl ((Below.refl _ _).alloc (Nat.le_refl _) _))
theorem wp_drop_mq {op : Oper} {a : Act} {w : World} {K : Act → World → Prop} {Q : Exit → Act → World → Prop} (mo xo : Operand) (ho : op.op = .call { callee := .builtin .delete, args := #[mo, xo], argTypes := #[55, 9] }) (m : Nat) (mv : Option Nat) (S : Mst) (h : Mp w m mv S) (key : ByteArray) (hs : key.size ≤ maxLen) (hm : a.eval mo = .map mv) (hx : a.eval xo = .string key)
    (hK : ∀ W, Mp W m mv ⟨wo S.L key, S.e, S.i⟩ → Keeps (fun k => mv = some k) w W → K (a.put op.dst (.tuple #[])) W) : op.wp Tryd.prog a w K Q := by
  rcases h.recs with ⟨e1, e2⟩ | ⟨b, rfl, hne, hq⟩
  · subst e1
    have hr := Maps.drop_nil (w := w) lawK Tryd.underlying55 (keyK hs) op.type
    unfold Oper.wp
    simp [execOp, ho, resolve, invoke, builtin, hm, hx, hr, Result.andThen]
    exact hK _ ⟨h.bk, .inl ⟨rfl, by show wo S.L key = []; rw [e2]; rfl⟩⟩ (Keeps.refl _ _)
  · obtain ⟨w', hr, h1, h2⟩ := hq.drop hs op.type
    unfold Oper.wp
    simp [execOp, ho, resolve, invoke, builtin, hm, hx, hr, Result.andThen]
    exact hK _ ⟨h.bk.keep h2 (fun e => hne e.symm), .inr ⟨b, rfl, hne, h1⟩⟩ (h2.mono fun k _ e => by rw [e])
theorem wp_set_bk {P : Program} {op : Oper} {a : Act} {w : World} {K : Act → World → Prop} {Q : Exit → Act → World → Prop} (ty : TypeId) (x y : Operand) (ho : op.op = .store ty x y)
    (q o : Nat) (C : List Value) (u : Value) (C' : List Value) (h : Bk w q C) (hn : o < C.length) (hC : C' = C.set o u) (hi : (P.info? ty).map (·.size) = some 1) (h1 : u.oneCell' = true) (hx : a.eval x = .pointer (some ⟨q, o, none⟩)) (hy : a.eval y = u)
    (hK : ∀ W, Bk W q C' → Keeps (fun k => k = q) w W → K (a.put op.dst undef) W) : op.wp P a w K Q := by
  have hc : (Value.cells u).size = 1 := by cases u <;> first | rfl | (simp [Value.oneCell'] at h1)
  have hcu : Value.cells u = #[u] := by cases u <;> first | rfl | (simp [Value.oneCell'] at h1)
  have hr : (Instr.storeAt ty (.pointer (some ⟨q, o, none⟩)) u).run P w = .ok () (w.setCell ⟨q, o, none⟩ u) := by
    have h0 := h.there o 1 (by omega) 0 (by decide)
    rw [Nat.add_zero] at h0
    have hs := run_storeCells_cells (P := P) q o [u] 0 w (fun j hj => by
      have e : j = 0 := by simpa using hj
      subst e
      exact h0.1) (fun j hj => by
      have e : j = 0 := by simpa using hj
      subst e
      exact h0.2) (fun v hv => by simp at hv; subst hv; exact h1)
    cases hq : P.info? ty with
    | none => simp [hq] at hi
    | some i =>
      have hsz : i.size = 1 := by simpa [hq] using hi
      simp only [Nat.add_zero] at hs
      simp [Instr.storeAt, Instr.sureAddr, storeVar, sizeOf, typeInfo, hq, hcu, hsz, hs, World.setCells]
  unfold Oper.wp execOp
  simp only [ho, hx, hy, Sem.run_bind, Sem.run_pure, Result.andThen_ok, hr]
  refine hK _ ?_ ?_
  · have := h.put o [u] (by show o + 1 ≤ C.length; omega) (C' := C') (by
      rw [hC]
      rw [List.set_eq_take_append_cons_drop, if_pos hn]
      rfl)
    exact this
  · exact Keeps.setCell (S := fun k => k = q) (Keeps.refl _ w) (p := ⟨q, o, none⟩) (.inl rfl) u
theorem step_set_bk {P : Program} {ops : Array Oper} {op : Oper} {a : Act} {w : World} {K : Act → World → Prop} {Q : Exit → Act → World → Prop} {E : Prop} (hgd : op.guard = none) (ty : TypeId) (x y : Operand) (ho : op.op = .store ty x y)
    (q o : Nat) (C : List Value) (u : Value) (C' : List Value) (h : Bk w q C) (hn : o < C.length) (hC : C' = C.set o u) (hi : (P.info? ty).map (·.size) = some 1) (h1 : u.oneCell' = true) (hx : a.eval x = .pointer (some ⟨q, o, none⟩)) (hy : a.eval y = u)
    (hK : ∀ W, Bk W q C' → Keeps (fun k => k = q) w W → K (a.put op.dst undef) W) : if Region.wanted op (yielded ops a.tmps) = true then Oper.wp P op a w K Q else E :=
  step_of hgd (wp_set_bk ty x y ho q o C u C' h hn hC hi h1 hx hy hK)
/-- A store into a Map's own block. -/
theorem Mp.cells {w W : World} {m : Nat} {mv : Option Nat} {S S' : Mst} (h : Mp w m mv S) (hb : Bk W m (mapC mv S')) (hk : Keeps (fun k => k = m) w W) (hL : S'.L = S.L) : Mp W m mv S' := by
  refine ⟨hb, ?_⟩
  rw [hL]
  rcases h.recs with h | ⟨b, h1, h2, h3⟩
  · exact .inl h
  · exact .inr ⟨b, h1, h2, h3.keep hk h2⟩
theorem giv_cells {w : World} {q : Nat} {g : Giv} (h : Bk w q (givC g)) : w.cell? ⟨q, 8, none⟩ = some (.string g.r.k) ∧ w.cell? ⟨q, 9, none⟩ = some (.string g.r.v) ∧ w.cell? ⟨q, 10, none⟩ = some (.int .u32 g.r.fl) ∧ w.cell? ⟨q, 11, none⟩ = some (.int .u64 g.r.id) ∧ w.cell? ⟨q, 12, none⟩ = some (.int .i64 g.r.dies) ∧ w.cell? ⟨q, 13, none⟩ = some (.int .i64 g.r.gen) ∧ w.cell? ⟨q, 14, none⟩ = some (.bool g.is) ∧ w.cell? ⟨q, 15, none⟩ = some (.bool g.st) ∧ w.cell? ⟨q, 16, none⟩ = some (.int .u64 g.e) ∧ w.cell? ⟨q, 17, none⟩ = some (.int .u64 g.i) :=
  ⟨h.at_ 8 _ rfl, h.at_ 9 _ rfl, h.at_ 10 _ rfl, h.at_ 11 _ rfl, h.at_ 12 _ rfl, h.at_ 13 _ rfl, h.at_ 14 _ rfl, h.at_ 15 _ rfl, h.at_ 16 _ rfl, h.at_ 17 _ rfl⟩
/-- What is taken: the Map behind it, and which blocks turned. -/
def TkP (w : World) (m : Nat) (mv : Option Nat) (S' : Mst) (e : Ending) (w' : World) : Prop := e = .returned (.tuple #[]) ∧ ∃ mv', Mp w' m mv' S' ∧ Keeps (MpB m mv) w w' ∧ (mv' = mv ∨ ∃ b, mv' = some b ∧ w.heap.size ≤ b)
def mtake (S : Mst) (key : ByteArray) (g : Giv) : Mst := ⟨if g.is then put S.L g.r else wo S.L key, g.e, g.i⟩
set_option maxHeartbeats 4000000 in
set_option maxRecDepth 100000 in
theorem take_no (m : Nat) (mv : Option Nat) (S : Mst) (key : ByteArray) (g : Giv) (w : World) (h : Mp w m mv S) (hk : key.size ≤ maxLen) (his : g.is = false) :
    Calls Tryd.prog 39 #[.pointer (some ⟨m, 0, none⟩), .string key, .agg (givC g).toArray] w (TkP w m mv (mtake S key g)) := by
  have H := Lib.hid h
  clear h
  go_enter Tryd.func39, Tryd.ntmps39
  go_wp2_with ((with_reducible refine at_wp ?_); refine wpList_box_bk rfl 83 (.tmp 2) rfl (givC g) rfl ?_; intro W1 q1 h1)
  have hd : Below W1.heap.size W1 W1.drew := (Below.refl _ _).drew
  have HM := Lib.hid (H.out.new (fr_new h1.below hd))
  have hne : m ≠ q1 := by have e1 := H.out.bk.lt; have e2 := h1.eq; omega
  have H1 := Lib.hid (h1.bk.new hd)
  have HF := Lib.hid (fr_new h1.below hd)
  have HN := Lib.hid hne
  refine wp_region_held_drew (S := fun X => X.cell? ⟨q1, 16, none⟩ = some (.int .u64 g.e) ∧ X.cell? ⟨q1, 17, none⟩ = some (.int .u64 g.i)) (by kernel_rfl) (⟨H1.out.at_ 16 _ rfl, H1.out.at_ 17 _ rfl⟩) (fun hHeld => ?_)
  refine wpAnyH_take (i := 0) (oi := ({ dst := some 6, op := Op.move (Operand.tmp 0), type := 25, pos := "maps.go:195", after := #[], guard := none })) (v := ?_) rfl (by kernel_rfl) (by kernel_rfl) (by kernel_rfl) (fun _ _ _ h => h) (Or.inl ⟨by rfl, ?_⟩) (by assumption) ?_
  rotate_left 1
  · (intro w9 hSw; (try dsimp only at hSw); go_simp; try with_reducible rfl)
  try simp only [Act.put, List.setIfInBounds_toArray, List.set_cons_zero, List.set_cons_succ]
  refine wpAnyH_take (i := 1) (oi := ({ dst := some 7, op := Op.move (Operand.tmp 0), type := 25, pos := "maps.go:195", after := #[{ on := 8, ground := Ground.gcOnly Departure.lateStores }], guard := none })) (v := ?_) rfl (by kernel_rfl) (by kernel_rfl) (by kernel_rfl) (fun _ _ _ h => h) (Or.inl ⟨by rfl, ?_⟩) (by assumption) ?_
  rotate_left 1
  · (intro w9 hSw; (try dsimp only at hSw); go_simp; try with_reducible rfl)
  try simp only [Act.put, List.setIfInBounds_toArray, List.set_cons_zero, List.set_cons_succ]
  refine wpAnyH_take (i := 2) (oi := ({ dst := some 8, op := Op.fieldAddr 83 (Operand.tmp 5) 4, type := 0, pos := "maps.go:195", after := #[], guard := none })) (v := ?_) rfl (by kernel_rfl) (by kernel_rfl) (by kernel_rfl) (fun _ _ _ h => h) (Or.inl ⟨by rfl, ?_⟩) (by assumption) ?_
  rotate_left 1
  · (intro w9 hSw; (try dsimp only at hSw); go_simp; try with_reducible rfl)
  try simp only [Act.put, List.setIfInBounds_toArray, List.set_cons_zero, List.set_cons_succ]
  refine wpAnyH_take (i := 3) (oi := ({ dst := some 9, op := Op.load 29 (Operand.tmp 8), type := 29, pos := "maps.go:195", after := #[{ on := 2, ground := Ground.data }], guard := none })) (v := ?_) rfl (by kernel_rfl) (by kernel_rfl) (by kernel_rfl) (fun _ _ _ h => h) (Or.inl ⟨by rfl, ?_⟩) (by assumption) ?_
  rotate_left 1
  · (intro w9 hSw; (try dsimp only at hSw); go_simp; try with_reducible rfl)
  try simp only [Act.put, List.setIfInBounds_toArray, List.set_cons_zero, List.set_cons_succ]
  refine wpAnyH_take (i := 4) (oi := ({ dst := some 10, op := Op.fieldAddr 83 (Operand.tmp 5) 5, type := 0, pos := "maps.go:195", after := #[{ on := 8, ground := Ground.gcOnly Departure.lateStores }], guard := none })) (v := ?_) rfl (by kernel_rfl) (by kernel_rfl) (by kernel_rfl) (fun _ _ _ h => h) (Or.inl ⟨by rfl, ?_⟩) (by assumption) ?_
  rotate_left 1
  · (intro w9 hSw; (try dsimp only at hSw); go_simp; try with_reducible rfl)
  try simp only [Act.put, List.setIfInBounds_toArray, List.set_cons_zero, List.set_cons_succ]
  refine wpAnyH_take (i := 5) (oi := ({ dst := some 11, op := Op.load 29 (Operand.tmp 10), type := 29, pos := "maps.go:195", after := #[{ on := 4, ground := Ground.data }, { on := 8, ground := Ground.gcOnly Departure.lateStores }], guard := none })) (v := ?_) rfl (by kernel_rfl) (by kernel_rfl) (by kernel_rfl) (fun _ _ _ h => h) (Or.inl ⟨by rfl, ?_⟩) (by assumption) ?_
  rotate_left 1
  · (intro w9 hSw; (try dsimp only at hSw); go_simp; try with_reducible rfl)
  try simp only [Act.put, List.setIfInBounds_toArray, List.set_cons_zero, List.set_cons_succ]
  refine wpAnyH_take (i := 6) (oi := ({ dst := some 12, op := Op.nilCheck (Operand.tmp 6), type := 0, pos := "maps.go:195", after := #[{ on := 0, ground := Ground.data }, { on := 0, ground := Ground.phase }, { on := 1, ground := Ground.textOnly Departure.lateStores }, { on := 2, ground := Ground.phase }, { on := 3, ground := Ground.phase }, { on := 4, ground := Ground.textOnly Departure.lateStores }, { on := 5, ground := Ground.textOnly Departure.lateStores }], guard := none })) (v := ?_) rfl (by kernel_rfl) (by kernel_rfl) (by kernel_rfl) (fun _ _ _ h => h) (Or.inl ⟨by rfl, ?_⟩) (by assumption) ?_
  rotate_left 1
  · (intro w9 hSw; (try dsimp only at hSw); go_simp; try with_reducible rfl)
  try simp only [Act.put, List.setIfInBounds_toArray, List.set_cons_zero, List.set_cons_succ]
  refine wpAnyH_take (i := 7) (oi := ({ dst := some 13, op := Op.fieldAddr 57 (Operand.tmp 12) 1, type := 0, pos := "maps.go:195", after := #[{ on := 6, ground := Ground.data }, { on := 0, ground := Ground.phase }, { on := 1, ground := Ground.textOnly Departure.lateStores }, { on := 2, ground := Ground.phase }, { on := 3, ground := Ground.phase }, { on := 4, ground := Ground.textOnly Departure.lateStores }, { on := 5, ground := Ground.textOnly Departure.lateStores }], guard := none })) (v := ?_) rfl (by kernel_rfl) (by kernel_rfl) (by kernel_rfl) (fun _ _ _ h => h) (Or.inl ⟨by rfl, ?_⟩) (by assumption) ?_
  rotate_left 1
  · (intro w9 hSw; (try dsimp only at hSw); go_simp; try with_reducible rfl)
  try simp only [Act.put, List.setIfInBounds_toArray, List.set_cons_zero, List.set_cons_succ]
  refine wpAnyH_ready (rs := [8]) (by kernel_rfl) (by simp) ?_
  refine AllReadyH.cons (o := ({ dst := none, op := Op.store 29 (Operand.tmp 13) (Operand.tmp 9), type := 0, pos := "maps.go:195", after := #[{ on := 7, ground := Ground.data }, { on := 3, ground := Ground.data }, { on := 0, ground := Ground.phase }, { on := 1, ground := Ground.textOnly Departure.lateStores }, { on := 2, ground := Ground.phase }, { on := 3, ground := Ground.phase }, { on := 4, ground := Ground.textOnly Departure.lateStores }, { on := 5, ground := Ground.textOnly Departure.lateStores }], guard := none })) rfl (fun K hK => ?_) AllReadyH.nil
  refine step_set_bk rfl 29 (.tmp 13) (.tmp 9) rfl m 1 (mapC mv S) (.int .u64 g.e) (mapC mv ⟨S.L, g.e, S.i⟩) HM.out.bk (by show 1 < 3; decide) rfl (by kernel_rfl) rfl rfl rfl ?_
  intro W2 h2 k2
  have G2 := H1.out.keep k2 (fun e => hne e.symm)
  refine hK.out _ _ (⟨G2.at_ 16 _ rfl, G2.at_ 17 _ rfl⟩) (fun hHeld => ?_)
  clear hK K
  try simp only [Act.put]
  refine wpAnyH_take (i := 9) (oi := ({ dst := some 14, op := Op.nilCheck (Operand.tmp 7), type := 0, pos := "maps.go:195", after := #[{ on := 1, ground := Ground.data }, { on := 0, ground := Ground.phase }, { on := 1, ground := Ground.phase }, { on := 2, ground := Ground.phase }, { on := 3, ground := Ground.phase }, { on := 4, ground := Ground.phase }, { on := 5, ground := Ground.phase }, { on := 6, ground := Ground.phase }, { on := 7, ground := Ground.phase }, { on := 8, ground := Ground.phase }], guard := none })) (v := ?_) rfl (by kernel_rfl) (by kernel_rfl) (by kernel_rfl) (fun _ _ _ h => h) (Or.inl ⟨by rfl, ?_⟩) (by assumption) ?_
  rotate_left 1
  · (intro w9 hSw; (try dsimp only at hSw); go_simp; try with_reducible rfl)
  try simp only [Act.put, List.setIfInBounds_toArray, List.set_cons_zero, List.set_cons_succ]
  refine wpAnyH_take (i := 10) (oi := ({ dst := some 15, op := Op.fieldAddr 57 (Operand.tmp 14) 2, type := 0, pos := "maps.go:195", after := #[{ on := 9, ground := Ground.data }, { on := 0, ground := Ground.phase }, { on := 1, ground := Ground.phase }, { on := 2, ground := Ground.phase }, { on := 3, ground := Ground.phase }, { on := 4, ground := Ground.phase }, { on := 5, ground := Ground.phase }, { on := 6, ground := Ground.phase }, { on := 7, ground := Ground.phase }, { on := 8, ground := Ground.phase }], guard := none })) (v := ?_) rfl (by kernel_rfl) (by kernel_rfl) (by kernel_rfl) (fun _ _ _ h => h) (Or.inl ⟨by rfl, ?_⟩) (by assumption) ?_
  rotate_left 1
  · (intro w9 hSw; (try dsimp only at hSw); go_simp; try with_reducible rfl)
  try simp only [Act.put, List.setIfInBounds_toArray, List.set_cons_zero, List.set_cons_succ]
  refine wpAnyH_ready (rs := [11]) (by kernel_rfl) (by simp) ?_
  refine AllReadyH.cons (o := ({ dst := none, op := Op.store 29 (Operand.tmp 15) (Operand.tmp 11), type := 0, pos := "maps.go:195", after := #[{ on := 10, ground := Ground.data }, { on := 5, ground := Ground.data }, { on := 8, ground := Ground.chain }, { on := 0, ground := Ground.phase }, { on := 1, ground := Ground.phase }, { on := 2, ground := Ground.phase }, { on := 3, ground := Ground.phase }, { on := 4, ground := Ground.phase }, { on := 5, ground := Ground.phase }, { on := 6, ground := Ground.phase }, { on := 7, ground := Ground.phase }, { on := 8, ground := Ground.phase }], guard := none })) rfl (fun K hK => ?_) AllReadyH.nil
  refine step_set_bk rfl 29 (.tmp 15) (.tmp 11) rfl m 2 (mapC mv ⟨S.L, g.e, S.i⟩) (.int .u64 g.i) (mapC mv ⟨S.L, g.e, g.i⟩) h2 (by show 2 < 3; decide) rfl (by kernel_rfl) rfl rfl rfl ?_
  intro W3 h3 k3
  have G3 := G2.keep k3 (fun e => hne e.symm)
  refine hK.out _ _ (⟨G3.at_ 16 _ rfl, G3.at_ 17 _ rfl⟩) (fun hHeld => ?_)
  clear hK K
  try simp only [Act.put]
  refine wpAnyH_done (by kernel_rfl) ?_ _
  have HK := Lib.hid (k2.trans k3 (fun _ _ s => s))
  have HM3 := Lib.hid (HM.out.cells (S' := ⟨S.L, g.e, g.i⟩) h3 HK.out rfl)
  obtain ⟨y8, y9, y10, y11, y12, y13, y14, y15, y16, y17⟩ := giv_cells G3
  rw [his] at y14
  have z0 := h3.at_ 0 _ rfl
  clear h2 h3 k2 k3 G2 hHeld hne
  go_wp2_with (at_delete; refine wpList_plain rfl fun K hK => ?_; refine wp_drop_mq (.tmp 22) (.tmp 23) rfl m mv ⟨S.L, g.e, g.i⟩ HM3.out key hk rfl rfl ?_; intro W4 h4 k4; refine hK _ _ ?_)
  go_end0
  refine ⟨rfl, mv, ?_, ?_, .inl rfl⟩
  · unfold mtake
    rw [his]
    exact h4
  · exact ((Keeps.of_new (S := MpB m mv) HF.out).trans HK.out (fun i _ e => .inl e)).trans k4 (fun i _ e => .inr e)
set_option maxHeartbeats 4000000 in
set_option maxRecDepth 100000 in
theorem take_yes (m : Nat) (mv : Option Nat) (S : Mst) (key : ByteArray) (g : Giv) (w : World) (h : Mp w m mv S) (hS : Uniq S.L) (hL : S.L.length < maxLen) (hr : g.r.k = key) (hk : key.size ≤ maxLen) (his : g.is = true) :
    Calls Tryd.prog 39 #[.pointer (some ⟨m, 0, none⟩), .string key, .agg (givC g).toArray] w (TkP w m mv (mtake S key g)) := by
  have H := Lib.hid h
  have HR := Lib.hid hr
  clear h hr
  cases mv with
  | none =>
    go_enter Tryd.func39, Tryd.ntmps39
    go_wp2_with ((with_reducible refine at_wp ?_); refine wpList_box_bk rfl 83 (.tmp 2) rfl (givC g) rfl ?_; intro W1 q1 h1)
    have hd : Below W1.heap.size W1 W1.drew := (Below.refl _ _).drew
    have HM := Lib.hid (H.out.new (fr_new h1.below hd))
    have hne : m ≠ q1 := by have e1 := H.out.bk.lt; have e2 := h1.eq; omega
    have H1 := Lib.hid (h1.bk.new hd)
    have HF := Lib.hid (fr_new h1.below hd)
    have HN := Lib.hid hne
    refine wp_region_held_drew (S := fun X => X.cell? ⟨q1, 16, none⟩ = some (.int .u64 g.e) ∧ X.cell? ⟨q1, 17, none⟩ = some (.int .u64 g.i)) (by kernel_rfl) (⟨H1.out.at_ 16 _ rfl, H1.out.at_ 17 _ rfl⟩) (fun hHeld => ?_)
    refine wpAnyH_take (i := 0) (oi := ({ dst := some 6, op := Op.move (Operand.tmp 0), type := 25, pos := "maps.go:195", after := #[], guard := none })) (v := ?_) rfl (by kernel_rfl) (by kernel_rfl) (by kernel_rfl) (fun _ _ _ h => h) (Or.inl ⟨by rfl, ?_⟩) (by assumption) ?_
    rotate_left 1
    · (intro w9 hSw; (try dsimp only at hSw); go_simp; try with_reducible rfl)
    try simp only [Act.put, List.setIfInBounds_toArray, List.set_cons_zero, List.set_cons_succ]
    refine wpAnyH_take (i := 1) (oi := ({ dst := some 7, op := Op.move (Operand.tmp 0), type := 25, pos := "maps.go:195", after := #[{ on := 8, ground := Ground.gcOnly Departure.lateStores }], guard := none })) (v := ?_) rfl (by kernel_rfl) (by kernel_rfl) (by kernel_rfl) (fun _ _ _ h => h) (Or.inl ⟨by rfl, ?_⟩) (by assumption) ?_
    rotate_left 1
    · (intro w9 hSw; (try dsimp only at hSw); go_simp; try with_reducible rfl)
    try simp only [Act.put, List.setIfInBounds_toArray, List.set_cons_zero, List.set_cons_succ]
    refine wpAnyH_take (i := 2) (oi := ({ dst := some 8, op := Op.fieldAddr 83 (Operand.tmp 5) 4, type := 0, pos := "maps.go:195", after := #[], guard := none })) (v := ?_) rfl (by kernel_rfl) (by kernel_rfl) (by kernel_rfl) (fun _ _ _ h => h) (Or.inl ⟨by rfl, ?_⟩) (by assumption) ?_
    rotate_left 1
    · (intro w9 hSw; (try dsimp only at hSw); go_simp; try with_reducible rfl)
    try simp only [Act.put, List.setIfInBounds_toArray, List.set_cons_zero, List.set_cons_succ]
    refine wpAnyH_take (i := 3) (oi := ({ dst := some 9, op := Op.load 29 (Operand.tmp 8), type := 29, pos := "maps.go:195", after := #[{ on := 2, ground := Ground.data }], guard := none })) (v := ?_) rfl (by kernel_rfl) (by kernel_rfl) (by kernel_rfl) (fun _ _ _ h => h) (Or.inl ⟨by rfl, ?_⟩) (by assumption) ?_
    rotate_left 1
    · (intro w9 hSw; (try dsimp only at hSw); go_simp; try with_reducible rfl)
    try simp only [Act.put, List.setIfInBounds_toArray, List.set_cons_zero, List.set_cons_succ]
    refine wpAnyH_take (i := 4) (oi := ({ dst := some 10, op := Op.fieldAddr 83 (Operand.tmp 5) 5, type := 0, pos := "maps.go:195", after := #[{ on := 8, ground := Ground.gcOnly Departure.lateStores }], guard := none })) (v := ?_) rfl (by kernel_rfl) (by kernel_rfl) (by kernel_rfl) (fun _ _ _ h => h) (Or.inl ⟨by rfl, ?_⟩) (by assumption) ?_
    rotate_left 1
    · (intro w9 hSw; (try dsimp only at hSw); go_simp; try with_reducible rfl)
    try simp only [Act.put, List.setIfInBounds_toArray, List.set_cons_zero, List.set_cons_succ]
    refine wpAnyH_take (i := 5) (oi := ({ dst := some 11, op := Op.load 29 (Operand.tmp 10), type := 29, pos := "maps.go:195", after := #[{ on := 4, ground := Ground.data }, { on := 8, ground := Ground.gcOnly Departure.lateStores }], guard := none })) (v := ?_) rfl (by kernel_rfl) (by kernel_rfl) (by kernel_rfl) (fun _ _ _ h => h) (Or.inl ⟨by rfl, ?_⟩) (by assumption) ?_
    rotate_left 1
    · (intro w9 hSw; (try dsimp only at hSw); go_simp; try with_reducible rfl)
    try simp only [Act.put, List.setIfInBounds_toArray, List.set_cons_zero, List.set_cons_succ]
    refine wpAnyH_take (i := 6) (oi := ({ dst := some 12, op := Op.nilCheck (Operand.tmp 6), type := 0, pos := "maps.go:195", after := #[{ on := 0, ground := Ground.data }, { on := 0, ground := Ground.phase }, { on := 1, ground := Ground.textOnly Departure.lateStores }, { on := 2, ground := Ground.phase }, { on := 3, ground := Ground.phase }, { on := 4, ground := Ground.textOnly Departure.lateStores }, { on := 5, ground := Ground.textOnly Departure.lateStores }], guard := none })) (v := ?_) rfl (by kernel_rfl) (by kernel_rfl) (by kernel_rfl) (fun _ _ _ h => h) (Or.inl ⟨by rfl, ?_⟩) (by assumption) ?_
    rotate_left 1
    · (intro w9 hSw; (try dsimp only at hSw); go_simp; try with_reducible rfl)
    try simp only [Act.put, List.setIfInBounds_toArray, List.set_cons_zero, List.set_cons_succ]
    refine wpAnyH_take (i := 7) (oi := ({ dst := some 13, op := Op.fieldAddr 57 (Operand.tmp 12) 1, type := 0, pos := "maps.go:195", after := #[{ on := 6, ground := Ground.data }, { on := 0, ground := Ground.phase }, { on := 1, ground := Ground.textOnly Departure.lateStores }, { on := 2, ground := Ground.phase }, { on := 3, ground := Ground.phase }, { on := 4, ground := Ground.textOnly Departure.lateStores }, { on := 5, ground := Ground.textOnly Departure.lateStores }], guard := none })) (v := ?_) rfl (by kernel_rfl) (by kernel_rfl) (by kernel_rfl) (fun _ _ _ h => h) (Or.inl ⟨by rfl, ?_⟩) (by assumption) ?_
    rotate_left 1
    · (intro w9 hSw; (try dsimp only at hSw); go_simp; try with_reducible rfl)
    try simp only [Act.put, List.setIfInBounds_toArray, List.set_cons_zero, List.set_cons_succ]
    refine wpAnyH_ready (rs := [8]) (by kernel_rfl) (by simp) ?_
    refine AllReadyH.cons (o := ({ dst := none, op := Op.store 29 (Operand.tmp 13) (Operand.tmp 9), type := 0, pos := "maps.go:195", after := #[{ on := 7, ground := Ground.data }, { on := 3, ground := Ground.data }, { on := 0, ground := Ground.phase }, { on := 1, ground := Ground.textOnly Departure.lateStores }, { on := 2, ground := Ground.phase }, { on := 3, ground := Ground.phase }, { on := 4, ground := Ground.textOnly Departure.lateStores }, { on := 5, ground := Ground.textOnly Departure.lateStores }], guard := none })) rfl (fun K hK => ?_) AllReadyH.nil
    refine step_set_bk rfl 29 (.tmp 13) (.tmp 9) rfl m 1 (mapC none S) (.int .u64 g.e) (mapC none ⟨S.L, g.e, S.i⟩) HM.out.bk (by show 1 < 3; decide) rfl (by kernel_rfl) rfl rfl rfl ?_
    intro W2 h2 k2
    have G2 := H1.out.keep k2 (fun e => hne e.symm)
    refine hK.out _ _ (⟨G2.at_ 16 _ rfl, G2.at_ 17 _ rfl⟩) (fun hHeld => ?_)
    clear hK K
    try simp only [Act.put]
    refine wpAnyH_take (i := 9) (oi := ({ dst := some 14, op := Op.nilCheck (Operand.tmp 7), type := 0, pos := "maps.go:195", after := #[{ on := 1, ground := Ground.data }, { on := 0, ground := Ground.phase }, { on := 1, ground := Ground.phase }, { on := 2, ground := Ground.phase }, { on := 3, ground := Ground.phase }, { on := 4, ground := Ground.phase }, { on := 5, ground := Ground.phase }, { on := 6, ground := Ground.phase }, { on := 7, ground := Ground.phase }, { on := 8, ground := Ground.phase }], guard := none })) (v := ?_) rfl (by kernel_rfl) (by kernel_rfl) (by kernel_rfl) (fun _ _ _ h => h) (Or.inl ⟨by rfl, ?_⟩) (by assumption) ?_
    rotate_left 1
    · (intro w9 hSw; (try dsimp only at hSw); go_simp; try with_reducible rfl)
    try simp only [Act.put, List.setIfInBounds_toArray, List.set_cons_zero, List.set_cons_succ]
    refine wpAnyH_take (i := 10) (oi := ({ dst := some 15, op := Op.fieldAddr 57 (Operand.tmp 14) 2, type := 0, pos := "maps.go:195", after := #[{ on := 9, ground := Ground.data }, { on := 0, ground := Ground.phase }, { on := 1, ground := Ground.phase }, { on := 2, ground := Ground.phase }, { on := 3, ground := Ground.phase }, { on := 4, ground := Ground.phase }, { on := 5, ground := Ground.phase }, { on := 6, ground := Ground.phase }, { on := 7, ground := Ground.phase }, { on := 8, ground := Ground.phase }], guard := none })) (v := ?_) rfl (by kernel_rfl) (by kernel_rfl) (by kernel_rfl) (fun _ _ _ h => h) (Or.inl ⟨by rfl, ?_⟩) (by assumption) ?_
    rotate_left 1
    · (intro w9 hSw; (try dsimp only at hSw); go_simp; try with_reducible rfl)
    try simp only [Act.put, List.setIfInBounds_toArray, List.set_cons_zero, List.set_cons_succ]
    refine wpAnyH_ready (rs := [11]) (by kernel_rfl) (by simp) ?_
    refine AllReadyH.cons (o := ({ dst := none, op := Op.store 29 (Operand.tmp 15) (Operand.tmp 11), type := 0, pos := "maps.go:195", after := #[{ on := 10, ground := Ground.data }, { on := 5, ground := Ground.data }, { on := 8, ground := Ground.chain }, { on := 0, ground := Ground.phase }, { on := 1, ground := Ground.phase }, { on := 2, ground := Ground.phase }, { on := 3, ground := Ground.phase }, { on := 4, ground := Ground.phase }, { on := 5, ground := Ground.phase }, { on := 6, ground := Ground.phase }, { on := 7, ground := Ground.phase }, { on := 8, ground := Ground.phase }], guard := none })) rfl (fun K hK => ?_) AllReadyH.nil
    refine step_set_bk rfl 29 (.tmp 15) (.tmp 11) rfl m 2 (mapC none ⟨S.L, g.e, S.i⟩) (.int .u64 g.i) (mapC none ⟨S.L, g.e, g.i⟩) h2 (by show 2 < 3; decide) rfl (by kernel_rfl) rfl rfl rfl ?_
    intro W3 h3 k3
    have G3 := G2.keep k3 (fun e => hne e.symm)
    refine hK.out _ _ (⟨G3.at_ 16 _ rfl, G3.at_ 17 _ rfl⟩) (fun hHeld => ?_)
    clear hK K
    try simp only [Act.put]
    refine wpAnyH_done (by kernel_rfl) ?_ _
    have HK := Lib.hid (k2.trans k3 (fun _ _ s => s))
    have HM3 := Lib.hid (HM.out.cells (S' := ⟨S.L, g.e, g.i⟩) h3 HK.out rfl)
    have y14 := G3.at_ 14 _ rfl
    rw [his] at y14
    have z0 := h3.at_ 0 _ rfl
    have HG3 := Lib.hid G3
    clear h2 h3 k2 k3 G2 G3 hHeld hne
    have hq : ∀ W, (binOp .eql 55 (.map none) (.map none)).run Tryd.prog W = .ok (.bool true) W := fun W => by kernel_rfl
    go_wp2_with (first
      | ((with_reducible refine at_wp ?_); refine wpList_mkmap rfl rfl ?_; intro W4 b h4 e4 f4; have H4 := Lib.hid (And.intro h4 (And.intro e4 f4)); clear h4 e4 f4)
      | ((with_reducible refine at_wp ?_); refine wpList_set_bk rfl 55 (.tmp 32) (.tmp 30) rfl m 0 (mapC none ⟨S.L, g.e, g.i⟩) (.map (some b)) (mapC (some b) ⟨S.L, g.e, g.i⟩) (HM3.out.bk.new H4.out.2.2) (by show 0 < 3; decide) rfl (by kernel_rfl) rfl rfl rfl ?_; intro W5 h5 k5))
    obtain ⟨h4, e4, f4⟩ := H4.out
    have hbm : b ≠ m := by have e1 := HM3.out.bk.lt; omega
    have hS0 : S.L = [] := by
      rcases H.out.recs with ⟨_, e⟩ | ⟨b, e, _⟩
      · exact e
      · cases e
    have HM5 := Lib.hid (show Mp W5 m (some b) ⟨S.L, g.e, g.i⟩ from ⟨h5, .inr ⟨b, rfl, hbm, by show Mq W5 b S.L; rw [hS0]; exact h4.keep k5 hbm⟩⟩)
    have G5 := Lib.hid (((HG3.out.new f4).keep k5 (fun e => HN.out e.symm)))
    have HB := Lib.hid (And.intro f4 (And.intro k5 (And.intro hbm e4)))
    clear h4 e4 f4 h5 k5 hbm z0 hq
    refine wp_region_held_drew (S := fun X => X.cell? ⟨m, 0, none⟩ = some (.map (some b)) ∧ X.cell? ⟨q1, 8, none⟩ = some (.string g.r.k) ∧ X.cell? ⟨q1, 9, none⟩ = some (.string g.r.v) ∧ X.cell? ⟨q1, 10, none⟩ = some (.int .u32 g.r.fl) ∧ X.cell? ⟨q1, 11, none⟩ = some (.int .u64 g.r.id) ∧ X.cell? ⟨q1, 12, none⟩ = some (.int .i64 g.r.dies) ∧ X.cell? ⟨q1, 13, none⟩ = some (.int .i64 g.r.gen)) (by kernel_rfl) (by obtain ⟨a8, a9, a10, a11, a12, a13, _⟩ := giv_cells G5.out.drew; exact ⟨HM5.out.bk.drew.at_ 0 _ rfl, a8, a9, a10, a11, a12, a13⟩) (fun hHeld => ?_)
    refine wpAnyH_take (i := 0) (oi := ({ dst := some 33, op := Op.move (Operand.tmp 0), type := 25, pos := "maps.go:203", after := #[], guard := none })) (v := ?_) rfl (by kernel_rfl) (by kernel_rfl) (by kernel_rfl) (fun _ _ _ h => h) (Or.inl ⟨by rfl, ?_⟩) (by assumption) ?_
    rotate_left 1
    · (intro w9 hSw; (try dsimp only at hSw); go_simp; try with_reducible rfl)
    try simp only [Act.put, List.setIfInBounds_toArray, List.set_cons_zero, List.set_cons_succ]
    refine wpAnyH_take (i := 1) (oi := ({ dst := some 34, op := Op.nilCheck (Operand.tmp 33), type := 0, pos := "maps.go:203", after := #[{ on := 0, ground := Ground.data }], guard := none })) (v := ?_) rfl (by kernel_rfl) (by kernel_rfl) (by kernel_rfl) (fun _ _ _ h => h) (Or.inl ⟨by rfl, ?_⟩) (by assumption) ?_
    rotate_left 1
    · (intro w9 hSw; (try dsimp only at hSw); go_simp; try with_reducible rfl)
    try simp only [Act.put, List.setIfInBounds_toArray, List.set_cons_zero, List.set_cons_succ]
    refine wpAnyH_take (i := 2) (oi := ({ dst := some 35, op := Op.fieldAddr 57 (Operand.tmp 34) 0, type := 0, pos := "maps.go:203", after := #[{ on := 1, ground := Ground.data }], guard := none })) (v := ?_) rfl (by kernel_rfl) (by kernel_rfl) (by kernel_rfl) (fun _ _ _ h => h) (Or.inl ⟨by rfl, ?_⟩) (by assumption) ?_
    rotate_left 1
    · (intro w9 hSw; (try dsimp only at hSw); go_simp; try with_reducible rfl)
    try simp only [Act.put, List.setIfInBounds_toArray, List.set_cons_zero, List.set_cons_succ]
    refine wpAnyH_take (i := 3) (oi := ({ dst := some 36, op := Op.load 55 (Operand.tmp 35), type := 55, pos := "maps.go:203", after := #[{ on := 2, ground := Ground.data }], guard := none })) (v := ?_) rfl (by kernel_rfl) (by kernel_rfl) (by kernel_rfl) (fun _ _ _ h => h) (Or.inl ⟨by rfl, ?_⟩) (by assumption) ?_
    rotate_left 1
    · (intro w9 hSw; (try dsimp only at hSw); go_simp; try with_reducible rfl)
    try simp only [Act.put, List.setIfInBounds_toArray, List.set_cons_zero, List.set_cons_succ]
    refine wpAnyH_take (i := 4) (oi := ({ dst := some 37, op := Op.move (Operand.tmp 1), type := 9, pos := "maps.go:203", after := #[], guard := none })) (v := ?_) rfl (by kernel_rfl) (by kernel_rfl) (by kernel_rfl) (fun _ _ _ h => h) (Or.inl ⟨by rfl, ?_⟩) (by assumption) ?_
    rotate_left 1
    · (intro w9 hSw; (try dsimp only at hSw); go_simp; try with_reducible rfl)
    try simp only [Act.put, List.setIfInBounds_toArray, List.set_cons_zero, List.set_cons_succ]
    refine wpAnyH_take (i := 5) (oi := ({ dst := some 38, op := Op.fieldAddr 83 (Operand.tmp 5) 1, type := 0, pos := "maps.go:203", after := #[], guard := none })) (v := ?_) rfl (by kernel_rfl) (by kernel_rfl) (by kernel_rfl) (fun _ _ _ h => h) (Or.inl ⟨by rfl, ?_⟩) (by assumption) ?_
    rotate_left 1
    · (intro w9 hSw; (try dsimp only at hSw); go_simp; try with_reducible rfl)
    try simp only [Act.put, List.setIfInBounds_toArray, List.set_cons_zero, List.set_cons_succ]
    refine wpAnyH_take (i := 6) (oi := ({ dst := some 39, op := Op.load 38 (Operand.tmp 38), type := 38, pos := "maps.go:203", after := #[{ on := 5, ground := Ground.data }], guard := none })) (v := ?_) rfl (by kernel_rfl) (by kernel_rfl) (by kernel_rfl) (fun _ _ _ h => h) (Or.inl ⟨by rfl, ?_⟩) (by assumption) ?_
    rotate_left 1
    · (intro w9 hSw; (try dsimp only at hSw); go_simp; try with_reducible rfl)
    try simp only [Act.put, List.setIfInBounds_toArray, List.set_cons_zero, List.set_cons_succ]
    refine wpAnyH_ready (rs := [7]) (by kernel_rfl) (by simp) ?_
    refine AllReadyH.cons (o := ({ dst := none, op := Op.mapUpdate 55 (Operand.tmp 36) (Operand.tmp 37) (Operand.tmp 39), type := 0, pos := "maps.go:203", after := #[{ on := 3, ground := Ground.data }, { on := 4, ground := Ground.data }, { on := 6, ground := Ground.data }, { on := 0, ground := Ground.phase }, { on := 1, ground := Ground.phase }, { on := 2, ground := Ground.phase }, { on := 3, ground := Ground.phase }, { on := 4, ground := Ground.phase }, { on := 5, ground := Ground.phase }, { on := 6, ground := Ground.phase }], guard := none })) rfl (fun K hK => ?_) AllReadyH.nil
    refine step_of rfl (wp_put_mp (.tmp 36) (.tmp 37) (.tmp 39) rfl b S.L (by rcases HM5.out.recs with ⟨e, _⟩ | ⟨b', e, _, h2⟩ <;> first | (cases e; done) | (injection e with e; subst e; exact h2.keep (Keeps.refl (fun _ => False) _).drew (fun s => s))) g.r (by rw [HR.out]; exact hk) hL rfl (by rw [HR.out]; rfl) rfl ?_)
    intro W7 h7 k7
    refine hK.out _ _ (by obtain ⟨a8, a9, a10, a11, a12, a13, _⟩ := giv_cells (G5.out.drew.keep k7 (by have e1 := HB.out.2.2.2; have e2 := HG3.out.lt; omega)); exact ⟨(HM5.out.bk.drew.keep k7 (fun e => HB.out.2.2.1 e.symm)).at_ 0 _ rfl, a8, a9, a10, a11, a12, a13⟩) (fun hHeld => ?_)
    clear hK K
    try simp only [Act.put]
    refine wpAnyH_done (by kernel_rfl) ?_ _
    go_wp2_with fail
    go_end0
    refine ⟨rfl, some b, ?_, ?_, .inr ⟨b, rfl, ?_⟩⟩
    · unfold mtake
      rw [his]
      exact ⟨HM5.out.bk.drew.keep k7 (fun e => HB.out.2.2.1 e.symm), .inr ⟨b, rfl, HB.out.2.2.1, h7⟩⟩
    · have e1 := ((Keeps.of_new (S := MpB m none) HF.out).trans HK.out (fun i _ e => .inl e)).new HB.out.1
      have e2 := (e1.trans HB.out.2.1 (fun i _ e => .inl e)).drew
      refine e2.trans k7 (fun i hi e => ?_)
      subst e
      have := HB.out.2.2.2
      have := HK.out.size
      have := HF.out.size
      omega
    · have := HB.out.2.2.2
      have := HK.out.size
      have := HF.out.size
      omega
  | some b =>
    obtain ⟨hbm, hmq⟩ : b ≠ m ∧ Mq w b S.L := by
      rcases H.out.recs with ⟨e, _⟩ | ⟨b', e, h1, h2⟩
      · cases e
      · injection e with e; subst e; exact ⟨h1, h2⟩
    have HBM := Lib.hid hbm
    clear hbm hmq
    go_enter Tryd.func39, Tryd.ntmps39
    go_wp2_with ((with_reducible refine at_wp ?_); refine wpList_box_bk rfl 83 (.tmp 2) rfl (givC g) rfl ?_; intro W1 q1 h1)
    have hd : Below W1.heap.size W1 W1.drew := (Below.refl _ _).drew
    have HM := Lib.hid (H.out.new (fr_new h1.below hd))
    have hne : m ≠ q1 := by have e1 := H.out.bk.lt; have e2 := h1.eq; omega
    have H1 := Lib.hid (h1.bk.new hd)
    have HF := Lib.hid (fr_new h1.below hd)
    have HN := Lib.hid hne
    refine wp_region_held_drew (S := fun X => X.cell? ⟨q1, 16, none⟩ = some (.int .u64 g.e) ∧ X.cell? ⟨q1, 17, none⟩ = some (.int .u64 g.i)) (by kernel_rfl) (⟨H1.out.at_ 16 _ rfl, H1.out.at_ 17 _ rfl⟩) (fun hHeld => ?_)
    refine wpAnyH_take (i := 0) (oi := ({ dst := some 6, op := Op.move (Operand.tmp 0), type := 25, pos := "maps.go:195", after := #[], guard := none })) (v := ?_) rfl (by kernel_rfl) (by kernel_rfl) (by kernel_rfl) (fun _ _ _ h => h) (Or.inl ⟨by rfl, ?_⟩) (by assumption) ?_
    rotate_left 1
    · (intro w9 hSw; (try dsimp only at hSw); go_simp; try with_reducible rfl)
    try simp only [Act.put, List.setIfInBounds_toArray, List.set_cons_zero, List.set_cons_succ]
    refine wpAnyH_take (i := 1) (oi := ({ dst := some 7, op := Op.move (Operand.tmp 0), type := 25, pos := "maps.go:195", after := #[{ on := 8, ground := Ground.gcOnly Departure.lateStores }], guard := none })) (v := ?_) rfl (by kernel_rfl) (by kernel_rfl) (by kernel_rfl) (fun _ _ _ h => h) (Or.inl ⟨by rfl, ?_⟩) (by assumption) ?_
    rotate_left 1
    · (intro w9 hSw; (try dsimp only at hSw); go_simp; try with_reducible rfl)
    try simp only [Act.put, List.setIfInBounds_toArray, List.set_cons_zero, List.set_cons_succ]
    refine wpAnyH_take (i := 2) (oi := ({ dst := some 8, op := Op.fieldAddr 83 (Operand.tmp 5) 4, type := 0, pos := "maps.go:195", after := #[], guard := none })) (v := ?_) rfl (by kernel_rfl) (by kernel_rfl) (by kernel_rfl) (fun _ _ _ h => h) (Or.inl ⟨by rfl, ?_⟩) (by assumption) ?_
    rotate_left 1
    · (intro w9 hSw; (try dsimp only at hSw); go_simp; try with_reducible rfl)
    try simp only [Act.put, List.setIfInBounds_toArray, List.set_cons_zero, List.set_cons_succ]
    refine wpAnyH_take (i := 3) (oi := ({ dst := some 9, op := Op.load 29 (Operand.tmp 8), type := 29, pos := "maps.go:195", after := #[{ on := 2, ground := Ground.data }], guard := none })) (v := ?_) rfl (by kernel_rfl) (by kernel_rfl) (by kernel_rfl) (fun _ _ _ h => h) (Or.inl ⟨by rfl, ?_⟩) (by assumption) ?_
    rotate_left 1
    · (intro w9 hSw; (try dsimp only at hSw); go_simp; try with_reducible rfl)
    try simp only [Act.put, List.setIfInBounds_toArray, List.set_cons_zero, List.set_cons_succ]
    refine wpAnyH_take (i := 4) (oi := ({ dst := some 10, op := Op.fieldAddr 83 (Operand.tmp 5) 5, type := 0, pos := "maps.go:195", after := #[{ on := 8, ground := Ground.gcOnly Departure.lateStores }], guard := none })) (v := ?_) rfl (by kernel_rfl) (by kernel_rfl) (by kernel_rfl) (fun _ _ _ h => h) (Or.inl ⟨by rfl, ?_⟩) (by assumption) ?_
    rotate_left 1
    · (intro w9 hSw; (try dsimp only at hSw); go_simp; try with_reducible rfl)
    try simp only [Act.put, List.setIfInBounds_toArray, List.set_cons_zero, List.set_cons_succ]
    refine wpAnyH_take (i := 5) (oi := ({ dst := some 11, op := Op.load 29 (Operand.tmp 10), type := 29, pos := "maps.go:195", after := #[{ on := 4, ground := Ground.data }, { on := 8, ground := Ground.gcOnly Departure.lateStores }], guard := none })) (v := ?_) rfl (by kernel_rfl) (by kernel_rfl) (by kernel_rfl) (fun _ _ _ h => h) (Or.inl ⟨by rfl, ?_⟩) (by assumption) ?_
    rotate_left 1
    · (intro w9 hSw; (try dsimp only at hSw); go_simp; try with_reducible rfl)
    try simp only [Act.put, List.setIfInBounds_toArray, List.set_cons_zero, List.set_cons_succ]
    refine wpAnyH_take (i := 6) (oi := ({ dst := some 12, op := Op.nilCheck (Operand.tmp 6), type := 0, pos := "maps.go:195", after := #[{ on := 0, ground := Ground.data }, { on := 0, ground := Ground.phase }, { on := 1, ground := Ground.textOnly Departure.lateStores }, { on := 2, ground := Ground.phase }, { on := 3, ground := Ground.phase }, { on := 4, ground := Ground.textOnly Departure.lateStores }, { on := 5, ground := Ground.textOnly Departure.lateStores }], guard := none })) (v := ?_) rfl (by kernel_rfl) (by kernel_rfl) (by kernel_rfl) (fun _ _ _ h => h) (Or.inl ⟨by rfl, ?_⟩) (by assumption) ?_
    rotate_left 1
    · (intro w9 hSw; (try dsimp only at hSw); go_simp; try with_reducible rfl)
    try simp only [Act.put, List.setIfInBounds_toArray, List.set_cons_zero, List.set_cons_succ]
    refine wpAnyH_take (i := 7) (oi := ({ dst := some 13, op := Op.fieldAddr 57 (Operand.tmp 12) 1, type := 0, pos := "maps.go:195", after := #[{ on := 6, ground := Ground.data }, { on := 0, ground := Ground.phase }, { on := 1, ground := Ground.textOnly Departure.lateStores }, { on := 2, ground := Ground.phase }, { on := 3, ground := Ground.phase }, { on := 4, ground := Ground.textOnly Departure.lateStores }, { on := 5, ground := Ground.textOnly Departure.lateStores }], guard := none })) (v := ?_) rfl (by kernel_rfl) (by kernel_rfl) (by kernel_rfl) (fun _ _ _ h => h) (Or.inl ⟨by rfl, ?_⟩) (by assumption) ?_
    rotate_left 1
    · (intro w9 hSw; (try dsimp only at hSw); go_simp; try with_reducible rfl)
    try simp only [Act.put, List.setIfInBounds_toArray, List.set_cons_zero, List.set_cons_succ]
    refine wpAnyH_ready (rs := [8]) (by kernel_rfl) (by simp) ?_
    refine AllReadyH.cons (o := ({ dst := none, op := Op.store 29 (Operand.tmp 13) (Operand.tmp 9), type := 0, pos := "maps.go:195", after := #[{ on := 7, ground := Ground.data }, { on := 3, ground := Ground.data }, { on := 0, ground := Ground.phase }, { on := 1, ground := Ground.textOnly Departure.lateStores }, { on := 2, ground := Ground.phase }, { on := 3, ground := Ground.phase }, { on := 4, ground := Ground.textOnly Departure.lateStores }, { on := 5, ground := Ground.textOnly Departure.lateStores }], guard := none })) rfl (fun K hK => ?_) AllReadyH.nil
    refine step_set_bk rfl 29 (.tmp 13) (.tmp 9) rfl m 1 (mapC (some b) S) (.int .u64 g.e) (mapC (some b) ⟨S.L, g.e, S.i⟩) HM.out.bk (by show 1 < 3; decide) rfl (by kernel_rfl) rfl rfl rfl ?_
    intro W2 h2 k2
    have G2 := H1.out.keep k2 (fun e => hne e.symm)
    refine hK.out _ _ (⟨G2.at_ 16 _ rfl, G2.at_ 17 _ rfl⟩) (fun hHeld => ?_)
    clear hK K
    try simp only [Act.put]
    refine wpAnyH_take (i := 9) (oi := ({ dst := some 14, op := Op.nilCheck (Operand.tmp 7), type := 0, pos := "maps.go:195", after := #[{ on := 1, ground := Ground.data }, { on := 0, ground := Ground.phase }, { on := 1, ground := Ground.phase }, { on := 2, ground := Ground.phase }, { on := 3, ground := Ground.phase }, { on := 4, ground := Ground.phase }, { on := 5, ground := Ground.phase }, { on := 6, ground := Ground.phase }, { on := 7, ground := Ground.phase }, { on := 8, ground := Ground.phase }], guard := none })) (v := ?_) rfl (by kernel_rfl) (by kernel_rfl) (by kernel_rfl) (fun _ _ _ h => h) (Or.inl ⟨by rfl, ?_⟩) (by assumption) ?_
    rotate_left 1
    · (intro w9 hSw; (try dsimp only at hSw); go_simp; try with_reducible rfl)
    try simp only [Act.put, List.setIfInBounds_toArray, List.set_cons_zero, List.set_cons_succ]
    refine wpAnyH_take (i := 10) (oi := ({ dst := some 15, op := Op.fieldAddr 57 (Operand.tmp 14) 2, type := 0, pos := "maps.go:195", after := #[{ on := 9, ground := Ground.data }, { on := 0, ground := Ground.phase }, { on := 1, ground := Ground.phase }, { on := 2, ground := Ground.phase }, { on := 3, ground := Ground.phase }, { on := 4, ground := Ground.phase }, { on := 5, ground := Ground.phase }, { on := 6, ground := Ground.phase }, { on := 7, ground := Ground.phase }, { on := 8, ground := Ground.phase }], guard := none })) (v := ?_) rfl (by kernel_rfl) (by kernel_rfl) (by kernel_rfl) (fun _ _ _ h => h) (Or.inl ⟨by rfl, ?_⟩) (by assumption) ?_
    rotate_left 1
    · (intro w9 hSw; (try dsimp only at hSw); go_simp; try with_reducible rfl)
    try simp only [Act.put, List.setIfInBounds_toArray, List.set_cons_zero, List.set_cons_succ]
    refine wpAnyH_ready (rs := [11]) (by kernel_rfl) (by simp) ?_
    refine AllReadyH.cons (o := ({ dst := none, op := Op.store 29 (Operand.tmp 15) (Operand.tmp 11), type := 0, pos := "maps.go:195", after := #[{ on := 10, ground := Ground.data }, { on := 5, ground := Ground.data }, { on := 8, ground := Ground.chain }, { on := 0, ground := Ground.phase }, { on := 1, ground := Ground.phase }, { on := 2, ground := Ground.phase }, { on := 3, ground := Ground.phase }, { on := 4, ground := Ground.phase }, { on := 5, ground := Ground.phase }, { on := 6, ground := Ground.phase }, { on := 7, ground := Ground.phase }, { on := 8, ground := Ground.phase }], guard := none })) rfl (fun K hK => ?_) AllReadyH.nil
    refine step_set_bk rfl 29 (.tmp 15) (.tmp 11) rfl m 2 (mapC (some b) ⟨S.L, g.e, S.i⟩) (.int .u64 g.i) (mapC (some b) ⟨S.L, g.e, g.i⟩) h2 (by show 2 < 3; decide) rfl (by kernel_rfl) rfl rfl rfl ?_
    intro W3 h3 k3
    have G3 := G2.keep k3 (fun e => hne e.symm)
    refine hK.out _ _ (⟨G3.at_ 16 _ rfl, G3.at_ 17 _ rfl⟩) (fun hHeld => ?_)
    clear hK K
    try simp only [Act.put]
    refine wpAnyH_done (by kernel_rfl) ?_ _
    have HK := Lib.hid (k2.trans k3 (fun _ _ s => s))
    have HM3 := Lib.hid (HM.out.cells (S' := ⟨S.L, g.e, g.i⟩) h3 HK.out rfl)
    have y14 := G3.at_ 14 _ rfl
    rw [his] at y14
    have z0 := h3.at_ 0 _ rfl
    have HG3 := Lib.hid G3
    clear h2 h3 k2 k3 G2 G3 hHeld hne
    have hq : ∀ W, (binOp .eql 55 (.map (some b)) (.map none)).run Tryd.prog W = .ok (.bool false) W := fun W => by kernel_rfl
    go_wp2_with fail
    have HM5 := HM3
    have G5 := HG3
    clear hq z0
    refine wp_region_held_drew (S := fun X => X.cell? ⟨m, 0, none⟩ = some (.map (some b)) ∧ X.cell? ⟨q1, 8, none⟩ = some (.string g.r.k) ∧ X.cell? ⟨q1, 9, none⟩ = some (.string g.r.v) ∧ X.cell? ⟨q1, 10, none⟩ = some (.int .u32 g.r.fl) ∧ X.cell? ⟨q1, 11, none⟩ = some (.int .u64 g.r.id) ∧ X.cell? ⟨q1, 12, none⟩ = some (.int .i64 g.r.dies) ∧ X.cell? ⟨q1, 13, none⟩ = some (.int .i64 g.r.gen)) (by kernel_rfl) (by obtain ⟨a8, a9, a10, a11, a12, a13, _⟩ := giv_cells G5.out.drew; exact ⟨HM5.out.bk.drew.at_ 0 _ rfl, a8, a9, a10, a11, a12, a13⟩) (fun hHeld => ?_)
    refine wpAnyH_take (i := 0) (oi := ({ dst := some 33, op := Op.move (Operand.tmp 0), type := 25, pos := "maps.go:203", after := #[], guard := none })) (v := ?_) rfl (by kernel_rfl) (by kernel_rfl) (by kernel_rfl) (fun _ _ _ h => h) (Or.inl ⟨by rfl, ?_⟩) (by assumption) ?_
    rotate_left 1
    · (intro w9 hSw; (try dsimp only at hSw); go_simp; try with_reducible rfl)
    try simp only [Act.put, List.setIfInBounds_toArray, List.set_cons_zero, List.set_cons_succ]
    refine wpAnyH_take (i := 1) (oi := ({ dst := some 34, op := Op.nilCheck (Operand.tmp 33), type := 0, pos := "maps.go:203", after := #[{ on := 0, ground := Ground.data }], guard := none })) (v := ?_) rfl (by kernel_rfl) (by kernel_rfl) (by kernel_rfl) (fun _ _ _ h => h) (Or.inl ⟨by rfl, ?_⟩) (by assumption) ?_
    rotate_left 1
    · (intro w9 hSw; (try dsimp only at hSw); go_simp; try with_reducible rfl)
    try simp only [Act.put, List.setIfInBounds_toArray, List.set_cons_zero, List.set_cons_succ]
    refine wpAnyH_take (i := 2) (oi := ({ dst := some 35, op := Op.fieldAddr 57 (Operand.tmp 34) 0, type := 0, pos := "maps.go:203", after := #[{ on := 1, ground := Ground.data }], guard := none })) (v := ?_) rfl (by kernel_rfl) (by kernel_rfl) (by kernel_rfl) (fun _ _ _ h => h) (Or.inl ⟨by rfl, ?_⟩) (by assumption) ?_
    rotate_left 1
    · (intro w9 hSw; (try dsimp only at hSw); go_simp; try with_reducible rfl)
    try simp only [Act.put, List.setIfInBounds_toArray, List.set_cons_zero, List.set_cons_succ]
    refine wpAnyH_take (i := 3) (oi := ({ dst := some 36, op := Op.load 55 (Operand.tmp 35), type := 55, pos := "maps.go:203", after := #[{ on := 2, ground := Ground.data }], guard := none })) (v := ?_) rfl (by kernel_rfl) (by kernel_rfl) (by kernel_rfl) (fun _ _ _ h => h) (Or.inl ⟨by rfl, ?_⟩) (by assumption) ?_
    rotate_left 1
    · (intro w9 hSw; (try dsimp only at hSw); go_simp; try with_reducible rfl)
    try simp only [Act.put, List.setIfInBounds_toArray, List.set_cons_zero, List.set_cons_succ]
    refine wpAnyH_take (i := 4) (oi := ({ dst := some 37, op := Op.move (Operand.tmp 1), type := 9, pos := "maps.go:203", after := #[], guard := none })) (v := ?_) rfl (by kernel_rfl) (by kernel_rfl) (by kernel_rfl) (fun _ _ _ h => h) (Or.inl ⟨by rfl, ?_⟩) (by assumption) ?_
    rotate_left 1
    · (intro w9 hSw; (try dsimp only at hSw); go_simp; try with_reducible rfl)
    try simp only [Act.put, List.setIfInBounds_toArray, List.set_cons_zero, List.set_cons_succ]
    refine wpAnyH_take (i := 5) (oi := ({ dst := some 38, op := Op.fieldAddr 83 (Operand.tmp 5) 1, type := 0, pos := "maps.go:203", after := #[], guard := none })) (v := ?_) rfl (by kernel_rfl) (by kernel_rfl) (by kernel_rfl) (fun _ _ _ h => h) (Or.inl ⟨by rfl, ?_⟩) (by assumption) ?_
    rotate_left 1
    · (intro w9 hSw; (try dsimp only at hSw); go_simp; try with_reducible rfl)
    try simp only [Act.put, List.setIfInBounds_toArray, List.set_cons_zero, List.set_cons_succ]
    refine wpAnyH_take (i := 6) (oi := ({ dst := some 39, op := Op.load 38 (Operand.tmp 38), type := 38, pos := "maps.go:203", after := #[{ on := 5, ground := Ground.data }], guard := none })) (v := ?_) rfl (by kernel_rfl) (by kernel_rfl) (by kernel_rfl) (fun _ _ _ h => h) (Or.inl ⟨by rfl, ?_⟩) (by assumption) ?_
    rotate_left 1
    · (intro w9 hSw; (try dsimp only at hSw); go_simp; try with_reducible rfl)
    try simp only [Act.put, List.setIfInBounds_toArray, List.set_cons_zero, List.set_cons_succ]
    refine wpAnyH_ready (rs := [7]) (by kernel_rfl) (by simp) ?_
    refine AllReadyH.cons (o := ({ dst := none, op := Op.mapUpdate 55 (Operand.tmp 36) (Operand.tmp 37) (Operand.tmp 39), type := 0, pos := "maps.go:203", after := #[{ on := 3, ground := Ground.data }, { on := 4, ground := Ground.data }, { on := 6, ground := Ground.data }, { on := 0, ground := Ground.phase }, { on := 1, ground := Ground.phase }, { on := 2, ground := Ground.phase }, { on := 3, ground := Ground.phase }, { on := 4, ground := Ground.phase }, { on := 5, ground := Ground.phase }, { on := 6, ground := Ground.phase }], guard := none })) rfl (fun K hK => ?_) AllReadyH.nil
    refine step_of rfl (wp_put_mp (.tmp 36) (.tmp 37) (.tmp 39) rfl b S.L (by rcases HM5.out.recs with ⟨e, _⟩ | ⟨b', e, _, h2⟩ <;> first | (cases e; done) | (injection e with e; subst e; exact h2.keep (Keeps.refl (fun _ => False) _).drew (fun s => s))) g.r (by rw [HR.out]; exact hk) hL rfl (by rw [HR.out]; rfl) rfl ?_)
    intro W7 h7 k7
    refine hK.out _ _ (by obtain ⟨a8, a9, a10, a11, a12, a13, _⟩ := giv_cells (G5.out.drew.keep k7 (by have e1 := h1.eq; have e2 : b < w.heap.size := H.out.lts b (.inr rfl); omega)); exact ⟨(HM5.out.bk.drew.keep k7 (fun e => HBM.out e.symm)).at_ 0 _ rfl, a8, a9, a10, a11, a12, a13⟩) (fun hHeld => ?_)
    clear hK K
    try simp only [Act.put]
    refine wpAnyH_done (by kernel_rfl) ?_ _
    go_wp2_with fail
    go_end0
    refine ⟨rfl, some b, ?_, ?_, .inl rfl⟩
    · unfold mtake
      rw [his]
      exact ⟨HM5.out.bk.drew.keep k7 (fun e => HBM.out e.symm), .inr ⟨b, rfl, HBM.out, h7⟩⟩
    · exact (((Keeps.of_new (S := MpB m (some b)) HF.out).trans HK.out (fun i _ e => .inl e)).drew).trans k7 (fun i _ e => .inr (by rw [e]))
end Go.Proofs.YtmjklkcjinfmaaaDoor
