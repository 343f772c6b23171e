/- Blocks that hold structs: stored whole, stored in part, read whole, told as a result. -/
import Derived.Test.YtmjklkcjinfmaaaDoorKeep
import Derived.Deep.MidRow
import Derived.Laws.ResultCell
namespace Go.Proofs.YtmjklkcjinfmaaaDoor
open Go.RowKit
set_option linter.unusedVariables false

/-- A block that has these cells, and may be written. -/
structure Bk (w : World) (q : Nat) (C : List Value) : Prop where
  at_ : ∀ i v, C[i]? = some v → w.cell? ⟨q, i, none⟩ = some v
  fz : ∀ i, i < C.length → w.frozen? ⟨q, i, none⟩ = false
  lt : q < w.heap.size
theorem Bk.keep {w W : World} {q : Nat} {C : List Value} {T : Nat → Prop} (h : Bk w q C) (hk : Keeps T w W) (hT : ¬ T q) : Bk W q C :=
  ⟨fun i v hv => hk.cell (p := ⟨q, i, none⟩) hT (h.at_ i v hv), fun i hi => hk.frozen (p := ⟨q, i, none⟩) hT h.lt (h.fz i hi), Nat.lt_of_lt_of_le h.lt hk.size⟩
theorem Bk.new {w W : World} {q : Nat} {C : List Value} (h : Bk w q C) (hb : Below w.heap.size w W) : Bk W q C := h.keep (T := fun _ => False) (Keeps.of_new hb) (fun s => s)
theorem Bk.alloc {w : World} {q : Nat} {C : List Value} (h : Bk w q C) (o : Obj) : Bk (w.alloc o) q C := h.new ((Below.refl _ _).alloc (Nat.le_refl _) _)
theorem Bk.drew {w : World} {q : Nat} {C : List Value} (h : Bk w q C) : Bk w.drew q C := h.new (Below.refl _ _).drew
theorem Bk.cells {w : World} {q : Nat} {C D : List Value} (h : Bk w q C) (e : C = D) : Bk w q D := e ▸ h
theorem bk_new {W : World} {C : Array Value} {T : TypeId} {L : List Value} (hL : L = C.toList) : Bk (W.alloc (.cells C T)) W.heap.size L := by
  subst hL
  exact ⟨fun i v hv => by simpa using hv, fun i hi => by simp, by simp⟩
theorem bk_frozen_setCells (b : Nat) (p : Addr) : ∀ (vs : List Value) (o : Nat) (w : World), (w.setCells b o vs).frozen? p = w.frozen? p
  | [], o, w => rfl
  | v :: vs, o, w => by
    show ((w.setCell ⟨b, o, none⟩ v).setCells b (o + 1) vs).frozen? p = _
    rw [bk_frozen_setCells b p vs (o + 1), World.frozen?_setCell]
theorem bk_keeps_setCells (b : Nat) : ∀ (vs : List Value) (o : Nat) (w : World), Keeps (fun k => k = b) w (w.setCells b o vs)
  | [], o, w => Keeps.refl _ _
  | v :: vs, o, w => by
    have h1 : Keeps (fun k => k = b) w (w.setCell ⟨b, o, none⟩ v) := Keeps.setCell (S := fun k => k = b) (Keeps.refl _ w) (p := ⟨b, o, none⟩) (.inl rfl) v
    exact h1.trans (bk_keeps_setCells b vs (o + 1) _) (fun _ _ s => s)
theorem Bk.range {w : World} {q : Nat} {C : List Value} (h : Bk w q C) (o : Nat) (vs : List Value) (hv : vs = (C.drop o).take vs.length) : w.rangeAt q o vs := fun j v hj => by
  refine h.at_ (o + j) v ?_
  have hl := (List.getElem?_eq_some_iff.1 hj).1
  rw [hv, List.getElem?_take_of_lt hl, List.getElem?_drop] at hj
  exact hj
theorem Bk.there {w : World} {q : Nat} {C : List Value} (h : Bk w q C) (o n : Nat) (hn : o + n ≤ C.length) : w.there q o n := fun j hj => by
  exact ⟨by rw [h.at_ (o + j) _ (List.getElem?_eq_getElem (by omega))]; rfl, h.fz (o + j) (by omega)⟩
theorem Bk.put {w : World} {q : Nat} {C : List Value} (h : Bk w q C) (o : Nat) (vs : List Value) (hn : o + vs.length ≤ C.length) {C' : List Value} (hC : C' = C.take o ++ (vs ++ C.drop (o + vs.length))) : Bk (w.setCells q o vs) q C' := by
  subst hC
  have hl : (C.take o).length = o := by rw [List.length_take]; omega
  refine ⟨fun j v hv => ?_, fun j hj => ?_, Nat.lt_of_lt_of_le h.lt (bk_keeps_setCells q vs o w).size⟩
  · by_cases h1 : j < o
    · rw [List.getElem?_append_left (by omega), List.getElem?_take_of_lt h1] at hv
      rw [World.cell?_setCells_out q vs o w ⟨q, j, none⟩ (fun _ _ => .inl h1)]
      exact h.at_ j v hv
    · rw [List.getElem?_append_right (by omega), hl] at hv
      by_cases h2 : j < o + vs.length
      · rw [List.getElem?_append_left (by omega)] at hv
        have := World.cell?_setCells_in q vs o w (fun i hi => (h.there o vs.length hn i hi).1) (j - o) (by omega)
        rw [show o + (j - o) = j by omega] at this
        rw [this, ← hv, List.getElem?_eq_getElem]
      · rw [List.getElem?_append_right (by omega), List.getElem?_drop] at hv
        rw [World.cell?_setCells_out q vs o w ⟨q, j, none⟩ (fun _ _ => .inr (by show o + vs.length ≤ j; omega))]
        refine h.at_ j v ?_
        rw [← hv]
        congr 1
        omega
  · rw [bk_frozen_setCells]
    refine h.fz j ?_
    rw [List.length_append, List.length_append, hl, List.length_drop] at hj
    omega
/-- A store of a struct into a block, from a place on. -/
theorem wpList_store_bk {P : Program} {ops : Array Oper} {rest : List Oper} {op : Oper} {a : Act} {w : World} {Q : Exit → Act → World → Prop} (hgd : op.guard = none) (ty : TypeId) (x y : Operand) (ho : op.op = .store ty x y)
    (q o : Nat) (C vs C' : List Value) (h : Bk w q C) (hn : o + vs.length ≤ C.length) (hC : C' = C.take o ++ (vs ++ C.drop (o + vs.length))) (hi : (P.info? ty).map (·.size) = some vs.length) (h1 : vs.toArray.all (·.oneCell') = true) (hx : a.eval x = .pointer (some ⟨q, o, none⟩)) (hy : a.eval y = .agg vs.toArray)
    (hK : ∀ W, Bk W q C' → Keeps (fun k => k = q) w W → wpList P ops Q rest (a.put op.dst undef) W) : wpList P ops Q (op :: rest) a w := by
  refine wpList_store_mid hgd ty x y ho q o vs.toArray hx hy ?_ ?_ h1 (hK _ ?_ ?_)
  · simpa using h.there o vs.length hn
  · simpa using hi
  · simpa using h.put o vs hn hC
  · exact bk_keeps_setCells q _ o w
/-- A struct's read, from a place on. -/
theorem wpList_load_bk {P : Program} {ops : Array Oper} {rest : List Oper} {op : Oper} {a : Act} {w : World} {Q : Exit → Act → World → Prop} (hgd : op.guard = none) (ty : TypeId) (x : Operand) (ho : op.op = .load ty x)
    (q o : Nat) (C vs : List Value) (h : Bk w q C) (hv : vs = (C.drop o).take vs.length) (d : TypeDesc) (hu : P.underlying ty = some d) (hd : d.isRow = true) (hi : (P.info? ty).map (·.size) = some vs.length) (hx : a.eval x = .pointer (some ⟨q, o, none⟩))
    (hK : wpList P ops Q rest (a.put op.dst (.agg vs.toArray)) w) : wpList P ops Q (op :: rest) a w :=
  wpList_load_mid hgd ty x ho q o hx vs d (h.range o vs hv) hu hd hi hK
/-- One cell stored. -/
theorem wpList_set_bk {P : Program} {ops : Array Oper} {rest : List Oper} {op : Oper} {a : Act} {w : World} {Q : Exit → Act → World → Prop} (hgd : op.guard = none) (ty : TypeId) (x y : Operand) (ho : op.op = .store ty x y)
    (q o : Nat) (C : List Value) (u : Value) (C' : List Value) (h : Bk w q C) (hn : o < C.length) (hC : C' = C.set o u) (hi : (P.info? ty).map (·.size) = some 1) (h1 : u.oneCell' = true) (hx : a.eval x = .pointer (some ⟨q, o, none⟩)) (hy : a.eval y = u)
    (hK : ∀ W, Bk W q C' → Keeps (fun k => k = q) w W → wpList P ops Q rest (a.put op.dst undef) W) : wpList P ops Q (op :: rest) a w := by
  refine wpList_plain hgd fun K hK' => ?_
  have hc : (Value.cells u).size = 1 := by cases u <;> first | rfl | (simp [Value.oneCell'] at h1)
  have hcu : Value.cells u = #[u] := by cases u <;> first | rfl | (simp [Value.oneCell'] at h1)
  have hr : (Instr.storeAt ty (.pointer (some ⟨q, o, none⟩)) u).run P w = .ok () (w.setCell ⟨q, o, none⟩ u) := by
    have h0 := h.there o 1 (by omega) 0 (by decide)
    rw [Nat.add_zero] at h0
    have hs := run_storeCells_cells (P := P) q o [u] 0 w (fun j hj => by
      have e : j = 0 := by simpa using hj
      subst e
      exact h0.1) (fun j hj => by
      have e : j = 0 := by simpa using hj
      subst e
      exact h0.2) (fun v hv => by simp at hv; subst hv; exact h1)
    cases hq : P.info? ty with
    | none => simp [hq] at hi
    | some i =>
      have hsz : i.size = 1 := by simpa [hq] using hi
      simp only [Nat.add_zero] at hs
      simp [Instr.storeAt, Instr.sureAddr, storeVar, sizeOf, typeInfo, hq, hcu, hsz, hs, World.setCells]
  unfold Oper.wp execOp
  simp only [ho, hx, hy, Sem.run_bind, Sem.run_pure, Result.andThen_ok, hr]
  refine hK' _ _ (hK _ ?_ ?_)
  · have := h.put o [u] (by show o + 1 ≤ C.length; omega) (C' := C') (by
      rw [hC]
      rw [List.set_eq_take_append_cons_drop, if_pos hn]
      rfl)
    exact this
  · exact Keeps.setCell (S := fun k => k = q) (Keeps.refl _ w) (p := ⟨q, o, none⟩) (.inl rfl) u
/-- A result in a block. -/
theorem results_bk {P : Program} {fn : Func} {p : Tmp} {ty : TypeId} (h : fn.results = #[.cell p ty]) (tmps : Array Value) {w : World} {g : Nat} {C : List Value} (hC : Bk w g C) (hp : tmps.getD p undef = .pointer (some ⟨g, 0, none⟩)) (d : TypeDesc)
    (hu : P.underlying ty = some d) (hd : d.isRow = true) (hi : (P.info? ty).map (·.size) = some C.length) : (results fn tmps).run P w = .ok (.agg C.toArray) w := by
  have hp' : tmps[p]?.getD undef = .pointer (some ⟨g, 0, none⟩) := by simpa using hp
  simp [results, h, hp', asAddr, run_loadVar_mid w g 0 ty C d (hC.range 0 C (by simp)) hu hd hi]
/-- A new block. -/
structure Nb (w W : World) (g : Nat) (C : List Value) : Prop where
  bk : Bk W g C
  eq : g = w.heap.size
  size : W.heap.size = g + 1
  below : Below w.heap.size w W
/-- One more world, in which new blocks alone turned. -/
theorem fr_set {w W W' : World} {q : Nat} (h : Below w.heap.size w W) (k : Keeps (fun k => k = q) W W') (hq : w.heap.size ≤ q) : Below w.heap.size w W' :=
  h.trans (k.to_below (fun k _ e => by subst e; exact hq) h.size)
theorem fr_new {w W W' : World} (h : Below w.heap.size w W) (k : Below W.heap.size W W') : Below w.heap.size w W' := h.trans (k.mono h.size)
theorem Nb.at {w0 w W : World} {g : Nat} {C : List Value} (h : Nb w W g C) (hb : Below w0.heap.size w0 w) : w0.heap.size ≤ g := by
  rw [h.eq]
  exact hb.size
/-- A new block that holds a struct. -/
theorem wpList_box_bk {P : Program} {ops : Array Oper} {rest : List Oper} {op : Oper} {a : Act} {w : World} {Q : Exit → Act → World → Prop} (hgd : op.guard = none) (ty : TypeId) (x : Operand) (ho : op.op = .box ty x) (C : List Value) (hx : a.eval x = .agg C.toArray)
    (hK : ∀ W g, Nb w W g C → wpList P ops Q rest (a.put op.dst (.pointer (some ⟨g, 0, none⟩))) W) : wpList P ops Q (op :: rest) a w := by
  refine wpList_plain hgd fun K hK' => ?_
  unfold Oper.wp execOp
  simp only [ho, hx, Sem.run_bind, Instr.box, newVar, newRow, run_newObj_alloc, Sem.run_pure, Result.andThen_ok, Value.cells]
  exact hK' _ _ (hK _ _ ⟨bk_new (by simp), rfl, by simp, (Below.refl _ _).alloc (Nat.le_refl _) _⟩)
/-- A new block that holds a zero struct. -/
theorem wpList_alloc_bk {P : Program} {ops : Array Oper} {rest : List Oper} {op : Oper} {a : Act} {w : World} {Q : Exit → Act → World → Prop} (hgd : op.guard = none) (ty : TypeId) (C : List Value) (hr : ∀ w : World, (Instr.alloc ty true (.tuple #[])).run P w = .ok (.pointer (some ⟨w.heap.size, 0, none⟩)) (w.alloc (.cells C.toArray ty))) (ho : op.op = .alloc ty)
    (hK : ∀ W g, Nb w W g C → wpList P ops Q rest (a.put op.dst (.pointer (some ⟨g, 0, none⟩))) W) : wpList P ops Q (op :: rest) a w := by
  refine wpList_plain hgd fun K hK' => ?_
  unfold Oper.wp execOp
  simp only [ho, Sem.run_bind, hr, Sem.run_pure, Result.andThen_ok]
  exact hK' _ _ (hK _ _ ⟨bk_new (by simp), rfl, by simp, (Below.refl _ _).alloc (Nat.le_refl _) _⟩)
/-- One cell read. -/
theorem wpList_cell_bk {P : Program} {ops : Array Oper} {rest : List Oper} {op : Oper} {a : Act} {w : World} {Q : Exit → Act → World → Prop} (hgd : op.guard = none) (ty : TypeId) (x : Operand) (ho : op.op = .load ty x) (q o : Nat) (C : List Value) (u : Value) (h : Bk w q C) (hu : C[o]? = some u)
    (hr : ∀ w : World, ∀ p v, w.cell? p = some v → (Instr.loadAt ty (.pointer (some p))).run P w = .ok v w) (hx : a.eval x = .pointer (some ⟨q, o, none⟩))
    (hK : wpList P ops Q rest (a.put op.dst u) w) : wpList P ops Q (op :: rest) a w := by
  refine wpList_plain hgd fun K hK' => ?_
  unfold Oper.wp execOp
  simp only [ho, hx, Sem.run_bind, hr w _ _ (h.at_ o u hu), Sem.run_pure, Result.andThen_ok]
  exact hK' _ _ hK
end Go.Proofs.YtmjklkcjinfmaaaDoor
