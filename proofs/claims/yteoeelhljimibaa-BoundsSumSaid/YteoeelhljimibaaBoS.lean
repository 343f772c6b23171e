/- Bounds: two configs in blocks, beside a list of calls. -/
import Derived.Test.YteoeelhljimibaaBo9
import Derived.Test.YteoeelhljimibaaByO
namespace Go.Proofs.Yteoeelhljimibaa
open Go.RowKit Go.Maps Go.Shelf
set_option linter.unusedVariables false

def cfgC (b u t q y : Int) : List Value := [.int .i64 b, .int .i64 u, .int .i64 t, .int .i64 q, .int .i64 y]
theorem cb_cfg {W : World} {p : Nat} {b u t q y : Int} (h : Cb W p (cfgC b u t q y)) : Cfg W p b u t q y := ⟨⟨h.at_ 0 _ rfl, h.at_ 1 _ rfl, h.at_ 2 _ rfl, h.at_ 3 _ rfl, h.at_ 4 _ rfl⟩, h.lt⟩
/-- Two configs in blocks. -/
structure Cfs (w W : World) (p p' : Nat) (b u t q y u' t' q' y' : Int) : Prop where
  one : Cfg W p b u t q y
  two : Cb W p' (cfgC b u' t' q' y')
  base : Below w.heap.size w W
  ne : p < p'
  lo : w.heap.size ≤ p
theorem Cfs.on {w W W' : World} {p p' : Nat} {b u t q y u' t' q' y' : Int} (h : Cfs w W p p' b u t q y u' t' q' y') (hb : Below W.heap.size W W') : Cfs w W' p p' b u t q y u' t' q' y' :=
  ⟨h.one.on hb, h.two.new hb, h.base.trans (hb.mono h.base.size), h.ne, h.lo⟩
theorem Cfs.set {w W : World} {p p' : Nat} {b u t q y u' t' q' y' u'' t'' q'' y'' : Int} (h : Cfs w W p p' b u t q y u' t' q' y') (k : Nat) (v : Value) (hk : k < 5) (he : cfgC b u'' t'' q'' y'' = (cfgC b u' t' q' y').set k v) : Cfs w (W.setCell ⟨p', k, none⟩ v) p p' b u t q y u'' t'' q'' y'' := by
  have hne := h.ne
  have hlo := h.lo
  have ks : Keeps (fun j => j = p') W (W.setCell ⟨p', k, none⟩ v) := Keeps.setCell (S := fun j => j = p') (Keeps.refl _ _) (p := ⟨p', k, none⟩) (.inl rfl) _
  obtain ⟨⟨f0, f1, f2, f3, f4⟩, hl⟩ := h.one
  refine ⟨⟨⟨?_, ?_, ?_, ?_, ?_⟩, Nat.lt_of_lt_of_le hl ks.size⟩, h.two.set k v hk he, h.base.setCell (by show w.heap.size ≤ p'; omega) _, hne, hlo⟩
  · exact ks.cell (p := ⟨p, 0, none⟩) (by show ¬ p = p'; omega) f0
  · exact ks.cell (p := ⟨p, 1, none⟩) (by show ¬ p = p'; omega) f1
  · exact ks.cell (p := ⟨p, 2, none⟩) (by show ¬ p = p'; omega) f2
  · exact ks.cell (p := ⟨p, 3, none⟩) (by show ¬ p = p'; omega) f3
  · exact ks.cell (p := ⟨p, 4, none⟩) (by show ¬ p = p'; omega) f4
theorem Cfs.ten {w W : World} {p p' : Nat} {b u t q y u' t' q' y' : Int} (h : Cfs w W p p' b u t q y u' t' q' y') : W.cell? ⟨p, 0, none⟩ = some (.int .i64 b) ∧ W.cell? ⟨p, 1, none⟩ = some (.int .i64 u) ∧ W.cell? ⟨p, 2, none⟩ = some (.int .i64 t) ∧ W.cell? ⟨p, 3, none⟩ = some (.int .i64 q) ∧ W.cell? ⟨p, 4, none⟩ = some (.int .i64 y) ∧ W.cell? ⟨p', 0, none⟩ = some (.int .i64 b) ∧ W.cell? ⟨p', 1, none⟩ = some (.int .i64 u') ∧ W.cell? ⟨p', 2, none⟩ = some (.int .i64 t') ∧ W.cell? ⟨p', 3, none⟩ = some (.int .i64 q') ∧ W.cell? ⟨p', 4, none⟩ = some (.int .i64 y') := by
  obtain ⟨⟨f0, f1, f2, f3, f4⟩, -⟩ := h.one
  obtain ⟨⟨e0, e1, e2, e3, e4⟩, -⟩ := cb_cfg h.two
  exact ⟨f0, f1, f2, f3, f4, e0, e1, e2, e3, e4⟩
theorem Cfs.drew {w W : World} {p p' : Nat} {b u t q y u' t' q' y' : Int} (h : Cfs w W p p' b u t q y u' t' q' y') : Cfs w W.drew p p' b u t q y u' t' q' y' := h.on (Below.refl _ _).drew
/-- .. beside a list of calls of the call's own. -/
structure Bms (w W : World) (p p' : Nat) (b u t q y u' t' q' y' : Int) (B : Nat) (v : Value) (L : List Cl) : Prop where
  cfs : Cfs w W p p' b u t q y u' t' q' y'
  row : W.ownsRow B 33 7 v L.length (rowsC L)
  size : B ≤ W.heap.size
  lo : w.heap.size ≤ B ∧ p < B ∧ p' < B
theorem Bms.on {w W W' : World} {p p' : Nat} {b u t q y u' t' q' y' : Int} {B : Nat} {v : Value} {L : List Cl} (h : Bms w W p p' b u t q y u' t' q' y' B v L) (hb : Below W.heap.size W W') : Bms w W' p p' b u t q y u' t' q' y' B v L :=
  ⟨h.cfs.on hb, Keeps.ownsRow h.row (Keeps.of_new (S := fun _ => False) hb) (fun _ _ s => s), Nat.le_trans h.size hb.size, h.lo⟩
theorem Bms.drew {w W : World} {p p' : Nat} {b u t q y u' t' q' y' : Int} {B : Nat} {v : Value} {L : List Cl} (h : Bms w W p p' b u t q y u' t' q' y' B v L) : Bms w W.drew p p' b u t q y u' t' q' y' B v L := h.on (Below.refl _ _).drew
theorem Bms.app {w W W' : World} {p p' : Nat} {b u t q y u' t' q' y' : Int} {B : Nat} {v v' : Value} {L : List Cl} {c : Cl} {o : Obj} (h : Bms w W p p' b u t q y u' t' q' y' B v L) (hown : W'.ownsRow B 33 7 v' (L.length + 1) (rowsC L ++ callC c)) (hg : (W.alloc o).grownBy W' v.ownBlock) : Bms w W' p p' b u t q y u' t' q' y' B v' (L ++ [c]) := by
  have hk : Keeps (fun j => v.ownBlock = some j) W W' := ((Keeps.refl _ W).alloc _).grown hg (fun k e => .inl e)
  have hB : Below B W W' := ((Below.refl B W).alloc h.size _).grown hg (by have := h.size; simp; omega) (fun j e => (h.row.lt j e).1)
  obtain ⟨l1, l2, l3⟩ := h.lo
  have hne : ∀ j, j < B → ¬ v.ownBlock = some j := fun j hj e => by have := (h.row.lt j e).1; omega
  obtain ⟨⟨f0, f1, f2, f3, f4⟩, hl⟩ := h.cfs.one
  refine ⟨⟨⟨⟨?_, ?_, ?_, ?_, ?_⟩, Nat.lt_of_lt_of_le hl hk.size⟩, h.cfs.two.keep hk (hne p' l3), h.cfs.base.trans (hB.mono l1), h.cfs.ne, h.cfs.lo⟩, ?_, Nat.le_trans h.size hk.size, h.lo⟩
  · exact hk.cell (p := ⟨p, 0, none⟩) (hne p l2) f0
  · exact hk.cell (p := ⟨p, 1, none⟩) (hne p l2) f1
  · exact hk.cell (p := ⟨p, 2, none⟩) (hne p l2) f2
  · exact hk.cell (p := ⟨p, 3, none⟩) (hne p l2) f3
  · exact hk.cell (p := ⟨p, 4, none⟩) (hne p l2) f4
  · rw [List.length_append, rowsC_app]
    show W'.ownsRow B 33 7 v' (L.length + 1) (rowsC L ++ (callC c ++ []))
    rw [List.append_nil]
    exact hown
/-- The calls that so many bytes are taken for. -/
def callsV (V : List UInt8) (k : Nat) : List Cl := (V.take k).map fun x => callV (verb11 (x.toNat : Int))
theorem callsV_succ {V : List UInt8} {k : Nat} {x : UInt8} (h : V[k]? = some x) : callsV V (k + 1) = callsV V k ++ [callV (verb11 (x.toNat : Int))] := by
  unfold callsV
  rw [List.take_add_one, h]
  simp
theorem callsV_len {V : List UInt8} {k : Nat} (h : k ≤ V.length) : (callsV V k).length = k := by simp [callsV]; omega
theorem callsV_verbs (V : List UInt8) (k : Nat) : ∀ x ∈ callsV V k, 1 ≤ (x.verb : Int) ∧ (x.verb : Int) ≤ 11 := by
  intro x hx
  obtain ⟨c, _, rfl⟩ := List.mem_map.mp hx
  have := verb11_bd (x := (c.toNat : Int)) (by omega)
  show 1 ≤ ((verb11 (c.toNat : Int) : Nat) : Int) ∧ _
  simp only [callV]
  omega
end Go.Proofs.Yteoeelhljimibaa
