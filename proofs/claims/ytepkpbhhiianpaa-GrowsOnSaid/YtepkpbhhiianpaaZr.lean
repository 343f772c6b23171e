/- Rows of noughts, new. -/
import Derived.Test.YtepkpbhhiianpaaChecked
import Derived.Handy
import Derived.Test.YtepkpbhhiianpaaOpen
import Derived.Test.YtepkpbhhiianpaaKeep
namespace Go.Proofs.Ytepkpbhhiianpaa
open Go.RowKit Go.Maps
set_option linter.unusedVariables false
theorem zrow {t : TypeId} {n : Nat} {v : Value} (h : (Try.prog.info? t).map (fun i => i.zero) = some (some (.agg (Array.replicate n v)))) (w : World) : (Instr.alloc t true (.tuple #[])).run Try.prog w = .ok (.pointer (some ⟨w.heap.size, 0, none⟩)) (w.alloc (.cells (Array.replicate n v) t)) := by
  obtain ⟨i, hi, hz⟩ := Option.map_eq_some_iff.1 h
  have e1 : (zeroValue t).run Try.prog w = .ok (.agg (Array.replicate n v)) w := by simp [zeroValue, typeInfo, hi, hz, Result.andThen]
  simp [Instr.alloc, e1, newVar, newRow, Value.cells, Result.andThen]
theorem zrow_at {W : World} {t : TypeId} {n T i : Nat} {v : Value} (hT : T = W.heap.size) (hi : i < n) : (W.alloc (.cells (Array.replicate n v) t)).cell? ⟨T, i, none⟩ = some v := by
  subst hT
  have hg : (W.alloc (.cells (Array.replicate n v) t)).heap[W.heap.size]? = some (.cells (Array.replicate n v) t) := (MapKept.heap_alloc W _).1
  unfold World.cell?
  rw [hg]
  simp [hi]
theorem zrow_fz {W : World} {t : TypeId} {n T i : Nat} {v : Value} (hT : T = W.heap.size) : (W.alloc (.cells (Array.replicate n v) t)).frozen? ⟨T, i, none⟩ = false := by subst hT; simp
/-- A row of whole numbers, each of its cells. -/
def Zr (X : World) (T n : Nat) (q : IntKind) (g : Nat → Int) : Prop := ∀ i, i < n → X.cell? ⟨T, i, none⟩ = some (.int q (g i)) ∧ X.frozen? ⟨T, i, none⟩ = false
theorem Zr.keep {X Y : World} {T n : Nat} {q : IntKind} {g : Nat → Int} {U : Nat → Prop} (h : Zr X T n q g) (hk : Keeps U X Y) (hT : ¬ U T) : Zr Y T n q g := fun i hi =>
  ⟨hk.cell (p := ⟨T, i, none⟩) hT (h i hi).1, hk.frozen (p := ⟨T, i, none⟩) hT (World.block_lt_of_cell? _ _ (h i hi).1) (h i hi).2⟩
def zput (g : Nat → Int) (i : Nat) (v : Int) (j : Nat) : Int := if j = i then v else g j
theorem Zr.put {X : World} {T n i : Nat} {q : IntKind} {g : Nat → Int} (h : Zr X T n q g) (hi : i < n) (v : Int) : Zr (X.setCell ⟨T, i, none⟩ (.int q v)) T n q (zput g i v) := fun j hj => by
  refine ⟨?_, by rw [World.frozen?_setCell]; exact (h j hj).2⟩
  unfold zput
  by_cases e : j = i
  · subst e
    rw [if_pos rfl]
    exact World.cell?_setCell_same _ _ _ (h j hj).1
  · rw [if_neg e]
    exact (World.cell?_setCell_other X ⟨T, i, none⟩ ⟨T, j, none⟩ _ (by intro e'; injection e' with _ e'; exact e e'.symm)).trans (h j hj).1
theorem Zr.first {W : World} {t : TypeId} {n T : Nat} {q : IntKind} (hT : T = W.heap.size) : Zr (W.alloc (.cells (Array.replicate n (.int q 0)) t)) T n q (fun _ => 0) := fun i hi => ⟨zrow_at hT hi, zrow_fz hT⟩
end Go.Proofs.Ytepkpbhhiianpaa
