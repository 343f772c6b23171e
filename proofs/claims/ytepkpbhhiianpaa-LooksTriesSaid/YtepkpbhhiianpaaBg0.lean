/- Begin of nothing but a pair of worlds. -/
import Derived.Test.YtepkpbhhiianpaaPwM
import Derived.Deep.Cut
import Derived.Deep.CutBlock
namespace Go.Proofs.Ytepkpbhhiianpaa
open Go.RowKit Go.Maps
set_option linter.unusedVariables false
theorem setO {w : World} {q i j : Nat} {u v : Value} (h : i ≠ j) (hc : w.cell? ⟨q, j, none⟩ = some v) : (w.setCell ⟨q, i, none⟩ u).cell? ⟨q, j, none⟩ = some v :=
  (World.cell?_setCell_other w ⟨q, i, none⟩ ⟨q, j, none⟩ u (by intro e; injection e with _ e; exact h e)).trans hc
theorem new_at {W : World} {n i : Nat} {C : Array Value} {T : TypeId} {v : Value} (hn : n = W.heap.size) (h : C[i]? = some v) : (W.alloc (.cells C T)).cell? ⟨n, i, none⟩ = some v := by
  subst hn
  simpa using h
theorem new_fz {W : World} {n i : Nat} {C : Array Value} {T : TypeId} (hn : n = W.heap.size) : (W.alloc (.cells C T)).frozen? ⟨n, i, none⟩ = false := by
  subst hn
  simp
theorem old_fz {W : World} {n i : Nat} {o : Obj} (h : W.frozen? ⟨n, i, none⟩ = false) (hn : n < W.heap.size) : (W.alloc o).frozen? ⟨n, i, none⟩ = false :=
  ((Keeps.refl (fun _ => False) W).alloc o).frozen (p := ⟨n, i, none⟩) (fun s => s) hn h
/-- What stays of Begin's own variables. -/
structure BgF (X : World) (F D : Nat) : Prop where
  f5 : X.cell? ⟨F, 5, none⟩ = some (.bool false)
  f6 : X.cell? ⟨F, 6, none⟩ = some (.slice none 0 0)
  f7 : X.cell? ⟨F, 7, none⟩ = some (.slice none 0 0)
  f8 : X.cell? ⟨F, 8, none⟩ = some (.slice none 0 0)
  f9 : X.cell? ⟨F, 9, none⟩ = some (.int .i64 0)
  d0 : X.cell? ⟨D, 0, none⟩ = some (.pointer none)
  d1 : X.cell? ⟨D, 1, none⟩ = some (.pointer none)
  z0 : X.frozen? ⟨D, 0, none⟩ = false
  z1 : X.frozen? ⟨D, 1, none⟩ = false
theorem BgF.keep {X Y : World} {F D : Nat} {U : Nat → Prop} (h : BgF X F D) (hk : Keeps U X Y) (hF : ¬ U F) (hD : ¬ U D) : BgF Y F D := by
  have hd := World.block_lt_of_cell? _ _ h.d0
  obtain ⟨f5, f6, f7, f8, f9, d0, d1, z0, z1⟩ := h
  exact ⟨hk.cell (p := ⟨F, 5, none⟩) hF f5, hk.cell (p := ⟨F, 6, none⟩) hF f6, hk.cell (p := ⟨F, 7, none⟩) hF f7, hk.cell (p := ⟨F, 8, none⟩) hF f8, hk.cell (p := ⟨F, 9, none⟩) hF f9, hk.cell (p := ⟨D, 0, none⟩) hD d0, hk.cell (p := ⟨D, 1, none⟩) hD d1, hk.frozen (p := ⟨D, 0, none⟩) hD hd z0, hk.frozen (p := ⟨D, 1, none⟩) hD hd z1⟩
theorem BgF.new {X Y : World} {F D : Nat} (h : BgF X F D) (hb : Below X.heap.size X Y) : BgF Y F D := h.keep (U := fun _ => False) (Keeps.of_new hb) (fun s => s) (fun s => s)
end Go.Proofs.Ytepkpbhhiianpaa
