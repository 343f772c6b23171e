/- The chapter's cells, of nothing: one access. -/
import Derived.Test.YtepkpbhhiianpaaChecked
import Derived.Test.YtepkpbhhiianpaaKeep
import Derived.Deep.RegionLaw
import Derived.Deep.AppendLies
import Derived.BigRegion
import Derived.Deep.RegionHeld
import Derived.LoopN
import Derived.LoopTactic
import Derived.IntWalk
namespace Go.Proofs.Ytepkpbhhiianpaa
open Go.RowKit
set_option linter.unusedVariables false

structure RcE (w : World) (r : Nat) (v : Value) : Prop where
  c0 : w.cell? ⟨r, 0, none⟩ = some v
  c1 : w.cell? ⟨r, 1, none⟩ = some (.int .i64 0)
  c2 : w.cell? ⟨r, 2, none⟩ = some (.int .u8 0)
  c3 : w.cell? ⟨r, 3, none⟩ = some (.int .u64 0)
  c4 : w.cell? ⟨r, 4, none⟩ = some (.int .u64 0)
  c5 : w.cell? ⟨r, 5, none⟩ = some (.int .u64 0)
  fz : ∀ o, o < 6 → w.frozen? ⟨r, o, none⟩ = false
theorem RcE.keep {w W : World} {r : Nat} {v : Value} {S : Nat → Prop} (h : RcE w r v) (hk : Keeps S w W) (hS : ¬ S r) : RcE W r v := by
  obtain ⟨h0, h1, h2, h3, h4, h5, hf⟩ := h
  have hr : r < w.heap.size := World.block_lt_of_cell? _ _ h0
  exact ⟨hk.cell (p := ⟨r, 0, none⟩) hS h0, hk.cell (p := ⟨r, 1, none⟩) hS h1, hk.cell (p := ⟨r, 2, none⟩) hS h2, hk.cell (p := ⟨r, 3, none⟩) hS h3, hk.cell (p := ⟨r, 4, none⟩) hS h4, hk.cell (p := ⟨r, 5, none⟩) hS h5, fun o ho => hk.frozen (p := ⟨r, o, none⟩) hS hr (hf o ho)⟩
theorem rc_made (W : World) (t : TypeId) : RcE (W.alloc (.cells #[.slice none 0 0, .int .i64 0, .int .u8 0, .int .u64 0, .int .u64 0, .int .u64 0] t)) W.heap.size (.slice none 0 0) :=
  ⟨by simp, by simp, by simp, by simp, by simp, by simp, fun o ho => by simp⟩
theorem RcE.store {w : World} {r : Nat} {v u : Value} (h : RcE w r v) : RcE (w.setCell ⟨r, 0, none⟩ u) r u ∧ Keeps (fun k => k = r) w (w.setCell ⟨r, 0, none⟩ u) := by
  obtain ⟨h0, h1, h2, h3, h4, h5, hf⟩ := h
  have o := fun (j : Nat) (hj : j ≠ 0) (x : Value) (hx : w.cell? ⟨r, j, none⟩ = some x) => (World.cell?_setCell_other w ⟨r, 0, none⟩ ⟨r, j, none⟩ u (by intro e; injection e with _ e; exact hj e.symm)).trans hx
  exact ⟨⟨World.cell?_setCell_same _ _ _ h0, o 1 (by decide) _ h1, o 2 (by decide) _ h2, o 3 (by decide) _ h3, o 4 (by decide) _ h4, o 5 (by decide) _ h5, fun j hj => by rw [World.frozen?_setCell]; exact hf j hj⟩, Keeps.setCell (S := fun k => k = r) (Keeps.refl _ w) (p := ⟨r, 0, none⟩) (.inl rfl) u⟩
theorem undrew' {w w1 : World} {row : Option Nat} (h : w.drew.grownBy w1 row) : w.grownBy w1 row := ⟨h.os, h.tape, h.output, h.size, h.block⟩
theorem news2c {W : World} {x y : Int} {t : TypeId} {j : Nat} {u : Value} (hj : [Value.int .u64 x, Value.int .u64 y][j]? = some u) : (W.alloc (.cells #[.int .u64 x, .int .u64 y] t)).cell? ((⟨W.heap.size, 0, none⟩ : Addr).add j) = some u :=
  World.news_of_block (B := W.heap.size) (cs := #[.int .u64 x, .int .u64 y]) (t := t) (fr := (0, 0)) (by show (W.heap.push _)[W.heap.size]? = _; simp) j u hj
def RPut (w : World) (r : Nat) (w' : World) : Prop := (∃ u, RcE w' r u) ∧ Keeps (fun k => k = r) w w'
def AccP (w : World) (r : Nat) (w' : World) : Prop := Keeps (fun k => k = r) w w'
section
variable {w : World} {r : Nat}
end
end Go.Proofs.Ytepkpbhhiianpaa
