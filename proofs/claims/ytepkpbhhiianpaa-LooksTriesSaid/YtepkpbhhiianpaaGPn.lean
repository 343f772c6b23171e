/- The chapter's worlds: May, New. -/
import Derived.Test.YtepkpbhhiianpaaPw
import Derived.Deep.RegionHeld3
namespace Go.Proofs.Ytepkpbhhiianpaa
open Go.RowKit Go.Maps
set_option linter.unusedVariables false
theorem five_alloc {w : World} {Q : Nat} {c0 c1 c2 c3 c4 : Value} (h : w.cell? ⟨Q, 0, none⟩ = some c0 ∧ w.cell? ⟨Q, 1, none⟩ = some c1 ∧ w.cell? ⟨Q, 2, none⟩ = some c2 ∧ w.cell? ⟨Q, 3, none⟩ = some c3 ∧ w.cell? ⟨Q, 4, none⟩ = some c4) (o : Obj) : (w.alloc o).cell? ⟨Q, 0, none⟩ = some c0 ∧ (w.alloc o).cell? ⟨Q, 1, none⟩ = some c1 ∧ (w.alloc o).cell? ⟨Q, 2, none⟩ = some c2 ∧ (w.alloc o).cell? ⟨Q, 3, none⟩ = some c3 ∧ (w.alloc o).cell? ⟨Q, 4, none⟩ = some c4 := by
  have hq : Q < w.heap.size := World.block_lt_of_cell? _ _ h.1
  obtain ⟨h0, h1, h2, h3, h4⟩ := h
  exact ⟨(World.cell?_alloc_lt w o ⟨Q, 0, none⟩ hq).trans h0, (World.cell?_alloc_lt w o ⟨Q, 1, none⟩ hq).trans h1, (World.cell?_alloc_lt w o ⟨Q, 2, none⟩ hq).trans h2, (World.cell?_alloc_lt w o ⟨Q, 3, none⟩ hq).trans h3, (World.cell?_alloc_lt w o ⟨Q, 4, none⟩ hq).trans h4⟩
/-- A block of two words. -/
structure Two (w : World) (q : Nat) (x y : Int) : Prop where
  c0 : w.cell? ⟨q, 0, none⟩ = some (.int .u64 x)
  c1 : w.cell? ⟨q, 1, none⟩ = some (.int .u64 y)
theorem two_new {W : World} {q : Nat} {x y : Int} {T : TypeId} (hq : q = W.heap.size) : Two (W.alloc (.cells #[.int .u64 x, .int .u64 y] T)) q x y := by
  subst hq
  exact ⟨by simp, by simp⟩
theorem two_alloc {W : World} {q : Nat} {x y : Int} {o : Obj} (h : Two W q x y) : Two (W.alloc o) q x y := by
  have hq := World.block_lt_of_cell? _ _ h.c0
  exact ⟨(World.cell?_alloc_lt W o ⟨q, 0, none⟩ hq).trans h.c0, (World.cell?_alloc_lt W o ⟨q, 1, none⟩ hq).trans h.c1⟩
theorem two_drew {W : World} {q : Nat} {x y : Int} (h : Two W q x y) : Two W.drew q x y := ⟨h.c0, h.c1⟩
/-- A block of one cell: nil. -/
structure Nil (w : World) (p : Nat) : Prop where
  c0 : w.cell? ⟨p, 0, none⟩ = some (.slice none 0 0)
  f0 : w.frozen? ⟨p, 0, none⟩ = false
theorem nil_new {W : World} {p : Nat} {T : TypeId} (hp : p = W.heap.size) : Nil (W.alloc (.cells #[.slice none 0 0] T)) p := by
  subst hp
  exact ⟨by simp, by simp⟩
theorem nil_alloc {W : World} {p : Nat} {o : Obj} (h : Nil W p) : Nil (W.alloc o) p := by
  have hp := World.block_lt_of_cell? _ _ h.c0
  exact ⟨(World.cell?_alloc_lt W o ⟨p, 0, none⟩ hp).trans h.c0, (((Keeps.refl (fun _ => False) W).alloc o).frozen (p := ⟨p, 0, none⟩) (fun s => s) hp) h.f0⟩
theorem nil_drew {W : World} {p : Nat} (h : Nil W p) : Nil W.drew p := ⟨h.c0, h.f0⟩
theorem nil_below {X W : World} {p : Nat} (K : Below X.heap.size X W) (h : Nil X p) : Nil W p := by
  have hp := World.block_lt_of_cell? _ _ h.c0
  exact ⟨(K.cell (p := ⟨p, 0, none⟩) hp).trans h.c0, (K.frozen (p := ⟨p, 0, none⟩) hp).trans h.f0⟩
theorem nil_ras {W : World} {p : Nat} (h : Nil W p) : Ras W p [] (fun k => k = p) :=
  ⟨_, h.c0, h.f0, World.ownsRow_nil _ _ _ _, fun g hg => by simp [Value.ownBlock] at hg, rfl, fun k e => by rw [e]; exact World.block_lt_of_cell? _ _ h.c0⟩
end Go.Proofs.Ytepkpbhhiianpaa
/- Next: The chapter's worlds: New of a config that may be, and of one that may not. -/
namespace Go.Proofs.Ytepkpbhhiianpaa
open Go.RowKit Go.Maps
set_option linter.unusedVariables false
theorem bs_alloc {a w : World} {o : Obj} (h : Below a.heap.size a w) : Below a.heap.size a (w.alloc o) := h.alloc h.size o
theorem bs_drew {a w : World} (h : Below a.heap.size a w) : Below a.heap.size a w.drew := h.drew
theorem rg_after {w W : World} {r : Nat} {L : List (Int × Int)} {cnt k a x y : Int} {T : Nat → Prop} (h : Rg w r L cnt k a x y T) (hb : Below w.heap.size w W) : Rg W r L cnt k a x y T := h.keep (S := fun _ => False) (Keeps.of_new hb) (fun _ _ s => s)
end Go.Proofs.Ytepkpbhhiianpaa
