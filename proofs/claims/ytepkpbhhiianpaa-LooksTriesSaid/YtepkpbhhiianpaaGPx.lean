/- A pair of worlds: Other, the chapter's Peek and Grows. -/
import Derived.Test.YtepkpbhhiianpaaPw
import Derived.Test.YtepkpbhhiianpaaGPn
import Derived.Test.YtepkpbhhiianpaaGPl
import Derived.Deep.RegionHeld3
import Derived.Test.YtepkpbhhiianpaaEpRef
import Derived.Test.YtepkpbhhiianpaaRaT
namespace Go.Proofs.Ytepkpbhhiianpaa
open Go.RowKit Go.Maps
set_option linter.unusedVariables false
section
variable {w : World} {A R : Ad} {V : Wv} {S T : Nat → Prop}
end
end Go.Proofs.Ytepkpbhhiianpaa
/- Next: A pair of worlds: Store, by others. -/
namespace Go.Proofs.Ytepkpbhhiianpaa
open Go.RowKit Go.Maps
set_option linter.unusedVariables false
theorem at_new {W : World} {n i : Nat} {C : Array Value} {T : TypeId} {v : Value} (hn : n = W.heap.size) (h : C[i]? = some v) : (W.alloc (.cells C T)).cell? ⟨n, i, none⟩ = some v := by
  subst hn
  simpa using h
section
variable {w : World} {A R : Ad} {V : Wv} {S T : Nat → Prop}
end
end Go.Proofs.Ytepkpbhhiianpaa
/- Next: A pair of worlds: Item, by others. -/
namespace Go.Proofs.Ytepkpbhhiianpaa
open Go.RowKit Go.Maps
set_option linter.unusedVariables false
def Wv.item (V : Wv) (x : It) : Wv := { V with I := V.I ++ [x] }
section
variable {w w' : World} {A R : Ad} {V : Wv} {S T : Nat → Prop}
/-- A record more, in the program's world. -/
theorem WdAt.item {n : Nat} {SC SI SN SI' : Nat → Prop} (h : WdAt w A V n S SC SI SN) (x : It) (t : Turn SI SI' w w') (q : Ars w' A.pi (V.I ++ [x]) SI') : WdPost w A (V.item x) S w' := by
  have hsz := t.keeps.size
  have hne : ∀ k, SI' k → SI k ∨ w.heap.size ≤ k := fun k s => (t.only k s).imp id (fun h => h.1)
  refine ⟨fun k => S k ∨ SI' k, ⟨t.keeps.mono (fun k _ s => (h.si k s).1), fun k s => ?_⟩, n, SC, SI', SN, h.box.keep t.keeps (fun s => (h.si _ s).2.1 rfl), IsCells.keep h.cel t.keeps (fun k s s' => (h.sc k s).2.2.1 s'), q, h.nt.keep t.keeps (fun k s s' => (h.si k s').2.2 s), h.cnt0, h.cntn, .inl h.here, fun k s => ⟨.inl (h.sc k s).1, (h.sc k s).2.1, fun s' => ?_, (h.sc k s).2.2.2⟩, fun k s => ?_, fun k s => ⟨.inl (h.sn k s).1, (h.sn k s).2⟩, fun k s => ?_⟩
  · rcases s with s | s
    · exact .inl s
    · rcases t.only k s with s | s
      · exact .inl (h.si k s).1
      · exact .inr s
  · rcases hne k s' with s' | s'
    · exact (h.sc k s).2.2.1 s'
    · have := h.lt k (h.sc k s).1; omega
  · refine ⟨.inr s, ?_⟩
    rcases hne k s with s | s
    · exact (h.si k s).2
    · refine ⟨fun e => ?_, fun s' => ?_⟩
      · have := h.box.lt; omega
      · have := h.lt k (h.sn k s').1; omega
  · rcases s with s | s
    · have := h.lt k s; omega
    · rcases t.only k s with s | s
      · have := h.lt k (h.si k s).1; omega
      · exact s.2
end
end Go.Proofs.Ytepkpbhhiianpaa
/- Next: A pair of worlds: Tick. -/
namespace Go.Proofs.Ytepkpbhhiianpaa
open Go.RowKit Go.Maps
set_option linter.unusedVariables false

section
variable {w w' : World} {A R : Ad} {V : Wv} {S T : Nat → Prop}
end
end Go.Proofs.Ytepkpbhhiianpaa
/- Next: The chapter's world: an item of a number; the pieces of a put. -/
namespace Go.Proofs.Ytepkpbhhiianpaa
open Go.RowKit Go.Maps
set_option linter.unusedVariables false

section
variable {w w' : World} {A R : Ad} {V : Wv} {S T : Nat → Prop}
end
end Go.Proofs.Ytepkpbhhiianpaa
