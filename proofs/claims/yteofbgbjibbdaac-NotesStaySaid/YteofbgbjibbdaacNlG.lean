/- What a list of no note, and of one, tells. -/
import Derived.Test.YteofbgbjibbdaacNrC
import Derived.Test.YteofbgbjibbdaacNlF
import Derived.Test.YteofbgbjibbdaacNlN
import Derived.Deep.RegionHeld3
namespace Go.Proofs.Yteofbgbjibbdaac
open Go.RowKit
set_option linter.unusedVariables false

/-- The condition of a held region may be made stronger on the way. -/
theorem held_mono {P : Program} {md : Region.Mode} {ops : Array Oper} {Q : Exit → Act → World → Prop} {S S' : World → Prop} (hS : ∀ w, S' w → S w) : ∀ (fuel : Nat) (listed : Array Bool) (a : Act) (w : World), wpAnyH P md ops Q S' fuel listed a w → wpAnyH P md ops Q S fuel listed a w
  | 0, _, _, _, h => h
  | fuel + 1, _, _, _, h => ⟨h.1, fun i hi => wpOp_mono (fun a' w' h' => ⟨hS w' h'.1, held_mono hS fuel _ a' w' h'.2⟩) (h.2 i hi)⟩
/-- The same of the way back into the region, as an equation: so that it can be rewritten where it stands. -/
theorem shut_eq {P : Program} {md : Region.Mode} {ops : Array Oper} {Q : Exit → Act → World → Prop} {S : World → Prop} {fuel : Nat} {l : Array Bool} {K : Act → World → Prop} (hA : Shut (∀ a w, S w → (S w → wpAnyH P md ops Q S fuel l a w) → K a w)) (S' : World → Prop) (hS : ∀ w, S' w → S w) :
    Shut (∀ a w, S w → (S w → wpAnyH P md ops Q S fuel l a w) → K a w) = Shut (∀ a w, S' w → (S' w → wpAnyH P md ops Q S' fuel l a w) → K a w) :=
  propext ⟨fun _ => fun a w h1 h2 => hA a w (hS w h1) (fun _ => held_mono hS _ _ _ _ (h2 h1)), fun _ => hA⟩
/-- Nothing stands in the list's own cell. -/
def Nil1 (w : World) (p : Nat) : Prop := w.cell? ⟨p, 0, none⟩ = some (.slice none 0 0) ∧ w.frozen? ⟨p, 0, none⟩ = false
theorem Nil1.keep {w W : World} {p : Nat} {S : Nat → Prop} (h : Nil1 w p) (hk : Keeps S w W) (hS : ¬ S p) : Nil1 W p :=
  ⟨hk.cell (p := ⟨p, 0, none⟩) hS h.1, hk.frozen (p := ⟨p, 0, none⟩) hS (World.block_lt_of_cell? _ _ h.1) h.2⟩
theorem Nil1.isL {w : World} {p : Nat} (h : Nil1 w p) : IsL w p [] := ⟨_, h.1, h.2, World.ownsRow_nil _ _ _ _, fun _ => rfl⟩
theorem all_nil {w : World} {p : Nat} (h : Nil1 w p) :
    Calls Try.prog 60 #[.pointer (some ⟨p, 0, none⟩)] w fun e w' => ∃ a cap, e = .returned (.slice a 0 cap) ∧ Below w.heap.size w w' := by
  refine (allw w p [] h.isL (by simp)).mono ?_
  rintro e w' ⟨v, rfl, ⟨_, ⟨rfl, _⟩ | ⟨g, cap, rfl, _⟩⟩, hb⟩
  · exact ⟨_, _, rfl, hb⟩
  · exact ⟨_, _, rfl, hb⟩
theorem count_nil1 {w : World} {p : Nat} (h : Nil1 w p) :
    Calls Try.prog 57 #[.pointer (some ⟨p, 0, none⟩)] w fun e w' => e = .returned (.int .i64 0) ∧ w = w' := countl w p 0 [] h.isL (by omega)
theorem all_one {w : World} {p : Nat} {s th k r b c d v : Int} (h : IsNl w p 1 (ncells s th k r b c d v)) :
    Calls Try.prog 60 #[.pointer (some ⟨p, 0, none⟩)] w fun e w' => ∃ g cap, e = .returned (.slice (some ⟨g, 0, none⟩) 1 cap) ∧ (w.heap.size ≤ g ∧ g < w'.heap.size ∧ 1 ≤ cap ∧ cap ≤ 9223372036854775807 ∧ (∀ j u, (ncells s th k r b c d v)[j]? = some u → w'.cell? ⟨g, j, none⟩ = some u)) ∧ Below w.heap.size w w' := by
  refine (allw w p [(s, th, k, r, b, c, d, v)] h (by simp)).mono ?_
  rintro e w' ⟨u, rfl, ⟨_, ⟨rfl, h0⟩ | ⟨g, cap, rfl, h1, h2, h3, h4, h5⟩⟩, hb⟩
  · simp at h0
  · exact ⟨g, cap, rfl, ⟨h1, h2, h3, by unfold maxLen at h4; omega, fun j u hj => (h5 j u hj).1⟩, hb⟩
theorem One.at_ {T : TypeId} {w0 w : World} {p : Nat} {xs : List Value} (h : One T w0 w p xs) :
    ∃ g cap, w.cell? ⟨p, 0, none⟩ = some (.slice (some ⟨g, 0, none⟩) 1 cap) ∧ g < w.heap.size ∧ 1 ≤ cap ∧ cap ≤ 9223372036854775807 ∧ (∀ j u, xs[j]? = some u → w.cell? ⟨g, j, none⟩ = some u) := by
  obtain ⟨u, hp, hf, hown⟩ := h
  obtain ⟨_, ⟨rfl, h0⟩ | ⟨g, cap, rfl, h1, h2, h3, h4, h5⟩⟩ := Lst.of_own hown
  · omega
  · exact ⟨g, cap, hp, h2, h3, by unfold maxLen at h4; omega, fun j u hj => (h5 j u hj).1⟩
theorem One.isNl {w0 w : World} {p : Nat} {xs : List Value} (h : One 80 w0 w p xs) (hp : p < w0.heap.size) : IsNl w p 1 xs := by
  obtain ⟨v, h1, h2, hl, h | ⟨g, cap, cur, e, hB, r⟩⟩ := h
  · omega
  · exact ⟨v, h1, h2, ⟨hl, .inr ⟨g, cap, cur, e, by omega, r⟩⟩, fun h => by omega⟩
/-- The new list's row is a new block. -/
theorem same_cells {w : World} {ga gb ca cb : Nat} {s th k r b c d v : Int} (k0 : 0 ≤ k) (k1 : k ≤ 255) (la : ga < w.heap.size) (lb : gb < w.heap.size) (na : 1 ≤ ca) (nb : 1 ≤ cb) (ma : ca ≤ 9223372036854775807) (mb : cb ≤ 9223372036854775807) (ha : ∀ j u, (ncells s th k r b c d v)[j]? = some u → w.cell? ⟨ga, j, none⟩ = some u) (hb : ∀ j u, (rcells s th k r b c d v)[j]? = some u → w.cell? ⟨gb, j, none⟩ = some u) :
    Calls Try.prog 61 #[.slice (some ⟨ga, 0, none⟩) 1 ca, .slice (some ⟨gb, 0, none⟩) 1 cb] w fun e w' => e = .returned (.bool true) ∧ Below w.heap.size w w' :=
  same_one w ga gb ca cb s th k r b c d v k0 k1 la lb na nb ma mb (ha 0 _ rfl) (ha 1 _ rfl) (ha 2 _ rfl) (ha 3 _ rfl) (ha 4 _ rfl) (ha 5 _ rfl) (ha 6 _ rfl) (ha 7 _ rfl) (hb 0 _ rfl) (hb 1 _ rfl) (hb 2 _ rfl) (hb 3 _ rfl) (hb 4 _ rfl) (hb 5 _ rfl) (hb 6 _ rfl) (hb 7 _ rfl)
end Go.Proofs.Yteofbgbjibbdaac
