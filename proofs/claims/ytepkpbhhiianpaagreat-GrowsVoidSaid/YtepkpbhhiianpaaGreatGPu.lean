/- Puts and Outs: their lines. -/
import Derived.Test.YtepkpbhhiianpaaGreatTi4
import Derived.Test.YtepkpbhhiianpaaGreatGTg
import Derived.Test.YtepkpbhhiianpaaGreatGPl
import Derived.Laws.EntriesVeiled
import Derived.Deep.RegionHeld3
import Derived.Test.YtepkpbhhiianpaaGreatGTo
namespace Go.Proofs.YtepkpbhhiianpaaGreat
open Go.RowKit Go.Maps
set_option linter.unusedVariables false
/-- A Put's cells. -/
def puC (b k s tg ref tags left : Int) : List Value := [.int .i64 b, .int .i64 k, .int .i64 s, .int .i64 tg, .int .i64 ref, .int .u64 tags, .int .i64 left]
/-- An Out's. -/
def ouC (b k s tags left : Int) (g : Bool) : List Value := [.int .i64 b, .int .i64 k, .int .i64 s, .int .u64 tags, .int .i64 left, .bool g]
section
variable {G : Nat → Prop} {w : World} {A : Ad} {V : Wv} {q : Nat} {b k s tg ref tags left : Int} {g : Bool}
/-- What a new one is. -/
def NwOb (w : World) (C : List Value) (e : Ending) (w' : World) : Prop := ∃ q, e = .returned (.pointer (some ⟨q, 0, none⟩)) ∧ Ob w' q C ∧ w.heap.size ≤ q ∧ Below w.heap.size w w'
theorem ob_at {W : World} {C : Array Value} {T : TypeId} {L : List Value} {n : Nat} (hn : n = W.heap.size) (hL : L = C.toList) : Ob (W.alloc (.cells C T)) n L := by
  subst hn
  exact ob_new hL
theorem bs_set {w W : World} {q i : Nat} {v : Value} (h : Below w.heap.size w W) (hq : w.heap.size ≤ q) : Below w.heap.size w (W.setCell ⟨q, i, none⟩ v) := h.setCell hq v
theorem nwOb {w w2 : World} {C : List Value} {q : Nat} (h : Ob w2 q C) (hq : w.heap.size ≤ q) (hb : Below w.heap.size w w2) : NwOb w C (.returned (.pointer (some ⟨q, 0, none⟩))) w2 := ⟨q, rfl, h, hq, hb⟩
end
end Go.Proofs.YtepkpbhhiianpaaGreat
/- Next: Puts and Outs: steps. -/
namespace Go.Proofs.YtepkpbhhiianpaaGreat
open Go.RowKit Go.Maps
set_option linter.unusedVariables false
section
variable {G : Nat → Prop} {w : World} {A : Ad} {V : Wv} {q : Nat} {b k s tg ref tags left a z : Int} {g : Bool}
end
end Go.Proofs.YtepkpbhhiianpaaGreat
/- Next: Puts and Outs: slots, runs; the examples of chapter 13. -/
namespace Go.Proofs.YtepkpbhhiianpaaGreat
open Go.RowKit Go.Maps
set_option linter.unusedVariables false
theorem uTags (b k : Int) : isU (tagsf b k) := by
  unfold tagsf
  split
  · next h => have := isp_range h; exact ⟨by omega, by omega⟩
  · exact ⟨by decide, by decide⟩
theorem uItem (b k s : Int) : isU (itemf b k s) := by
  unfold itemf
  split
  · next h => have := isp_range h.1; exact ⟨by omega, by omega⟩
  · exact ⟨by decide, by decide⟩
theorem isU_lt {z : Int} (h : isU z) : 0 ≤ z ∧ z < 18446744073709551616 := ⟨h.1, by have := h.2; omega⟩
section
variable {G : Nat → Prop} {w w' : World} {A : Ad} {V : Wv} {q : Nat} {C : List Value}
theorem op_newQ (h : WdG G w A V) (ho : Ob w' q C) (hq : w.heap.size ≤ q) (hb : Below w.heap.size w w') : Opw G w' A V q C := by
  obtain ⟨S, h1, h2, h3⟩ := h
  exact ⟨S, h1.new hb, h2, fun s => by have := h1.lt _ s; omega, ho, fun g => by have := h3 _ g; omega, fun k g => Nat.lt_of_lt_of_le (h3 k g) hb.size⟩
theorem WdG.add (h : WdG G w A V) (hb : Below w.heap.size w w') (hq : w.heap.size ≤ q) (hq2 : q < w'.heap.size) : WdG (fun k => G k ∨ k = q) w' A V := by
  obtain ⟨S, h1, h2, h3⟩ := h
  refine ⟨S, h1.new hb, fun k g s => ?_, fun k g => ?_⟩
  · rcases g with g | rfl
    · exact h2 k g s
    · have := h1.lt _ s; omega
  · rcases g with g | rfl
    · exact Nat.lt_of_lt_of_le (h3 k g) hb.size
    · exact hq2
end
end Go.Proofs.YtepkpbhhiianpaaGreat
/- Next: The examples of chapter 13. -/
namespace Go.Proofs.YtepkpbhhiianpaaGreat
open Go.RowKit Go.Maps
set_option linter.unusedVariables false
theorem ex13 : itemf 1 1 2 = 4123 ∧ tagsf 1 1 = 4120 ∧ withf 0 2 7 = 458752 ∧ withf 458752 2 0 = 0 := by decide
end Go.Proofs.YtepkpbhhiianpaaGreat
