/- Lists that a call hands back: rows of cells in memory of their own. -/
import Derived.Test.YtmjklkcjinfmaaaDoorLib
import Derived.OwnWalk
namespace Go.Proofs.YtmjklkcjinfmaaaDoor
open Go.RowKit
set_option linter.unusedVariables false

/-- A slice value that reads as n elements of so many cells, in a block from B on that may be written; nil, if it has none. -/
def Lst (w : World) (B size : Nat) (v : Value) (n : Nat) (xs : List Value) : Prop :=
  xs.length = n * size ∧ ((v = .slice none 0 0 ∧ n = 0) ∨ ∃ g cap, v = .slice (some ⟨g, 0, none⟩) n cap ∧ B ≤ g ∧ g < w.heap.size ∧ n ≤ cap ∧ cap ≤ maxLen ∧ ∀ j u, xs[j]? = some u → w.cell? ⟨g, j, none⟩ = some u ∧ w.frozen? ⟨g, j, none⟩ = false)
theorem Lst.of_own {w : World} {B size n : Nat} {e : TypeId} {v : Value} {xs : List Value} (h : w.ownsRow B e size v n xs) : Lst w B size v n xs := by
  refine ⟨h.1, ?_⟩
  have hc := h
  obtain ⟨hl, h | ⟨g, cap, cur, rfl, hB, hblk, hn, hcap, hsz, hx⟩⟩ := h
  · exact .inl h
  · refine .inr ⟨g, cap, rfl, hB, ?_, hn, hcap, fun j u hj => ?_⟩
    · rcases Nat.lt_or_ge g w.heap.size with h | h
      · exact h
      · rw [Array.getElem?_eq_none h] at hblk; simp at hblk
    · have := hc.cells rfl j u hj
      rw [Addr.add_lit] at this
      refine ⟨by simpa using this, ?_⟩
      simp [World.frozen?, hblk]
theorem Lst.below {w w' : World} {B size n B' : Nat} {v : Value} {xs : List Value} (h : Lst w B size v n xs) (hb : Below B' w w') (hB : w.heap.size ≤ B') : Lst w' B size v n xs := by
  obtain ⟨hl, h | ⟨g, cap, rfl, hB', hg, hn, hcap, hx⟩⟩ := h
  · exact ⟨hl, .inl h⟩
  · exact ⟨hl, .inr ⟨g, cap, rfl, hB', Nat.lt_of_lt_of_le hg hb.size, hn, hcap, fun j u hj => by
      have := hx j u hj
      exact ⟨(hb.cell (p := ⟨g, j, none⟩) (Nat.lt_of_lt_of_le hg hB)).trans this.1, (hb.frozen (p := ⟨g, j, none⟩) (Nat.lt_of_lt_of_le hg hB)).trans this.2⟩⟩⟩
theorem Lst.mono {w : World} {B B' size n : Nat} {v : Value} {xs : List Value} (h : Lst w B size v n xs) (hB : B' ≤ B) : Lst w B' size v n xs := by
  obtain ⟨hl, h | ⟨g, cap, rfl, hB', hg, hn, hcap, hx⟩⟩ := h
  · exact ⟨hl, .inl h⟩
  · exact ⟨hl, .inr ⟨g, cap, rfl, Nat.le_trans hB hB', hg, hn, hcap, hx⟩⟩
/-- A row, cut to its length: the same list, with no room behind. -/
theorem lst_clip {w : World} {B size n : Nat} {e : TypeId} {v : Value} {xs : List Value} (h : w.ownsRow B e size v n xs) :
    ∃ a m c, v = .slice a m c ∧ m ≤ c ∧ c ≤ maxLen ∧ (a = none → m = 0 ∧ c = 0) ∧ Lst w B size (.slice a m m) n xs := by
  obtain ⟨hl, ⟨rfl, h0⟩ | ⟨g, cap, rfl, hB', hg, hn, hcap, hx⟩⟩ := Lst.of_own h
  · exact ⟨none, 0, 0, rfl, by omega, by simp [maxLen], fun _ => ⟨rfl, rfl⟩, hl, .inl ⟨rfl, h0⟩⟩
  · exact ⟨_, _, _, rfl, hn, hcap, (fun h => by simp at h), hl, .inr ⟨g, _, rfl, hB', hg, Nat.le_refl _, by omega, hx⟩⟩
/-- Behind 'append(v, x)' of a row of the call's own: nothing below has turned. -/
theorem app_below {w wr w1 : World} {B size n : Nat} {e : TypeId} {v : Value} {xs : List Value} {o : Obj} (hown : wr.ownsRow B e size v n xs) (hnx : Below B w wr) (hB : B ≤ w.heap.size) (hg : (wr.alloc o).grownBy w1 v.ownBlock) : Below B w w1 := by
  have hs := hnx.size
  exact (hnx.alloc (by omega) o).grown hg (by simp; omega) (fun k hk => (hown.lt k hk).1)
/-- What a call hands back, and what it leaves: a list of its own. -/
def IsLst (w : World) (size : Nat) (n : Nat) (xs : List Value) (e : Ending) (w' : World) : Prop := ∃ v, e = .returned v ∧ Lst w' w.heap.size size v n xs ∧ Below w.heap.size w w'
def ints (l : List Int) : List Value := l.map (Value.int .i64)
theorem ints_length (l : List Int) : (ints l).length = l.length := by simp [ints]
end Go.Proofs.YtmjklkcjinfmaaaDoor
