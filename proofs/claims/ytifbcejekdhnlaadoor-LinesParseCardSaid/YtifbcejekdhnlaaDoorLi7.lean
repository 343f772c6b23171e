/- Lines: keys that are written over. -/
import Derived.Test.YtifbcejekdhnlaaDoorLi6
namespace Go.Proofs.YtifbcejekdhnlaaDoor
open Go.RowKit Go.Maps
set_option linter.unusedVariables false

/-- The block of a list's strings: what can be written there. -/
def KeyW (W : World) (A : Option Addr) (B n g : Nat) : Prop := 0 < n → A = some ⟨g, 0, none⟩ ∧ B ≤ g ∧ g < W.heap.size ∧ ∀ j, j < n → (∃ v, W.cell? ⟨g, j, none⟩ = some v) ∧ W.frozen? ⟨g, j, none⟩ = false
theorem keyw_of {W : World} {B : Nat} {kv : Value} {l : List (List UInt8)} (h : KeysAt W B kv l) : ∃ A c g, kv = .slice A l.length c ∧ l.length ≤ c ∧ c ≤ maxLen ∧ KeyW W A B l.length g := by
  obtain ⟨hl, ⟨rfl, h0⟩ | ⟨g, cap, rfl, hB, hg, hn, hm, hx⟩⟩ := h
  · exact ⟨none, 0, 0, by rw [h0], by omega, by simp [maxLen], fun h => by omega⟩
  · refine ⟨_, cap, g, rfl, hn, hm, fun _ => ⟨rfl, hB, hg, fun j hj => ?_⟩⟩
    have := hx j (.string ⟨l[j].toArray⟩) (by simp only [strs, List.getElem?_map, List.getElem?_eq_getElem hj]; rfl)
    exact ⟨⟨_, this.1⟩, this.2⟩
theorem KeyW.keep {W W' : World} {A : Option Addr} {B n g : Nat} {T : Nat → Prop} (h : KeyW W A B n g) (hk : Keeps T W W') (hT : 0 < n → ¬ T g) : KeyW W' A B n g := fun h0 => by
  obtain ⟨h1, h2, h3, h4⟩ := h h0
  refine ⟨h1, h2, Nat.lt_of_lt_of_le h3 hk.size, fun j hj => ?_⟩
  obtain ⟨⟨v, hv⟩, hf⟩ := h4 j hj
  exact ⟨⟨v, hk.cell (p := ⟨g, j, none⟩) (hT h0) hv⟩, hk.frozen (p := ⟨g, j, none⟩) (hT h0) h3 hf⟩
theorem KeyW.set {W : World} {A : Option Addr} {B n g k : Nat} (h : KeyW W A B n g) (u : Value) (hk : k < n) : KeyW (W.setCell ⟨g, k, none⟩ u) A B n g := fun h0 => by
  obtain ⟨h1, h2, h3, h4⟩ := h h0
  refine ⟨h1, h2, by simpa [World.setCell] using h3, fun j hj => ?_⟩
  obtain ⟨⟨v, hv⟩, hf⟩ := h4 j hj
  exact ⟨cell?_setCell_some hv, by rw [World.frozen?_setCell]; exact hf⟩
theorem readFs_le (fs : List Nat) (xs : List (List UInt8)) (c : Cmd) : (readFs fs xs c).2 ≤ 5 := by
  by_cases h0 : (readFs fs xs c).2 = 0 ∨ (readFs fs xs c).2 = 5
  · omega
  · have := (readFs_fault fs xs c h0).2
    omega
theorem told_le (l : List UInt8) : (parseC l).2 ≤ 5 := by
  unfold parseC
  split
  · show 3 ≤ 5; omega
  · unfold parseN
    split
    · show 1 ≤ 5; omega
    · split
      · show 1 ≤ 5; omega
      · next f _ =>
        unfold parseW keyedW
        split
        · show 1 ≤ 5; omega
        · split
          · exact readFs_le _ _ _
          · show 2 ≤ 5; omega
end Go.Proofs.YtifbcejekdhnlaaDoor
