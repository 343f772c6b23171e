/- Records that came in, as a slice of structs of six cells. -/
import Derived.Test.YteofbgbjibbdaabArL
import Derived.Test.YteofbgbjibbdaabOpen
namespace Go.Proofs.Yteofbgbjibbdaab
open Go.RowKit
set_option linter.unusedVariables false
theorem list_of {Q : Nat → It → Prop} : ∀ m : Nat, (∀ i, i < m → ∃ x, Q i x) → ∃ L : List It, L.length = m ∧ ∀ (i : Nat) x, L[i]? = some x → Q i x
  | 0, _ => ⟨[], rfl, fun i x h => by simp at h⟩
  | m + 1, h => by
    obtain ⟨L, hl, hL⟩ := list_of m (fun i hi => h i (by omega))
    obtain ⟨x, hx⟩ := h m (by omega)
    refine ⟨L ++ [x], by simp [hl], fun i y hi => ?_⟩
    rcases Nat.lt_or_ge i L.length with hh | hh
    · rw [List.getElem?_append_left hh] at hi
      exact hL i y hi
    · rw [List.getElem?_append_right hh] at hi
      have hz : i - L.length = 0 := by
        rcases Nat.eq_zero_or_pos (i - L.length) with e | e
        · exact e
        · rw [List.getElem?_eq_none (by simp; omega)] at hi; simp at hi
      rw [hz] at hi
      simp at hi
      obtain rfl : i = m := by omega
      rw [← hi]
      exact hx
theorem reads_items {w : World} {t e : TypeId} {a : Option Addr} {len cap : Nat} (ht : Try.prog.underlying t = some (.slice e)) (hk : leaves Try.prog 9 e = some [.inr (.inl true), .inr (.inl true), .inl .u32, .inl .u64, .inl .i64, .inl .i64]) (hc : Try.prog.cellsOf e = 6) (h : Reads Try.prog w t (.slice a len cap)) :
    (a = none ∧ len = 0 ∧ cap = 0) ∨ ∃ b off, len ≤ cap ∧ cap ≤ maxLen ∧ (0 < cap → a = some ⟨b, off, none⟩) ∧ ∃ L : List It, L.length = len ∧ ∀ (i : Nat) x, L[i]? = some x → w.cell? ⟨b, off + i * 6, none⟩ = some (.string x.1) ∧ w.cell? ⟨b, off + i * 6 + 1, none⟩ = some (.string x.2.1) ∧ w.cell? ⟨b, off + i * 6 + 2, none⟩ = some (.int .u32 x.2.2.1) ∧ w.cell? ⟨b, off + i * 6 + 3, none⟩ = some (.int .u64 x.2.2.2.1) ∧ w.cell? ⟨b, off + i * 6 + 4, none⟩ = some (.int .i64 x.2.2.2.2.1) ∧ w.cell? ⟨b, off + i * 6 + 5, none⟩ = some (.int .i64 x.2.2.2.2.2) := by
  rcases Reads.slice ht hk h with h0 | ⟨b, off, sp, rfl, h1, h2, h3, h4⟩
  · exact .inl h0
  · refine .inr ⟨b, off, h1, h2, fun h => by rw [h3 h (by omega)], list_of len (fun i hi => ?_)⟩
    obtain ⟨l, hl, hll, hx⟩ := h4 i (by omega)
    obtain ⟨_, _, rfl, ⟨k, rfl, -⟩, g1⟩ := all2_cons hl
    obtain ⟨_, _, rfl, ⟨v, rfl, -⟩, g2⟩ := all2_cons g1
    obtain ⟨_, _, rfl, ⟨fl, rfl, -⟩, g3⟩ := all2_cons g2
    obtain ⟨_, _, rfl, ⟨id, rfl, -⟩, g4⟩ := all2_cons g3
    obtain ⟨_, _, rfl, ⟨di, rfl, -⟩, g5⟩ := all2_cons g4
    obtain ⟨_, _, rfl, ⟨ge, rfl, -⟩, g6⟩ := all2_cons g5
    obtain rfl := all2_nil g6
    rw [hc] at hx
    exact ⟨(k, v, fl, id, di, ge), hx 0 _ rfl, hx 1 _ rfl, hx 2 _ rfl, hx 3 _ rfl, hx 4 _ rfl, hx 5 _ rfl⟩
end Go.Proofs.Yteofbgbjibbdaab
