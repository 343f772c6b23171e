/- Arrays of words that are compared with themselves. -/
import Derived.Test.YtodppilfpemepaaGreatLib
import Derived.ChangeKeysEq
import Derived.Deep.MidRow
namespace Go.Proofs.YtodppilfpemepaaGreat
open Go.RowKit
set_option linter.unusedVariables false

theorem eqItems_self {P : Program} {e : TypeId} (he : P.underlying e = some (.int .u64)) (d : Nat) (xs : Array Value) (w : World) : ∀ (is : List Nat), (∀ i ∈ is, ∃ v, xs[i]? = some (.int .u64 v)) → (Op.eqItems (d + 1) e 1 xs xs is).run P w = .ok true w
  | [], _ => by simp [Op.eqItems]
  | i :: is, h => by
    obtain ⟨v, hv⟩ := h i (by simp)
    have px : (part e xs (i * 1)).run P w = .ok (.int .u64 v) w := by
      simp [part, isAgg, run_underlying he, hv]
    have pe : (Op.equalIn (d + 1) e (.int .u64 v) (.int .u64 v)).run P w = .ok true w := by
      rw [run_equalIn_int w d e .u64 .u64 _ _ he]
      simp
    simp only [Op.eqItems, Sem.run_bind, px, pe, Result.andThen_ok]
    simpa using eqItems_self he d xs w is (fun j hj => h j (by simp [hj]))
theorem eql_self {P : Program} {t e : TypeId} {n : Nat} (ht : P.underlying t = some (.array n e)) (he : P.underlying e = some (.int .u64)) (hc : P.cellsOf e = 1) (xs : Array Value) (h : ∀ i, i < n → ∃ v, xs[i]? = some (.int .u64 v)) (w : World) :
    (binOp .eql t (.agg xs) (.agg xs)).run P w = .ok (.bool true) w := by
  obtain ⟨i0, hi0⟩ : ∃ i, P.info? e = some i := info_of_underlying he
  rw [run_eql_struct, run_equalIn_array w 9999 xs xs ht hi0, hc, eqItems_self he 9998 xs w (List.range n) (fun i hi => h i (by simpa using hi))]
  rfl
/-- The cells of the tickets. -/
def tkCells (tk : Nat → Int) : List Value := (List.range 64).map fun i => .int .u64 (tk i)
theorem tk_len (tk : Nat → Int) : (tkCells tk).length = 64 := by simp [tkCells]
theorem tk_at {tk : Nat → Int} {i : Nat} {v : Value} (h : (tkCells tk)[i]? = some v) : i < 64 ∧ v = .int .u64 (tk i) := by
  have hi : i < 64 := by
    rcases Nat.lt_or_ge i 64 with h' | h'
    · exact h'
    · rw [List.getElem?_eq_none (by rw [tk_len]; exact h')] at h; simp at h
  unfold tkCells at h
  rw [List.getElem?_map, List.getElem?_range hi] at h
  simp at h
  exact ⟨hi, h.symm⟩
theorem tk_some (tk : Nat → Int) : ∀ i, i < 64 → ∃ v, (tkCells tk).toArray[i]? = some (.int .u64 v) := fun i hi => ⟨tk i, by
  rw [List.getElem?_toArray]
  unfold tkCells
  rw [List.getElem?_map, List.getElem?_range hi]
  rfl⟩
end Go.Proofs.YtodppilfpemepaaGreat
