/- The chapter's lists of notes: what a list has; a note behind it. -/
import Derived.Test.YtepkpbhhiianpaaGNl
import Derived.Deep.RegionLaw
import Derived.Deep.AppendLies
import Derived.BigRegion
import Derived.Deep.RegionHeld
import Derived.IntWalk
import Derived.Test.YtepkpbhhiianpaaKeep
namespace Go.Proofs.Ytepkpbhhiianpaa
open Go.RowKit
set_option linter.unusedVariables false

def rcells (s th k r b c d v : Int) : List Value := [.int .i64 s, .int .i64 th, .int .i64 k, .int .i64 r, .int .i64 b, .int .i64 c, .int .i64 d, .int .i64 v]
theorem news8R {W : World} {s th k r b c d v : Int} {t : TypeId} {j : Nat} {u : Value} (hj : (rcells s th k r b c d v)[j]? = some u) :
    (W.alloc (.cells #[.int .i64 s, .int .i64 th, .int .i64 k, .int .i64 r, .int .i64 b, .int .i64 c, .int .i64 d, .int .i64 v] t)).cell? ((⟨W.heap.size, 0, none⟩ : Addr).add j) = some u :=
  World.news_of_block (B := W.heap.size) (cs := #[.int .i64 s, .int .i64 th, .int .i64 k, .int .i64 r, .int .i64 b, .int .i64 c, .int .i64 d, .int .i64 v]) (t := t) (fr := (0, 0)) (by show (W.heap.push _)[W.heap.size]? = _; simp) j u hj
end Go.Proofs.Ytepkpbhhiianpaa
/- Next: The chapter's lists of notes, framed by sets of blocks: a note behind a list. -/
namespace Go.Proofs.Ytepkpbhhiianpaa
open Go.RowKit
set_option linter.unusedVariables false

end Go.Proofs.Ytepkpbhhiianpaa
/- Next: The chapter's lists of notes, framed by sets of blocks: Add. -/
namespace Go.Proofs.Ytepkpbhhiianpaa
open Go.RowKit
set_option linter.unusedVariables false

end Go.Proofs.Ytepkpbhhiianpaa
/- Next: The chapter's list: a note that may not be; two lists without a note. -/
namespace Go.Proofs.Ytepkpbhhiianpaa
open Go.RowKit
set_option linter.unusedVariables false

end Go.Proofs.Ytepkpbhhiianpaa
/- Next: The chapter's lists of notes, framed by sets of blocks: Add of whatever note. -/
namespace Go.Proofs.Ytepkpbhhiianpaa
open Go.RowKit
set_option linter.unusedVariables false

def Nv.rcells : Nv → List Value
  | (s, th, k, r, b, c, d, v) => Proofs.Ytepkpbhhiianpaa.rcells s th k r b c d v
def Nv.ragg : Nv → Value
  | (s, th, k, r, b, c, d, v) => .agg #[.int .i64 s, .int .i64 th, .int .i64 k, .int .i64 r, .int .i64 b, .int .i64 c, .int .i64 d, .int .i64 v]
def rowsR (L : List Nv) : List Value := L.flatMap Nv.rcells
theorem rcells_len (x : Nv) : x.rcells.length = 8 := rfl
theorem rowsR_len (L : List Nv) : (rowsR L).length = L.length * 8 := by
  induction L with
  | nil => rfl
  | cons x L ih => simp only [rowsR, List.flatMap_cons, List.length_append] at *; rw [ih, rcells_len]; simp; omega
theorem rowsR_snoc (L : List Nv) (x : Nv) : rowsR (L ++ [x]) = rowsR L ++ x.rcells := by simp [rowsR]
theorem rowsR_at : ∀ (L : List Nv) (i j : Nat) (hi : i < L.length), j < 8 → (rowsR L)[i * 8 + j]? = L[i].rcells[j]?
  | x :: L, 0, j, hi, hj => by
    simp only [rowsR, List.flatMap_cons, Nat.zero_mul, Nat.zero_add, List.getElem_cons_zero]
    rw [List.getElem?_append_left (by rw [rcells_len]; exact hj)]
  | x :: L, i + 1, j, hi, hj => by
    have ih := rowsR_at L i j (by simpa using hi) hj
    simp only [rowsR, List.flatMap_cons, List.getElem_cons_succ] at *
    rw [List.getElem?_append_right (by rw [rcells_len]; omega), rcells_len, ← ih]
    congr 1
    omega
theorem last_atR {L : List Nv} (h : 0 < L.length) : ∃ y : Nv, L.getLast? = some y ∧ (rowsR L)[(L.length - 1) * 8]? = some (.int .i64 y.s) := by
  refine ⟨L[L.length - 1]'(by omega), ?_, ?_⟩
  · rw [List.getLast?_eq_getElem?, List.getElem?_eq_getElem (by omega)]
  · have := rowsR_at L (L.length - 1) 0 (by omega) (by omega)
    rw [Nat.add_zero] at this
    rw [this]
    obtain ⟨s, th, k, r, b, c, d, v⟩ := L[L.length - 1]'(by omega)
    rfl
end Go.Proofs.Ytepkpbhhiianpaa
