/- FeedsMend: large. -/
import Derived.Test.YteoeelhljimibaaFz
import Derived.Test.YteoeelhljimibaaFm
namespace Go.Proofs.Yteoeelhljimibaa
open Go.RowKit Go.Maps
set_option linter.unusedVariables false

def largeB (l : List Ev) : Bool := l.any (fun e => decide (e.told = 5))
theorem largeB_no {l : List Ev} (h : ∀ (k : Nat) (e : Ev), l[k]? = some e → e.told ≠ 5) : largeB l = false := by
  unfold largeB
  rw [List.any_eq_false]
  intro e he
  obtain ⟨k, hk⟩ := List.mem_iff_getElem?.mp he
  simp [h k e hk]
theorem largeB_yes {l : List Ev} {k : Nat} {e : Ev} (h : l[k]? = some e) (ht : e.told = 5) : largeB l = true := by
  unfold largeB
  rw [List.any_eq_true]
  exact ⟨e, List.mem_of_getElem? h, by simp [ht]⟩
theorem noLarge {l : List Ev} (h : largeB l = false) : NoLarge l := by
  unfold largeB at h
  rw [List.any_eq_false] at h
  intro e he
  simpa using h e he
theorem evr_at {W : World} {a : Option Addr} {n c k : Nat} {ps : List (Ev × Value)} (h : EvR W (.slice a n c) ps) (hk : k < ps.length) : ∃ p g, ps[k]? = some p ∧ a = some ⟨g, 0, none⟩ ∧ g < W.heap.size ∧ W.cell? ⟨g, k * 13 + 12, none⟩ = some (.int .u8 (p.1.told : Nat)) := by
  obtain ⟨A, c', e, h1, h2, h3⟩ := h.form
  injection e with e1 e2 e3
  subst e1
  obtain ⟨g, e, hg, hc⟩ := h3 (by omega)
  exact ⟨_, g, List.getElem?_eq_getElem hk, e, hg, hc _ _ (rowsE_at ps k 12 _ _ (List.getElem?_eq_getElem hk) rfl)⟩
end Go.Proofs.Yteoeelhljimibaa
