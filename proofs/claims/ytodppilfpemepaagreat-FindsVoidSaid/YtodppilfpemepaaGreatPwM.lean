/- A pair of worlds as at first. -/
import Derived.Test.YtodppilfpemepaaGreatGPx
import Derived.Test.YtodppilfpemepaaGreatWd4
namespace Go.Proofs.YtodppilfpemepaaGreat
open Go.RowKit Go.Maps
set_option linter.unusedVariables false
theorem isLs_list (M : List (Int × Int)) (hU : ∀ x ∈ M, isU x.1 ∧ isU x.2) : IsLs (listL M) (wordsF M) := by
  have key : ∀ (M L : List (Int × Int)) (f : Int → Int), (∀ x ∈ M, isU x.1 ∧ isU x.2) → IsLs L f → IsLs (M.foldl (fun L x => putL L x.1 x.2) L) (M.foldl (fun f x => upd f x.1 x.2) f) := by
    intro M
    induction M with
    | nil => intro L f _ h; exact h
    | cons x r ih =>
      intro L f hu h
      exact ih _ _ (fun y hy => hu y (by simp [hy])) (h.put (hu x (by simp)).1 (hu x (by simp)).2)
  exact key M [] (fun _ => 0) hU IsLs.nil
/-- Both, as at first. -/
theorem pw_made {w1 X w2 : World} {A : Ad} {B : Nat} {b u t q y : Int} {e : Ending} (hb : 1 ≤ b ∧ b ≤ 12) (hW : WdB w1 A (V0 ⟨b, u, t, q, y⟩) B) (hx : Below w1.heap.size w1 X) (hB : B ≤ w1.heap.size) (h : NewR X b u t q y e w2) :
    ∃ R S T, e = .returned (.tuple #[.pointer (some ⟨R.p, 0, none⟩), .int .i64 0]) ∧ Pw w2 A R (V0 ⟨b, u, t, q, y⟩) S T ∧ (∀ j, S j ∨ T j → B ≤ j) ∧ Below X.heap.size X w2 := by
  obtain ⟨R, T, rfl, hr, hT, hk⟩ := h
  obtain ⟨S, hw, hS⟩ := hW
  have hs := hx.size
  refine ⟨R, S, T, rfl, ⟨(hw.new hx).new hk, ⟨_, hr, isLs_list _ (fun x hx => ?_), ?_⟩, fun j s t => ?_⟩, fun j s => ?_, hk⟩
  · simp at hx
    subst hx
    exact ⟨⟨by show (0 : Int) ≤ 2; decide, by show (2 : Int) < 18446744073709551616; decide⟩, ⟨by show 0 ≤ b; omega, by show b < 18446744073709551616; omega⟩⟩
  · have := listL_len [((2 : Int), b)]
    simp at this
    simp [V0]
    omega
  · have := hw.lt j s
    have := hT j t
    omega
  · rcases s with s | s
    · exact hS j s
    · have := hT j s; omega
theorem isU_first {b : Int} (hb : 1 ≤ b ∧ b ≤ 12) : ∀ x ∈ [((2 : Int), b)], isU x.1 ∧ isU x.2 := fun x hx => by
  simp at hx
  subst hx
  exact ⟨⟨by show (0 : Int) ≤ 2; decide, by show (2 : Int) < 18446744073709551616; decide⟩, ⟨by show 0 ≤ b; omega, by show b < 18446744073709551616; omega⟩⟩
/-- The same, the chapter's made first. -/
theorem pw_made2 {w1 X2 w2 : World} {A R : Ad} {b u t q y : Int} {T : Nat → Prop} {B : Nat} (hb : 1 ≤ b ∧ b ≤ 12) (hr : Rw w1 R (V0 ⟨b, u, t, q, y⟩) (listL [(2, b)]) T) (hT : ∀ j, T j → B ≤ j) (hx : Below w1.heap.size w1 X2) (hB : B ≤ w1.heap.size) (hW : WdB w2 A (V0 ⟨b, u, t, q, y⟩) X2.heap.size) (hk : Below X2.heap.size X2 w2) :
    ∃ S, Pw w2 A R (V0 ⟨b, u, t, q, y⟩) S T ∧ (∀ j, S j ∨ T j → B ≤ j) := by
  obtain ⟨S, hw, hS⟩ := hW
  have hs := hx.size
  have hlt : ∀ j, T j → j < w1.heap.size := by
    obtain ⟨TC, TI, TN, r⟩ := hr
    exact r.lt
  refine ⟨S, ⟨hw, ⟨_, (hr.new hx).new hk, isLs_list _ (isU_first hb), ?_⟩, fun j s t => ?_⟩, fun j s => ?_⟩
  · have := listL_len [((2 : Int), b)]
    simp at this
    simp [V0]
    omega
  · have := hS j s
    have := hlt j t
    omega
  · rcases s with s | s
    · have := hS j s; omega
    · exact hT j s
end Go.Proofs.YtodppilfpemepaaGreat
