/- Bounds: they do not fall. -/
import Derived.Test.YteoeelhljimibaaBo8
namespace Go.Proofs.Yteoeelhljimibaa
open Go.RowKit Go.Maps
set_option linter.unusedVariables false

/-- A config that may be, and one that is more. -/
structure More (b u t q y u' t' q' y' : Int) : Prop where
  may : 1 ≤ b ∧ b ≤ 12 ∧ 1 ≤ u ∧ u ≤ 65536 ∧ 0 ≤ t ∧ t ≤ 16 ∧ 1 ≤ q ∧ q ≤ 8 ∧ 2 ≤ y ∧ y ≤ 256
  le : u ≤ u' ∧ u' ≤ 65536 ∧ t ≤ t' ∧ t' ≤ 16 ∧ q ≤ q' ∧ q' ≤ 8 ∧ y ≤ y' ∧ y' ≤ 256
theorem ofI_sum {b u t q y : Int} (h : 1 ≤ b ∧ b ≤ 12 ∧ 1 ≤ u ∧ u ≤ 65536 ∧ 0 ≤ t ∧ t ≤ 16 ∧ 1 ≤ q ∧ q ≤ 8 ∧ 2 ≤ y ∧ y ≤ 256) (k : Nat) : ofI k b u t q y = sumP (partsOf (measI b u t q y) k) := by
  unfold ofI
  rw [if_pos (by unfold mayc; exact decide_eq_true h)]
theorem sumP_cons (a b : Int) (l : List (Int × Int)) : sumP ((a, b) :: l) = a * b + sumP l := by simp [sumP]
theorem ofI_form {b u t q y : Int} (h : 1 ≤ b ∧ b ≤ 12 ∧ 1 ≤ u ∧ u ≤ 65536 ∧ 0 ≤ t ∧ t ≤ 16 ∧ 1 ≤ q ∧ q ≤ 8 ∧ 2 ≤ y ∧ y ≤ 256) :
    ofI 0 b u t q y = roomI y ∧ ofI 1 b u t q y = turnI q y ∧ ofI 2 b u t q y = evictI b u ∧ ofI 3 b u t q y = 31 * (t + 1) + 28 ∧ ofI 4 b u t q y = turnI q y + evictI b u + 2 * roomI y + 66 ∧ ofI 5 b u t q y = turnI q y + 31 ∧ ofI 6 b u t q y = 4 := by
  have e0 : sumP [] = 0 := rfl
  refine ⟨?_, ?_, ?_, ?_, ?_, ?_, ?_⟩ <;> rw [ofI_sum h]
  · rfl
  · rfl
  · rfl
  all_goals
    simp only [partsOf, measI, sumP_cons, e0]
    omega
theorem turn_mono {q y q' y' : Int} (h0 : 0 ≤ q) (h1 : q ≤ q') (h2 : 0 ≤ roomI y) (h3 : roomI y ≤ roomI y') : turnI q y ≤ turnI q' y' := by
  rw [turn_eq, turn_eq]
  have h4 : 4 * q * roomI y ≤ 4 * q' * roomI y' := Int.mul_le_mul (by omega) h3 h2 (by omega)
  omega
theorem More.each {b u t q y u' t' q' y' : Int} (h : More b u t q y u' t' q' y') : ∀ k, k < 7 → ofI k b u t q y ≤ ofI k b u' t' q' y' ∧ 4 ≤ ofI k b u t q y := by
  obtain ⟨hm, l1, l2, l3, l4, l5, l6, l7, l8⟩ := h
  obtain ⟨b1, b2, u1, u2, t1, t2, q1, q2, y1, y2⟩ := hm
  obtain ⟨a0, a1, a2, a3, a4, a5, a6⟩ := ofI_form (b := b) (u := u) (t := t) (q := q) (y := y) (by omega)
  obtain ⟨c0, c1, c2, c3, c4, c5, c6⟩ := ofI_form (b := b) (u := u') (t := t') (q := q') (y := y') (by omega)
  have r1 := room_eq y
  have r2 := room_eq y'
  have t3 := turn_mono (q := q) (y := y) (q' := q') (y' := y') (by omega) l5 (by omega) (by omega)
  have t4 := turn_eq q y
  have t5 : 4 * 1 * 28 ≤ 4 * q * roomI y := Int.mul_le_mul (by omega) (by omega) (by omega) (by omega)
  have e1 := evict_eq b u
  have e2 := evict_eq b u'
  have s1 := slots_bd b1 b2 u1 u2
  have s2 : slotsI b u ≤ slotsI b u' := by unfold slotsI; omega
  intro k hk
  rcases (by omega : k = 0 ∨ k = 1 ∨ k = 2 ∨ k = 3 ∨ k = 4 ∨ k = 5 ∨ k = 6) with rfl | rfl | rfl | rfl | rfl | rfl | rfl
  all_goals omega
theorem More.turn {b u t q y u' t' q' y' : Int} (h : More b u t q y u' t' q' y') : ofI 0 b u t q y ≤ ofI 1 b u t q y := by
  obtain ⟨hm, -⟩ := h
  obtain ⟨a0, a1, -⟩ := ofI_form hm
  rw [a0, a1, turn_eq]
  obtain ⟨b1, b2, u1, u2, t1, t2, q1, q2, y1, y2⟩ := hm
  have r1 := room_eq y
  have t5 : 1 * roomI y ≤ 4 * q * roomI y := Int.mul_le_mul (by omega) (Int.le_refl _) (by omega) (by omega)
  omega
theorem More.steps {b u t q y u' t' q' y' : Int} (h : More b u t q y u' t' q' y') {v : Int} (hv : 1 ≤ v ∧ v ≤ 11) : stepsI b u t q y v ≤ stepsI b u' t' q' y' v ∧ 4 ≤ stepsI b u t q y v := by
  unfold stepsI
  have : ∃ k, k < 7 ∧ stepsK v = some k := by
    unfold stepsK
    by_cases h1 : v = 1 ∨ v = 2
    · exact ⟨3, by omega, by rw [if_pos h1]⟩
    by_cases h2 : v = 3 ∨ v = 4 ∨ v = 5 ∨ v = 6
    · exact ⟨4, by omega, by rw [if_neg h1, if_pos h2]⟩
    by_cases h3 : v = 7 ∨ v = 8 ∨ v = 9 ∨ v = 10
    · exact ⟨5, by omega, by rw [if_neg h1, if_neg h2, if_pos h3]⟩
    · exact ⟨6, by omega, by rw [if_neg h1, if_neg h2, if_neg h3, if_pos (by omega)]⟩
  obtain ⟨k, hk, e⟩ := this
  rw [e]
  exact h.each k hk
theorem More.wins {b u t q y u' t' q' y' : Int} (h : More b u t q y u' t' q' y') : ∀ l : List Cl, (∀ x ∈ l, 1 ≤ (x.verb : Int) ∧ (x.verb : Int) ≤ 11) → winI b u t q y l ≤ winI b u' t' q' y' l
  | [], _ => by simp [winI]
  | x :: l, hx => by
    have h1 := h.wins l fun z hz => hx z (by simp [hz])
    have h2 := (h.steps (hx x (by simp))).1
    have e : ∀ b u t q y : Int, winI b u t q y (x :: l) = stepsI b u t q y x.verb + winI b u t q y l := fun _ _ _ _ _ => by simp [winI]
    rw [e, e]
    omega
/-- The verb that a byte is taken for. -/
def verb11 (x : Int) : Nat := (1 + x % 11).toNat
theorem verb11_bd {x : Int} (h0 : 0 ≤ x) : 1 ≤ verb11 x ∧ verb11 x ≤ 11 ∧ 1 + x % 11 = (verb11 x : Int) := by
  unfold verb11
  refine ⟨by omega, by omega, ?_⟩
  rw [Int.toNat_of_nonneg (by omega)]
def callV (v : Nat) : Cl := ⟨v, [], [], 0, 0, 0, 0⟩
end Go.Proofs.Yteoeelhljimibaa
