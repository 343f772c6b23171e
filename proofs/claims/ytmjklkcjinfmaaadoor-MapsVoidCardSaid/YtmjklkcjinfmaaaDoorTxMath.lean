/- Own texts of numbers: read back, with noughts ahead, with a byte that is no digit, held against each other. -/
import Derived.Test.YtmjklkcjinfmaaaDoorNmMath
import Derived.Lib.ItoaNum
import Derived.Lib.ItoaLen
namespace Go.Proofs.YtmjklkcjinfmaaaDoor
set_option linter.unusedVariables false

theorem digit_byte {k : Nat} (h : k < 10) : ((UInt8.ofNat (48 + k)).toNat : Int) = 48 + k := by
  rw [UInt8.toNat_ofNat']
  omega
theorem dec_small {u : Nat} (h : u < 10) : Lib.decDigits u = [UInt8.ofNat (48 + u)] := Lib.decDigits_one h
theorem dec_big {u : Nat} (h : ¬ u < 10) : Lib.decDigits u = Lib.decDigits (u / 10) ++ [UInt8.ofNat (48 + u % 10)] := by
  rw [Lib.decDigits, dif_neg h]
theorem digs_dec (u : Nat) : ∀ (t : List UInt8), u ≤ 18446744073709551615 → digsF 0 (Lib.decDigits u ++ t) = digsF u t := by
  induction u using Nat.strongRecOn with
  | _ u ih =>
    intro t hu
    by_cases h : u < 10
    · have hd := digit_byte h
      rw [dec_small h, List.cons_append, List.nil_append, digsF_go (by omega) (by omega), hd]
      congr 1
      omega
    · have hd := digit_byte (k := u % 10) (by omega)
      rw [dec_big h, List.append_assoc, List.cons_append, List.nil_append, ih (u / 10) (by omega) _ (by omega)]
      rw [digsF_go (by omega) (by omega), hd]
      congr 1
      omega
theorem digs_noughts (t : List UInt8) : ∀ m : Nat, digsF 0 (List.replicate m 48 ++ t) = digsF 0 t
  | 0 => by simp
  | m + 1 => by
    have e : ((48 : UInt8).toNat : Int) = 48 := rfl
    rw [List.replicate_succ, List.cons_append, digsF_go (by omega) (by omega)]
    have := digs_noughts t m
    simpa [e] using this
theorem dec_len {u : Nat} (hu : u ≤ 18446744073709551615) : 1 ≤ (Lib.decDigits u).length ∧ (Lib.decDigits u).length ≤ 20 := by
  rw [Lib.decDigits_length]
  exact ⟨Lib.nDigits_pos u, Lib.nDigits_le20 u (by omega)⟩
theorem parse_noughts {u : Nat} (m : Nat) (hu : u ≤ 18446744073709551615) : parseF (List.replicate m 48 ++ Lib.decDigits u) = if m + (Lib.decDigits u).length ≤ 20 then ((u : Int), true) else (0, false) := by
  have hl := dec_len hu
  split
  · next h =>
    unfold parseF
    have hlen : (List.replicate m (48 : UInt8) ++ Lib.decDigits u).length = m + (Lib.decDigits u).length := by simp
    rw [if_neg (by rw [hlen]; omega), digs_noughts]
    have := digs_dec u [] hu
    simpa [digsF] using this
  · next h => exact parseF_len (.inr (by simp; omega))
theorem parse_dec {u : Nat} (hu : u ≤ 18446744073709551615) : parseF (Lib.decDigits u) = ((u : Int), true) := by
  have h := parse_noughts 0 hu
  have hl := dec_len hu
  simpa [hl.2] using h
/-- The first digit. -/
theorem dec_head (u : Nat) : ∃ (k : Nat) (t : List UInt8), k < 10 ∧ Lib.decDigits u = UInt8.ofNat (48 + k) :: t ∧ (0 < u → 0 < k) := by
  induction u using Nat.strongRecOn with
  | _ u ih =>
    by_cases h : u < 10
    · exact ⟨u, [], h, dec_small h, fun h => h⟩
    · obtain ⟨k, t, hk, e, hp⟩ := ih (u / 10) (by omega)
      exact ⟨k, t ++ [UInt8.ofNat (48 + u % 10)], hk, by rw [dec_big h, e]; rfl, fun _ => hp (by omega)⟩
theorem digit_ne {k : Nat} {c : UInt8} (h : k < 10) (hc : (c.toNat : Int) < 48 ∨ 57 < (c.toNat : Int)) : UInt8.ofNat (48 + k) ≠ c := by
  intro e
  have := digit_byte h
  rw [e] at this
  omega
/-- A byte that is no digit. -/
theorem digs_bad {x : List UInt8} {c : UInt8} (t : List UInt8) (hc : (c.toNat : Int) < 48 ∨ 57 < (c.toNat : Int)) : ∀ n : Int, digsF n (x ++ c :: t) = (0, false) := by
  induction x with
  | nil => intro n; rw [List.nil_append]; exact digsF_bad hc
  | cons d x ih =>
    intro n
    rw [List.cons_append]
    unfold digsF
    split
    · rfl
    · split
      · rfl
      · exact ih _
theorem parse_bad {x t : List UInt8} {c : UInt8} (hc : (c.toNat : Int) < 48 ∨ 57 < (c.toNat : Int)) : parseF (x ++ c :: t) = (0, false) := by
  unfold parseF
  split
  · rfl
  · exact digs_bad t hc 0
/-- Rows of one length, one behind the other. -/
theorem less_snoc : ∀ (x y : List UInt8) (c d : UInt8), x.length = y.length → Op.bytesLess (x ++ [c]) (y ++ [d]) = (Op.bytesLess x y || (x == y && decide (c < d)))
  | [], [], c, d, _ => by simp [Op.bytesLess]
  | a :: x, b :: y, c, d, h => by
    have ih := less_snoc x y c d (by simpa using h)
    simp only [List.cons_append, Op.bytesLess, ih]
    by_cases hab : a < b
    · simp [hab]
    · by_cases he : a = b
      · subst he
        simp [hab]
      · have h1 : (a == b) = false := by simpa using he
        have h2 : (a :: x == b :: y) = false := by simp [he]
        simp [hab, h1, h2]
  | [], _ :: _, _, _, h => by simp at h
  | _ :: _, [], _, _, h => by simp at h
theorem byte_lt {j k : Nat} (hj : j < 10) (hk : k < 10) : (UInt8.ofNat (48 + j) < UInt8.ofNat (48 + k)) ↔ j < k := by
  rw [UInt8.lt_iff_toNat_lt, UInt8.toNat_ofNat', UInt8.toNat_ofNat']
  omega
theorem dec_inj {a b : Nat} (ha : a ≤ 18446744073709551615) (hb : b ≤ 18446744073709551615) (h : Lib.decDigits a = Lib.decDigits b) : a = b := by
  have h1 := parse_dec ha
  rw [h, parse_dec hb] at h1
  injection h1 with h1
  omega
theorem dec_less (a : Nat) : ∀ b : Nat, a ≤ 18446744073709551615 → b ≤ 18446744073709551615 → (Lib.decDigits a).length = (Lib.decDigits b).length → Op.bytesLess (Lib.decDigits a) (Lib.decDigits b) = decide (a < b) := by
  induction a using Nat.strongRecOn with
  | _ a ih =>
    intro b ha hb hl
    by_cases h : a < 10
    · by_cases h' : b < 10
      · rw [dec_small h, dec_small h']
        have := byte_lt h h'
        simp only [Op.bytesLess, Bool.and_false, Bool.or_false]
        exact decide_eq_decide.mpr this
      · rw [dec_small h, dec_big h'] at hl
        have := (dec_len (u := b / 10) (by omega)).1
        simp at hl
        rw [hl] at this; simp at this
    · by_cases h' : b < 10
      · rw [dec_small h', dec_big h] at hl
        have := (dec_len (u := a / 10) (by omega)).1
        simp at hl
        rw [hl] at this; simp at this
      · rw [dec_big h, dec_big h'] at hl ⊢
        have hl' : (Lib.decDigits (a / 10)).length = (Lib.decDigits (b / 10)).length := by simpa using hl
        rw [less_snoc _ _ _ _ hl', ih (a / 10) (by omega) (b / 10) (by omega) (by omega) hl']
        have hb2 := byte_lt (j := a % 10) (k := b % 10) (by omega) (by omega)
        by_cases q1 : a / 10 < b / 10
        · have hn : a < b := by omega
          simp [q1, hn]
        · by_cases q2 : a / 10 = b / 10
          · rw [q2]
            simp only [Nat.lt_irrefl, decide_false, Bool.false_or, beq_self_eq_true, Bool.true_and]
            rw [decide_eq_decide, hb2]
            omega
          · have q3 : (Lib.decDigits (a / 10) == Lib.decDigits (b / 10)) = false := beq_eq_false_iff_ne.mpr fun e => q2 (dec_inj (by omega) (by omega) e)
            have hn : ¬ a < b := by omega
            rw [decide_eq_false q1, q3, decide_eq_false hn]; rfl
theorem dec_mono (a : Nat) : ∀ b : Nat, a ≤ b → (Lib.decDigits a).length ≤ (Lib.decDigits b).length := by
  induction a using Nat.strongRecOn with
  | _ a ih =>
    intro b hab
    by_cases h : a < 10
    · rw [dec_small h]
      have := Lib.nDigits_pos b
      rw [← Lib.decDigits_length] at this
      simpa using this
    · rw [dec_big h, dec_big (u := b) (by omega)]
      have := ih (a / 10) (by omega) (b / 10) (by omega)
      simp; omega
/-- Own texts in the numbers' order. -/
theorem dec_order {a b : Nat} (ha : a ≤ 18446744073709551615) (hb : b ≤ 18446744073709551615) :
    (decide ((Lib.decDigits a).length < (Lib.decDigits b).length) || (decide ((Lib.decDigits a).length = (Lib.decDigits b).length) && Op.bytesLess (Lib.decDigits a) (Lib.decDigits b))) = decide (a < b) := by
  by_cases h : (Lib.decDigits a).length = (Lib.decDigits b).length
  · rw [dec_less a b ha hb h]
    simp [h]
  · by_cases h2 : (Lib.decDigits a).length < (Lib.decDigits b).length
    · have : a < b := by
        apply Nat.lt_of_not_le
        intro e
        have := dec_mono b a e
        omega
      simp [h2, this]
    · have : ¬ a < b := by
        intro e
        have := dec_mono a b (by omega)
        omega
      simp [h, h2, this]
end Go.Proofs.YtmjklkcjinfmaaaDoor
