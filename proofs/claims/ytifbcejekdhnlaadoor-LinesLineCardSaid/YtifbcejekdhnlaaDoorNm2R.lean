/- Contracts of the chapter's answers on numbers: signed numbers, and those of 32 bits. -/
import Derived.Test.YtifbcejekdhnlaaDoorNmRef
import Derived.Test.YtifbcejekdhnlaaDoorNm2
namespace Go.Proofs.YtifbcejekdhnlaaDoor
open Go.RowKit
set_option linter.unusedVariables false

set_option maxHeartbeats 1000000 in
set_option maxRecDepth 100000 in
theorem refsigned (s : ByteArray) (w : World) (hs : s.size ≤ maxLen) :
    Calls Tryd.prog 69 #[.string s] w fun e w' => e = .returned (.tuple #[.int .i64 (signedF s.data.toList).1, .bool (signedF s.data.toList).2]) ∧ Below w.heap.size w w' := by
  have hs' := hs
  unfold maxLen at hs'
  by_cases h0 : s.size = 0
  · have hSg := signedF_nil h0
    have b0 : decide (0 < (s.size : Int)) = false := decide_eq_false (by omega)
    have b1 : decide (0 < s.size) = false := decide_eq_false (by omega)
    clear h0
    obtain ⟨p, hp⟩ : ∃ p, p = parseF s.data.toList := ⟨_, rfl⟩
    have pr := parseF_range s.data.toList
    rw [← hp] at pr hSg
    obtain ⟨u, b⟩ := p
    obtain ⟨p0, p1⟩ := pr
    simp only at p0 p1
    have HP := Lib.hid hp
    have HS := Lib.hid hSg
    clear hp hSg
    cases b with
    | false =>
      go_enter Tryd.func69, Tryd.ntmps69
      go_wp2_with (go_at_call 70; refine (refparse _ _ hs).mono ?_; rintro e w1 ⟨rfl, hb⟩; rw [← HP.out])
      go_ret2
      rw [HS.out]
      rw [sg_none rfl]
      exact ⟨rfl, hb⟩
    | true =>
      by_cases hl : u < 9223372036854775808
      · have q1 : u ≤ 9223372036854775807 := by omega
        have q4 : decide (9223372036854775807 < u) = false := decide_eq_false (by omega)
        have q5 : decide (u < 9223372036854775808) = true := decide_eq_true (by omega)
        go_enter Tryd.func69, Tryd.ntmps69
        go_wp2_with (go_at_call 70; refine (refparse _ _ hs).mono ?_; rintro e w1 ⟨rfl, hb⟩; rw [← HP.out])
        go_ret2
        rw [HS.out]
        rw [sg_pos rfl hl]
        exact ⟨rfl, hb⟩
      · have q4 : decide (9223372036854775807 < u) = true := decide_eq_true (by omega)
        have q5 : decide (u < 9223372036854775808) = false := decide_eq_false (by omega)
        go_enter Tryd.func69, Tryd.ntmps69
        go_wp2_with (go_at_call 70; refine (refparse _ _ hs).mono ?_; rintro e w1 ⟨rfl, hb⟩; rw [← HP.out])
        go_ret2
        rw [HS.out]
        rw [sg_high (p := (u, true)) rfl (by show ¬ u < _; omega)]
        exact ⟨rfl, hb⟩
  have h1 : 0 < s.size := by omega
  have b0 : decide (0 < (s.size : Int)) = true := decide_eq_true (by omega)
  clear h0
  by_cases hc : s[0] = 45
  · have hSg := signedF_neg h1 hc
    have hb45 : ((s[0].toNat : Int) == 45) = true := by rw [hc]; rfl
    clear hc
    obtain ⟨p, hp⟩ : ∃ p, p = parseF (s.extract 1 s.size).data.toList := ⟨_, rfl⟩
    have pr := parseF_range (s.extract 1 s.size).data.toList
    rw [← hp] at pr hSg
    obtain ⟨u, b⟩ := p
    obtain ⟨p0, p1⟩ := pr
    simp only at p0 p1
    have HP := Lib.hid hp
    have HS := Lib.hid hSg
    clear hp hSg
    cases b with
    | false =>
      go_enter Tryd.func69, Tryd.ntmps69
      go_wp2_with (go_at_call 70; refine (refparse _ _ (extract_maxLen hs)).mono ?_; rintro e w1 ⟨rfl, hb⟩; rw [← HP.out])
      go_ret2
      rw [HS.out]
      rw [sg_none rfl]
      exact ⟨rfl, hb⟩
    | true =>
      by_cases hq : u = 9223372036854775808
      · subst hq
        go_enter Tryd.func69, Tryd.ntmps69
        go_wp2_with (go_at_call 70; refine (refparse _ _ (extract_maxLen hs)).mono ?_; rintro e w1 ⟨rfl, hb⟩; rw [← HP.out])
        go_ret2
        rw [HS.out]
        rw [sg_neg rfl (by decide)]
        exact ⟨ret_nb (by first | rfl | (simp [wrap64]; done) | (unfold wrap64; decide)), hb⟩
      by_cases hz : u = 0
      · subst hz
        go_enter Tryd.func69, Tryd.ntmps69
        go_wp2_with (go_at_call 70; refine (refparse _ _ (extract_maxLen hs)).mono ?_; rintro e w1 ⟨rfl, hb⟩; rw [← HP.out])
        go_ret2
        rw [HS.out]
        rw [sg_neg rfl (by decide)]
        exact ⟨ret_nb (by first | rfl | (simp [wrap64]; done) | (unfold wrap64; decide)), hb⟩
      by_cases hl : u < 9223372036854775808
      · have q1 : u ≤ 9223372036854775807 := by omega
        have q2 : 1 ≤ u := by omega
        have q3 : (u == 0) = false := beq_eq_false_iff_ne.mpr hz
        have q4 : decide (9223372036854775808 < u) = false := decide_eq_false (by omega)
        have q5 : decide (u ≤ 9223372036854775808) = true := decide_eq_true (by omega)
        clear hq hz
        go_enter Tryd.func69, Tryd.ntmps69
        go_wp2_with (go_at_call 70; refine (refparse _ _ (extract_maxLen hs)).mono ?_; rintro e w1 ⟨rfl, hb⟩; rw [← HP.out])
        go_ret2
        rw [HS.out]
        rw [sg_neg rfl (by show u ≤ _; omega)]
        exact ⟨ret_nb (by first | rfl | (show (_, _) = (_, _); congr 1; omega)), hb⟩
      · have q4 : decide (9223372036854775808 < u) = true := decide_eq_true (by omega)
        have q5 : decide (u ≤ 9223372036854775808) = false := decide_eq_false (by omega)
        have HQ := Lib.hid hq
        clear hq hz
        go_enter Tryd.func69, Tryd.ntmps69
        go_wp2_with (go_at_call 70; refine (refparse _ _ (extract_maxLen hs)).mono ?_; rintro e w1 ⟨rfl, hb⟩; rw [← HP.out])
        go_ret2
        rw [HS.out]
        rw [sg_low rfl (by show ¬ u ≤ _; have := HQ.out; omega)]
        exact ⟨rfl, hb⟩
  · have hSg := signedF_pos h1 hc
    have hb45 : ((s[0].toNat : Int) == 45) = false := ne45 hc
    clear hc
    obtain ⟨p, hp⟩ : ∃ p, p = parseF s.data.toList := ⟨_, rfl⟩
    have pr := parseF_range s.data.toList
    rw [← hp] at pr hSg
    obtain ⟨u, b⟩ := p
    obtain ⟨p0, p1⟩ := pr
    simp only at p0 p1
    have HP := Lib.hid hp
    have HS := Lib.hid hSg
    clear hp hSg
    cases b with
    | false =>
      go_enter Tryd.func69, Tryd.ntmps69
      go_wp2_with (go_at_call 70; refine (refparse _ _ hs).mono ?_; rintro e w1 ⟨rfl, hb⟩; rw [← HP.out])
      go_ret2
      rw [HS.out]
      rw [sg_none rfl]
      exact ⟨rfl, hb⟩
    | true =>
      by_cases hl : u < 9223372036854775808
      · have q1 : u ≤ 9223372036854775807 := by omega
        have q4 : decide (9223372036854775807 < u) = false := decide_eq_false (by omega)
        have q5 : decide (u < 9223372036854775808) = true := decide_eq_true (by omega)
        go_enter Tryd.func69, Tryd.ntmps69
        go_wp2_with (go_at_call 70; refine (refparse _ _ hs).mono ?_; rintro e w1 ⟨rfl, hb⟩; rw [← HP.out])
        go_ret2
        rw [HS.out]
        rw [sg_pos rfl hl]
        exact ⟨rfl, hb⟩
      · have q4 : decide (9223372036854775807 < u) = true := decide_eq_true (by omega)
        have q5 : decide (u < 9223372036854775808) = false := decide_eq_false (by omega)
        go_enter Tryd.func69, Tryd.ntmps69
        go_wp2_with (go_at_call 70; refine (refparse _ _ hs).mono ?_; rintro e w1 ⟨rfl, hb⟩; rw [← HP.out])
        go_ret2
        rw [HS.out]
        rw [sg_high (p := (u, true)) rfl (by show ¬ u < _; omega)]
        exact ⟨rfl, hb⟩
set_option maxHeartbeats 1000000 in
set_option maxRecDepth 100000 in
theorem refp32 (s : ByteArray) (w : World) (hs : s.size ≤ maxLen) :
    Calls Tryd.prog 68 #[.string s] w fun e w' => e = .returned (.tuple #[.int .u32 (p32F s.data.toList).1, .bool (p32F s.data.toList).2]) ∧ Below w.heap.size w w' := by
  obtain ⟨p, hp⟩ : ∃ p, p = parseF s.data.toList := ⟨_, rfl⟩
  have pr := parseF_range s.data.toList
  have hS : p32F s.data.toList = if p.2 = false ∨ 4294967295 < p.1 then (0, false) else p := by rw [hp]; rfl
  rw [← hp] at pr
  obtain ⟨u, b⟩ := p
  obtain ⟨p0, p1⟩ := pr
  simp only at p0 p1 hS
  have HP := Lib.hid hp
  have HS := Lib.hid hS
  clear hp hS
  cases b with
  | false =>
    go_enter Tryd.func68, Tryd.ntmps68
    go_wp2_with (go_at_call 70; refine (refparse _ _ hs).mono ?_; rintro e w1 ⟨rfl, hb⟩; rw [← HP.out])
    go_ret2
    rw [HS.out, if_pos (by simp)]
    exact ⟨rfl, hb⟩
  | true =>
    by_cases hl : 4294967295 < u
    · have q0 : 4294967296 ≤ u := by omega
      have q1 : decide (4294967296 ≤ u) = true := decide_eq_true q0
      go_enter Tryd.func68, Tryd.ntmps68
      go_wp2_with (go_at_call 70; refine (refparse _ _ hs).mono ?_; rintro e w1 ⟨rfl, hb⟩; rw [← HP.out])
      go_ret2
      rw [HS.out, if_pos (.inr hl)]
      exact ⟨rfl, hb⟩
    · have q0 : u ≤ 4294967295 := by omega
      have q2 : decide (4294967295 < u) = false := decide_eq_false hl
      have q1 : decide (4294967296 ≤ u) = false := decide_eq_false (by omega)
      have HL := Lib.hid hl
      clear hl
      go_enter Tryd.func68, Tryd.ntmps68
      go_wp2_with (go_at_call 70; refine (refparse _ _ hs).mono ?_; rintro e w1 ⟨rfl, hb⟩; rw [← HP.out])
      go_ret2
      rw [HS.out, if_neg (by simp; exact q0)]
      exact ⟨rfl, hb⟩
end Go.Proofs.YtifbcejekdhnlaaDoor
