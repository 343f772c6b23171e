/- Contracts of package nums and of its chapter's answers: signed numbers, and those of 32 bits. -/
import Derived.Test.YtifbcejekdhnlaaDoorNm
namespace Go.Proofs.YtifbcejekdhnlaaDoor
open Go.RowKit
set_option linter.unusedVariables false

theorem tail_eq (s : ByteArray) : (s.extract 1 s.size).data.toList = s.data.toList.tail := by
  simp [ByteArray.data_extract, List.drop_one]
  exact List.take_of_length_le (by simp)
theorem head_at {s : ByteArray} (h : 0 < s.size) : s.data.toList.head? = some s[0] := by
  rw [List.head?_eq_getElem?, List.getElem?_eq_getElem (by simpa using h)]
  rfl
theorem signedF_neg {s : ByteArray} (h : 0 < s.size) (h2 : s[0] = 45) : signedF s.data.toList = signedOf true (parseF (s.extract 1 s.size).data.toList) := by
  rw [tail_eq]; unfold signedF; rw [head_at h, h2, if_pos rfl]
theorem signedF_pos {s : ByteArray} (h : 0 < s.size) (h2 : s[0] ≠ 45) : signedF s.data.toList = signedOf false (parseF s.data.toList) := by
  unfold signedF; rw [head_at h, if_neg (by simpa using h2)]
theorem signedF_nil {s : ByteArray} (h : s.size = 0) : signedF s.data.toList = signedOf false (parseF s.data.toList) := by
  have e : s.data.toList = [] := List.eq_nil_of_length_eq_zero (by simpa using h)
  rw [e]; rfl
theorem sg_none {b : Bool} {p : Int × Bool} (h : p.2 = false) : signedOf b p = (0, false) := by unfold signedOf; rw [if_pos h]
theorem sg_neg {p : Int × Bool} (h : p.2 = true) (h2 : p.1 ≤ 9223372036854775808) : signedOf true p = (-p.1, true) := by unfold signedOf; rw [if_neg (by simp [h]), if_pos ⟨rfl, h2⟩]
theorem sg_low {p : Int × Bool} (h : p.2 = true) (h2 : ¬ p.1 ≤ 9223372036854775808) : signedOf true p = (0, false) := by unfold signedOf; rw [if_neg (by simp [h]), if_neg (by simp; omega), if_neg (by simp)]
theorem sg_pos {p : Int × Bool} (h : p.2 = true) (h2 : p.1 < 9223372036854775808) : signedOf false p = (p.1, true) := by unfold signedOf; rw [if_neg (by simp [h]), if_neg (by simp), if_pos ⟨rfl, h2⟩]
theorem sg_high {p : Int × Bool} (h : p.2 = true) (h2 : ¬ p.1 < 9223372036854775808) : signedOf false p = (0, false) := by unfold signedOf; rw [if_neg (by simp [h]), if_neg (by simp), if_neg (by simp; omega)]
theorem ne45 {c : UInt8} (h : c ≠ 45) : ((c.toNat : Int) == 45) = false := by
  rw [beq_eq_false_iff_ne]
  intro e
  exact h (UInt8.toNat_inj.mp (by show c.toNat = 45; omega))
theorem extract_maxLen {s : ByteArray} {f k : Nat} (h : s.size ≤ maxLen) : (s.extract f k).size ≤ maxLen := by simp [ByteArray.size_extract]; omega
set_option maxHeartbeats 1000000 in
set_option maxRecDepth 100000 in
theorem signedw (s : ByteArray) (w : World) (hs : s.size ≤ maxLen) :
    Calls Tryd.prog 114 #[.string s] w fun e w' => e = .returned (.tuple #[.int .i64 (signedF s.data.toList).1, .bool (signedF s.data.toList).2]) ∧ Below w.heap.size w w' := by
  have hs' := hs
  unfold maxLen at hs'
  by_cases h0 : s.size = 0
  · have hSg := signedF_nil h0
    have b0 : decide (0 < (s.size : Int)) = false := decide_eq_false (by omega)
    have b1 : decide (0 < s.size) = false := decide_eq_false (by omega)
    clear h0
    obtain ⟨p, hp⟩ : ∃ p, p = parseF s.data.toList := ⟨_, rfl⟩
    have pr := parseF_range s.data.toList
    rw [← hp] at pr hSg
    obtain ⟨u, b⟩ := p
    obtain ⟨p0, p1⟩ := pr
    simp only at p0 p1
    have HP := Lib.hid hp
    have HS := Lib.hid hSg
    clear hp hSg
    cases b with
    | false =>
      go_enter Tryd.func114, Tryd.ntmps114
      go_wp2_with (go_at_call 115; refine (parsew _ _ hs).mono ?_; rintro e w1 ⟨rfl, hb⟩; rw [← HP.out])
      go_ret2
      rw [HS.out]
      rw [sg_none rfl]
      exact ⟨rfl, hb⟩
    | true =>
      by_cases hl : u < 9223372036854775808
      · have q1 : u ≤ 9223372036854775807 := by omega
        have q4 : decide (9223372036854775807 < u) = false := decide_eq_false (by omega)
        have q5 : decide (u < 9223372036854775808) = true := decide_eq_true (by omega)
        go_enter Tryd.func114, Tryd.ntmps114
        go_wp2_with (go_at_call 115; refine (parsew _ _ hs).mono ?_; rintro e w1 ⟨rfl, hb⟩; rw [← HP.out])
        go_ret2
        rw [HS.out]
        rw [sg_pos rfl hl]
        exact ⟨rfl, hb⟩
      · have q4 : decide (9223372036854775807 < u) = true := decide_eq_true (by omega)
        have q5 : decide (u < 9223372036854775808) = false := decide_eq_false (by omega)
        go_enter Tryd.func114, Tryd.ntmps114
        go_wp2_with (go_at_call 115; refine (parsew _ _ hs).mono ?_; rintro e w1 ⟨rfl, hb⟩; rw [← HP.out])
        go_ret2
        rw [HS.out]
        rw [sg_high (p := (u, true)) rfl (by show ¬ u < _; omega)]
        exact ⟨rfl, hb⟩
  have h1 : 0 < s.size := by omega
  have b0 : decide (0 < (s.size : Int)) = true := decide_eq_true (by omega)
  clear h0
  by_cases hc : s[0] = 45
  · have hSg := signedF_neg h1 hc
    have hb45 : ((s[0].toNat : Int) == 45) = true := by rw [hc]; rfl
    clear hc
    obtain ⟨p, hp⟩ : ∃ p, p = parseF (s.extract 1 s.size).data.toList := ⟨_, rfl⟩
    have pr := parseF_range (s.extract 1 s.size).data.toList
    rw [← hp] at pr hSg
    obtain ⟨u, b⟩ := p
    obtain ⟨p0, p1⟩ := pr
    simp only at p0 p1
    have HP := Lib.hid hp
    have HS := Lib.hid hSg
    clear hp hSg
    cases b with
    | false =>
      go_enter Tryd.func114, Tryd.ntmps114
      go_wp2_with (go_at_call 115; refine (parsew _ _ (extract_maxLen hs)).mono ?_; rintro e w1 ⟨rfl, hb⟩; rw [← HP.out])
      go_ret2
      rw [HS.out]
      rw [sg_none rfl]
      exact ⟨rfl, hb⟩
    | true =>
      by_cases hq : u = 9223372036854775808
      · subst hq
        go_enter Tryd.func114, Tryd.ntmps114
        go_wp2_with (go_at_call 115; refine (parsew _ _ (extract_maxLen hs)).mono ?_; rintro e w1 ⟨rfl, hb⟩; rw [← HP.out])
        go_ret2
        rw [HS.out]
        rw [sg_neg rfl (by decide)]
        exact ⟨ret_nb (by first | rfl | (simp [wrap64]; done) | (unfold wrap64; decide)), hb⟩
      by_cases hz : u = 0
      · subst hz
        go_enter Tryd.func114, Tryd.ntmps114
        go_wp2_with (go_at_call 115; refine (parsew _ _ (extract_maxLen hs)).mono ?_; rintro e w1 ⟨rfl, hb⟩; rw [← HP.out])
        go_ret2
        rw [HS.out]
        rw [sg_neg rfl (by decide)]
        exact ⟨ret_nb (by first | rfl | (simp [wrap64]; done) | (unfold wrap64; decide)), hb⟩
      by_cases hl : u < 9223372036854775808
      · have q1 : u ≤ 9223372036854775807 := by omega
        have q2 : 1 ≤ u := by omega
        have q3 : (u == 0) = false := beq_eq_false_iff_ne.mpr hz
        have q4 : decide (9223372036854775808 < u) = false := decide_eq_false (by omega)
        have q5 : decide (u ≤ 9223372036854775808) = true := decide_eq_true (by omega)
        clear hq hz
        go_enter Tryd.func114, Tryd.ntmps114
        go_wp2_with (go_at_call 115; refine (parsew _ _ (extract_maxLen hs)).mono ?_; rintro e w1 ⟨rfl, hb⟩; rw [← HP.out])
        go_ret2
        rw [HS.out]
        rw [sg_neg rfl (by show u ≤ _; omega)]
        exact ⟨ret_nb (by first | rfl | (show (_, _) = (_, _); congr 1; omega)), hb⟩
      · have q4 : decide (9223372036854775808 < u) = true := decide_eq_true (by omega)
        have q5 : decide (u ≤ 9223372036854775808) = false := decide_eq_false (by omega)
        have HQ := Lib.hid hq
        clear hq hz
        go_enter Tryd.func114, Tryd.ntmps114
        go_wp2_with (go_at_call 115; refine (parsew _ _ (extract_maxLen hs)).mono ?_; rintro e w1 ⟨rfl, hb⟩; rw [← HP.out])
        go_ret2
        rw [HS.out]
        rw [sg_low rfl (by show ¬ u ≤ _; have := HQ.out; omega)]
        exact ⟨rfl, hb⟩
  · have hSg := signedF_pos h1 hc
    have hb45 : ((s[0].toNat : Int) == 45) = false := ne45 hc
    clear hc
    obtain ⟨p, hp⟩ : ∃ p, p = parseF s.data.toList := ⟨_, rfl⟩
    have pr := parseF_range s.data.toList
    rw [← hp] at pr hSg
    obtain ⟨u, b⟩ := p
    obtain ⟨p0, p1⟩ := pr
    simp only at p0 p1
    have HP := Lib.hid hp
    have HS := Lib.hid hSg
    clear hp hSg
    cases b with
    | false =>
      go_enter Tryd.func114, Tryd.ntmps114
      go_wp2_with (go_at_call 115; refine (parsew _ _ hs).mono ?_; rintro e w1 ⟨rfl, hb⟩; rw [← HP.out])
      go_ret2
      rw [HS.out]
      rw [sg_none rfl]
      exact ⟨rfl, hb⟩
    | true =>
      by_cases hl : u < 9223372036854775808
      · have q1 : u ≤ 9223372036854775807 := by omega
        have q4 : decide (9223372036854775807 < u) = false := decide_eq_false (by omega)
        have q5 : decide (u < 9223372036854775808) = true := decide_eq_true (by omega)
        go_enter Tryd.func114, Tryd.ntmps114
        go_wp2_with (go_at_call 115; refine (parsew _ _ hs).mono ?_; rintro e w1 ⟨rfl, hb⟩; rw [← HP.out])
        go_ret2
        rw [HS.out]
        rw [sg_pos rfl hl]
        exact ⟨rfl, hb⟩
      · have q4 : decide (9223372036854775807 < u) = true := decide_eq_true (by omega)
        have q5 : decide (u < 9223372036854775808) = false := decide_eq_false (by omega)
        go_enter Tryd.func114, Tryd.ntmps114
        go_wp2_with (go_at_call 115; refine (parsew _ _ hs).mono ?_; rintro e w1 ⟨rfl, hb⟩; rw [← HP.out])
        go_ret2
        rw [HS.out]
        rw [sg_high (p := (u, true)) rfl (by show ¬ u < _; omega)]
        exact ⟨rfl, hb⟩
set_option maxHeartbeats 1000000 in
set_option maxRecDepth 100000 in
theorem p32w (s : ByteArray) (w : World) (hs : s.size ≤ maxLen) :
    Calls Tryd.prog 113 #[.string s] w fun e w' => e = .returned (.tuple #[.int .u32 (p32F s.data.toList).1, .bool (p32F s.data.toList).2]) ∧ Below w.heap.size w w' := by
  obtain ⟨p, hp⟩ : ∃ p, p = parseF s.data.toList := ⟨_, rfl⟩
  have pr := parseF_range s.data.toList
  have hS : p32F s.data.toList = if p.2 = false ∨ 4294967295 < p.1 then (0, false) else p := by rw [hp]; rfl
  rw [← hp] at pr
  obtain ⟨u, b⟩ := p
  obtain ⟨p0, p1⟩ := pr
  simp only at p0 p1 hS
  have HP := Lib.hid hp
  have HS := Lib.hid hS
  clear hp hS
  cases b with
  | false =>
    go_enter Tryd.func113, Tryd.ntmps113
    go_wp2_with (go_at_call 115; refine (parsew _ _ hs).mono ?_; rintro e w1 ⟨rfl, hb⟩; rw [← HP.out])
    go_ret2
    rw [HS.out, if_pos (by simp)]
    exact ⟨rfl, hb⟩
  | true =>
    by_cases hl : 4294967295 < u
    · have q0 : 4294967296 ≤ u := by omega
      have q1 : decide (4294967296 ≤ u) = true := decide_eq_true q0
      go_enter Tryd.func113, Tryd.ntmps113
      go_wp2_with (go_at_call 115; refine (parsew _ _ hs).mono ?_; rintro e w1 ⟨rfl, hb⟩; rw [← HP.out])
      go_ret2
      rw [HS.out, if_pos (.inr hl)]
      exact ⟨rfl, hb⟩
    · have q0 : u ≤ 4294967295 := by omega
      have q2 : decide (4294967295 < u) = false := decide_eq_false hl
      have q1 : decide (4294967296 ≤ u) = false := decide_eq_false (by omega)
      have HL := Lib.hid hl
      clear hl
      go_enter Tryd.func113, Tryd.ntmps113
      go_wp2_with (go_at_call 115; refine (parsew _ _ hs).mono ?_; rintro e w1 ⟨rfl, hb⟩; rw [← HP.out])
      go_ret2
      rw [HS.out, if_neg (by simp; exact q0)]
      exact ⟨rfl, hb⟩
end Go.Proofs.YtifbcejekdhnlaaDoor
