/- The law NumsBack. -/
import Derived.Test.YteofbgbjibbdaaaDoorWNumsByte
namespace Go.Proofs.YteofbgbjibbdaaaDoor
open Go.RowKit
set_option linter.unusedVariables false

theorem rep48 (m : Nat) : Lib.repeatL [48] m = List.replicate m 48 := by
  have := Lib.repeatL_replicate 48 1 m
  simpa using this
theorem more_eq (m : Nat) (l : List UInt8) : ((⟨(Lib.repeatL [48] m).toArray⟩ : ByteArray) ++ (⟨l.toArray⟩ : ByteArray)).data.toList = List.replicate m 48 ++ l := by
  rw [rep48]; simp
theorem minus_eq (l : List UInt8) : ((⟨#[45]⟩ : ByteArray) ++ (⟨l.toArray⟩ : ByteArray)).data.toList = 45 :: l := by simp
theorem size_list (s : ByteArray) : s.size = s.data.toList.length := by rw [Array.length_toList]; rfl
/-- What the noughts ahead come to. -/
theorem more_facts {n m : Nat} (hn : n ≤ 18446744073709551615) (hm : m ≤ 24) {M : ByteArray} (hM : M.data.toList = List.replicate m 48 ++ Lib.decDigits n) :
    M.size ≤ maxLen ∧ (decide ((M.size : Int) ≤ 20) = true ∧ parseF M.data.toList = ((n : Int), true) ∨ decide ((M.size : Int) ≤ 20) = false ∧ parseF M.data.toList = (0, false)) := by
  have hl := (dec_len hn).2
  have hs : M.size = m + (Lib.decDigits n).length := by rw [size_list, hM]; simp
  have hp := parse_noughts m hn
  refine ⟨Nat.le_trans (show M.size ≤ 44 by omega) (by unfold maxLen; decide), ?_⟩
  rw [hM, hp]
  by_cases h : m + (Lib.decDigits n).length ≤ 20
  · rw [if_pos h]; exact .inl ⟨decide_eq_true (by omega), rfl⟩
  · rw [if_neg h]; exact .inr ⟨decide_eq_false (by omega), rfl⟩
theorem minus_facts {n : Nat} (hn : n ≤ 18446744073709551615) {M : ByteArray} (hM : M.data.toList = 45 :: Lib.decDigits n) : M.size ≤ maxLen ∧ signedF M.data.toList = signedOf true ((n : Int), true) := by
  have hl := (dec_len hn).2
  refine ⟨Nat.le_trans (show M.size ≤ 44 by rw [size_list, hM]; simp; omega) (by unfold maxLen; decide), by rw [hM]; exact signed_minus hn⟩
set_option maxHeartbeats 8000000 in
set_option maxRecDepth 100000 in
theorem back_0  (m : Nat) (hm : m ≤ 24) (a1 : Int) (l1 : 0 ≤ a1) (u1 : a1 ≤ 255) (ham : (m : Int) = a1 % 25) (w : World) (htab : Lib.TabIs Tryd.prog w "internal/strconv.uint64pow10" .u64 Lib.pow10Tab) :
    Calls Tryd.prog 5 #[.int .u64 0, .int .u8 a1] w fun e w' => e = .returned (.bool true) ∧ Below w.heap.size w w' := by
  have un : (0 : Nat) < 18446744073709551616 := by omega
  have un' : (0 : Nat) ≤ 18446744073709551615 := by omega
  have hd0 : Lib.decDigits 0 = [48] := dec_small (by omega)
  have hSs : ((⟨#[48]⟩ : ByteArray)).size ≤ maxLen := by unfold maxLen; decide
  have HP : Hid (parseF ((⟨#[48]⟩ : ByteArray)).data.toList = (0, true)) := by show parseF [48] = _; decide
  have HSp : Hid (signedF ((⟨#[48]⟩ : ByteArray)).data.toList = (0, true)) := by show signedF [48] = _; decide
  have H32 : Hid (p32F ((⟨#[48]⟩ : ByteArray)).data.toList = (0, true)) := by show p32F [48] = _; decide
  have HD := Lib.hid hd0
  clear hd0
  have HNEG : Hid (signedOf true (((0 : Nat) : Int), true) = (0, true)) := by show _ = _; rw [sg_neg rfl (by decide), Int.natCast_zero, Int.neg_zero]
  have UN := Lib.hid un
  have UN' := Lib.hid un'
  clear un un'
  have HM := Lib.hid ham
  clear ham
  go_enter Tryd.func5, Tryd.ntmps5
  go_wp2_with fail
  refine (textw 0 UN.out _ htab).mono ?_
  rintro e w1 ⟨rfl, hb1⟩
  rw [HD.out]
  go_wp2_with fail
  refine (parsew _ _ hSs).mono ?_
  rintro e w2 ⟨rfl, hb2⟩
  rw [HP.out]
  have k2 := below_then hb1 hb2
  clear hb1 hb2
  go_wp2_with fail
  rw [← HM.out]
  refine (Tryd.strings_Repeat _ m _ (by omega) (by show 1 * m ≤ _; omega)).mono ?_
  rintro e w3 ⟨rfl, hb3⟩
  rw [show (({ data := #[48] } : ByteArray).data.toList) = [48] from rfl]
  have k3 := below_then k2 hb3
  clear k2 hb3
  obtain ⟨G, hG⟩ : ∃ G : ByteArray, G = ⟨(Lib.repeatL [48] m).toArray⟩ := ⟨_, rfl⟩
  rw [← hG]
  have hgs : G.size ≤ 24 := by rw [hG]; show (Lib.repeatL [48] m).toArray.size ≤ 24; rw [List.size_toArray, Lib.repeatL_length]; simp; omega
  have HG := Lib.hid hG
  clear hG
  go_wp2_with fail
  obtain ⟨M, hM⟩ : ∃ M : ByteArray, M = G ++ (⟨#[48]⟩ : ByteArray) := ⟨_, rfl⟩
  rw [← hM]
  have hMl : M.data.toList = List.replicate m 48 ++ Lib.decDigits 0 := by rw [hM, HG.out, HD.out]; exact more_eq m _
  obtain ⟨hMs, hmore⟩ := more_facts UN'.out hm hMl
  clear hM hMl HG
  rcases hmore with ⟨hz, hp⟩ | ⟨hz, hp⟩
  all_goals
    have HQ := Lib.hid hp
    clear hp
    refine (parsew _ _ hMs).mono ?_
    rintro e w4 ⟨rfl, hb4⟩
    rw [HQ.out]
    have k4 := below_then k3 hb4
    clear k3 hb4
    go_wp2_with fail
    obtain ⟨T, hT⟩ : ∃ T : ByteArray, T = ⟨#[45]⟩ ++ (⟨#[48]⟩ : ByteArray) := ⟨_, rfl⟩
    rw [← hT]
    have hTl : T.data.toList = 45 :: Lib.decDigits 0 := by rw [hT, HD.out]; exact minus_eq _
    obtain ⟨hTs, hsg⟩ := minus_facts UN'.out hTl
    rw [HNEG.out] at hsg
    have HSg := Lib.hid hsg
    clear hT hTl hsg
    refine (signedw _ _ hTs).mono ?_
    rintro e w5 ⟨rfl, hb5⟩
    rw [HSg.out]
    have k5 := below_then k4 hb5
    clear k4 hb5
    go_wp2_with fail
    refine (signedw _ _ hSs).mono ?_
    rintro e w6 ⟨rfl, hb6⟩
    rw [HSp.out]
    have k6 := below_then k5 hb6
    clear k5 hb6
    go_wp2_with fail
    refine (p32w _ _ hSs).mono ?_
    rintro e w7 ⟨rfl, hb7⟩
    rw [H32.out]
    have k7 := below_then k6 hb7
    clear k6 hb7
    go_wp2_with fail
    refine (lives04 _).mono ?_
    rintro e w8 ⟨rfl, hb8⟩
    have k8 := below_then k7 hb8
    clear k7 hb8
    go_wp2_with fail
    go_ret
    exact ⟨rfl, k8⟩
set_option maxHeartbeats 8000000 in
set_option maxRecDepth 100000 in
theorem back_1 (n : Nat) (r0 : 0 < n) (r1 : n < 4294967296) (m : Nat) (hm : m ≤ 24) (a1 : Int) (l1 : 0 ≤ a1) (u1 : a1 ≤ 255) (ham : (m : Int) = a1 % 25) (w : World) (htab : Lib.TabIs Tryd.prog w "internal/strconv.uint64pow10" .u64 Lib.pow10Tab) :
    Calls Tryd.prog 5 #[.int .u64 n, .int .u8 a1] w fun e w' => e = .returned (.bool true) ∧ Below w.heap.size w w' := by
  have un : n < 18446744073709551616 := by omega
  have un' : n ≤ 18446744073709551615 := by omega
  have c1 : decide ((n : Int) ≤ 9223372036854775808) = true := decide_eq_true (by omega)
  have c2 : decide ((n : Int) < 9223372036854775808) = true := decide_eq_true (by omega)
  have c3 : decide ((n : Int) < 4294967296) = true := decide_eq_true (by omega)
  have c4 : (n : Int) ≤ 9223372036854775807 := by omega
  have c5 : (n : Int) ≤ 4294967295 := by omega
  have hS0 : 0 < n := by omega
  obtain ⟨S, hS⟩ : ∃ S : ByteArray, S = ⟨(Lib.decDigits n).toArray⟩ := ⟨_, rfl⟩
  have hSl : S.data.toList = Lib.decDigits n := by rw [hS]
  obtain ⟨s1, s2, hs20⟩ := text_facts un' hS
  have hSs : S.size ≤ maxLen := Nat.le_trans hs20 (by unfold maxLen; decide)
  have hpos : 0 < S.size := by rw [s2]; exact (dec_len un').1
  have hhead : ((S[0].toNat : Int) == 48) = false := by
    obtain ⟨k, t, hk, e, hk0⟩ := dec_head n
    have : S[0] = UInt8.ofNat (48 + k) := by
      have h1 : S.data.toList.head? = some S[0] := head_at hpos
      rw [hSl, e] at h1
      simpa using h1.symm
    rw [this, beq_eq_false_iff_ne, digit_byte hk]
    have := hk0 hS0
    omega
  have b0 : decide (0 < (n : Int)) = true := decide_eq_true (by omega)
  have b1 : ((n : Int) == 0) = false := beq_eq_false_iff_ne.mpr (by omega)
  have b2 : ((S.size : Int) == 0) = false := beq_eq_false_iff_ne.mpr (by omega)
  have HP : Hid (parseF S.data.toList = ((n : Int), true)) := by show _ = _; rw [hSl]; exact parse_dec un'
  have HSp : Hid (signedF S.data.toList = ((n : Int), true)) := by show _ = _; rw [hSl, signed_dec un', sg_pos rfl (by show (n : Int) < _; omega)]
  have H32 : Hid (p32F S.data.toList = ((n : Int), true)) := by
    show _ = _
    unfold p32F
    rw [hSl, parse_dec un']
    rw [if_neg (by simp; omega)]
  have HS := Lib.hid hS
  clear hS hSl s1 s2
  obtain ⟨c, hc⟩ : ∃ c : Int, c = -(n : Int) := ⟨_, rfl⟩
  have d1 : decide (0 < c) = false := decide_eq_false (by omega)
  have d2 : wrap64 (-c) = (n : Int) := by unfold wrap64; omega
  have HNEG : Hid (signedOf true (((n : Nat) : Int), true) = (c, true)) := by show _ = _; rw [sg_neg rfl (by show (n : Int) ≤ _; omega), ← hc]
  clear hc
  have UN := Lib.hid un
  have UN' := Lib.hid un'
  clear un un' r0 r1
  have HM := Lib.hid ham
  clear ham
  go_enter Tryd.func5, Tryd.ntmps5
  go_wp2_with fail
  refine (textw n UN.out _ htab).mono ?_
  rintro e w1 ⟨rfl, hb1⟩
  rw [← HS.out]
  go_wp2_with fail
  refine (parsew _ _ hSs).mono ?_
  rintro e w2 ⟨rfl, hb2⟩
  rw [HP.out]
  have k2 := below_then hb1 hb2
  clear hb1 hb2
  go_wp2_with fail
  rw [← HM.out]
  refine (Tryd.strings_Repeat _ m _ (by omega) (by show 1 * m ≤ _; omega)).mono ?_
  rintro e w3 ⟨rfl, hb3⟩
  rw [show (({ data := #[48] } : ByteArray).data.toList) = [48] from rfl]
  have k3 := below_then k2 hb3
  clear k2 hb3
  obtain ⟨G, hG⟩ : ∃ G : ByteArray, G = ⟨(Lib.repeatL [48] m).toArray⟩ := ⟨_, rfl⟩
  rw [← hG]
  have hgs : G.size ≤ 24 := by rw [hG]; show (Lib.repeatL [48] m).toArray.size ≤ 24; rw [List.size_toArray, Lib.repeatL_length]; simp; omega
  have HG := Lib.hid hG
  clear hG
  go_wp2_with fail
  obtain ⟨M, hM⟩ : ∃ M : ByteArray, M = G ++ S := ⟨_, rfl⟩
  rw [← hM]
  have hMl : M.data.toList = List.replicate m 48 ++ Lib.decDigits n := by rw [hM, HG.out, HS.out]; exact more_eq m _
  obtain ⟨hMs, hmore⟩ := more_facts UN'.out hm hMl
  clear hM hMl HG
  rcases hmore with ⟨hz, hp⟩ | ⟨hz, hp⟩
  all_goals
    have HQ := Lib.hid hp
    clear hp
    refine (parsew _ _ hMs).mono ?_
    rintro e w4 ⟨rfl, hb4⟩
    rw [HQ.out]
    have k4 := below_then k3 hb4
    clear k3 hb4
    go_wp2_with fail
    obtain ⟨T, hT⟩ : ∃ T : ByteArray, T = ⟨#[45]⟩ ++ S := ⟨_, rfl⟩
    rw [← hT]
    have hTl : T.data.toList = 45 :: Lib.decDigits n := by rw [hT, HS.out]; exact minus_eq _
    obtain ⟨hTs, hsg⟩ := minus_facts UN'.out hTl
    rw [HNEG.out] at hsg
    have HSg := Lib.hid hsg
    clear hT hTl hsg
    refine (signedw _ _ hTs).mono ?_
    rintro e w5 ⟨rfl, hb5⟩
    rw [HSg.out]
    have k5 := below_then k4 hb5
    clear k4 hb5
    go_wp2_with fail
    refine (signedw _ _ hSs).mono ?_
    rintro e w6 ⟨rfl, hb6⟩
    rw [HSp.out]
    have k6 := below_then k5 hb6
    clear k5 hb6
    go_wp2_with fail
    refine (p32w _ _ hSs).mono ?_
    rintro e w7 ⟨rfl, hb7⟩
    rw [H32.out]
    have k7 := below_then k6 hb7
    clear k6 hb7
    go_wp2_with fail
    refine (lives04 _).mono ?_
    rintro e w8 ⟨rfl, hb8⟩
    have k8 := below_then k7 hb8
    clear k7 hb8
    go_wp2_with fail
    go_ret
    exact ⟨rfl, k8⟩
set_option maxHeartbeats 8000000 in
set_option maxRecDepth 100000 in
theorem back_2 (n : Nat) (r0 : 4294967296 ≤ n) (r1 : n < 9223372036854775808) (m : Nat) (hm : m ≤ 24) (a1 : Int) (l1 : 0 ≤ a1) (u1 : a1 ≤ 255) (ham : (m : Int) = a1 % 25) (w : World) (htab : Lib.TabIs Tryd.prog w "internal/strconv.uint64pow10" .u64 Lib.pow10Tab) :
    Calls Tryd.prog 5 #[.int .u64 n, .int .u8 a1] w fun e w' => e = .returned (.bool true) ∧ Below w.heap.size w w' := by
  have un : n < 18446744073709551616 := by omega
  have un' : n ≤ 18446744073709551615 := by omega
  have c1 : decide ((n : Int) ≤ 9223372036854775808) = true := decide_eq_true (by omega)
  have c2 : decide ((n : Int) < 9223372036854775808) = true := decide_eq_true (by omega)
  have c3 : decide ((n : Int) < 4294967296) = false := decide_eq_false (by omega)
  have c4 : (n : Int) ≤ 9223372036854775807 := by omega
  have hS0 : 0 < n := by omega
  obtain ⟨S, hS⟩ : ∃ S : ByteArray, S = ⟨(Lib.decDigits n).toArray⟩ := ⟨_, rfl⟩
  have hSl : S.data.toList = Lib.decDigits n := by rw [hS]
  obtain ⟨s1, s2, hs20⟩ := text_facts un' hS
  have hSs : S.size ≤ maxLen := Nat.le_trans hs20 (by unfold maxLen; decide)
  have hpos : 0 < S.size := by rw [s2]; exact (dec_len un').1
  have hhead : ((S[0].toNat : Int) == 48) = false := by
    obtain ⟨k, t, hk, e, hk0⟩ := dec_head n
    have : S[0] = UInt8.ofNat (48 + k) := by
      have h1 : S.data.toList.head? = some S[0] := head_at hpos
      rw [hSl, e] at h1
      simpa using h1.symm
    rw [this, beq_eq_false_iff_ne, digit_byte hk]
    have := hk0 hS0
    omega
  have b0 : decide (0 < (n : Int)) = true := decide_eq_true (by omega)
  have b1 : ((n : Int) == 0) = false := beq_eq_false_iff_ne.mpr (by omega)
  have b2 : ((S.size : Int) == 0) = false := beq_eq_false_iff_ne.mpr (by omega)
  have HP : Hid (parseF S.data.toList = ((n : Int), true)) := by show _ = _; rw [hSl]; exact parse_dec un'
  have HSp : Hid (signedF S.data.toList = ((n : Int), true)) := by show _ = _; rw [hSl, signed_dec un', sg_pos rfl (by show (n : Int) < _; omega)]
  have H32 : Hid (p32F S.data.toList = ((0 : Int), false)) := by
    show _ = _
    unfold p32F
    rw [hSl, parse_dec un']
    rw [if_pos (by right; show (4294967295 : Int) < n; omega)]
  have HS := Lib.hid hS
  clear hS hSl s1 s2
  obtain ⟨c, hc⟩ : ∃ c : Int, c = -(n : Int) := ⟨_, rfl⟩
  have d1 : decide (0 < c) = false := decide_eq_false (by omega)
  have d2 : wrap64 (-c) = (n : Int) := by unfold wrap64; omega
  have HNEG : Hid (signedOf true (((n : Nat) : Int), true) = (c, true)) := by show _ = _; rw [sg_neg rfl (by show (n : Int) ≤ _; omega), ← hc]
  clear hc
  have UN := Lib.hid un
  have UN' := Lib.hid un'
  clear un un' r0 r1
  have HM := Lib.hid ham
  clear ham
  go_enter Tryd.func5, Tryd.ntmps5
  go_wp2_with fail
  refine (textw n UN.out _ htab).mono ?_
  rintro e w1 ⟨rfl, hb1⟩
  rw [← HS.out]
  go_wp2_with fail
  refine (parsew _ _ hSs).mono ?_
  rintro e w2 ⟨rfl, hb2⟩
  rw [HP.out]
  have k2 := below_then hb1 hb2
  clear hb1 hb2
  go_wp2_with fail
  rw [← HM.out]
  refine (Tryd.strings_Repeat _ m _ (by omega) (by show 1 * m ≤ _; omega)).mono ?_
  rintro e w3 ⟨rfl, hb3⟩
  rw [show (({ data := #[48] } : ByteArray).data.toList) = [48] from rfl]
  have k3 := below_then k2 hb3
  clear k2 hb3
  obtain ⟨G, hG⟩ : ∃ G : ByteArray, G = ⟨(Lib.repeatL [48] m).toArray⟩ := ⟨_, rfl⟩
  rw [← hG]
  have hgs : G.size ≤ 24 := by rw [hG]; show (Lib.repeatL [48] m).toArray.size ≤ 24; rw [List.size_toArray, Lib.repeatL_length]; simp; omega
  have HG := Lib.hid hG
  clear hG
  go_wp2_with fail
  obtain ⟨M, hM⟩ : ∃ M : ByteArray, M = G ++ S := ⟨_, rfl⟩
  rw [← hM]
  have hMl : M.data.toList = List.replicate m 48 ++ Lib.decDigits n := by rw [hM, HG.out, HS.out]; exact more_eq m _
  obtain ⟨hMs, hmore⟩ := more_facts UN'.out hm hMl
  clear hM hMl HG
  rcases hmore with ⟨hz, hp⟩ | ⟨hz, hp⟩
  all_goals
    have HQ := Lib.hid hp
    clear hp
    refine (parsew _ _ hMs).mono ?_
    rintro e w4 ⟨rfl, hb4⟩
    rw [HQ.out]
    have k4 := below_then k3 hb4
    clear k3 hb4
    go_wp2_with fail
    obtain ⟨T, hT⟩ : ∃ T : ByteArray, T = ⟨#[45]⟩ ++ S := ⟨_, rfl⟩
    rw [← hT]
    have hTl : T.data.toList = 45 :: Lib.decDigits n := by rw [hT, HS.out]; exact minus_eq _
    obtain ⟨hTs, hsg⟩ := minus_facts UN'.out hTl
    rw [HNEG.out] at hsg
    have HSg := Lib.hid hsg
    clear hT hTl hsg
    refine (signedw _ _ hTs).mono ?_
    rintro e w5 ⟨rfl, hb5⟩
    rw [HSg.out]
    have k5 := below_then k4 hb5
    clear k4 hb5
    go_wp2_with fail
    refine (signedw _ _ hSs).mono ?_
    rintro e w6 ⟨rfl, hb6⟩
    rw [HSp.out]
    have k6 := below_then k5 hb6
    clear k5 hb6
    go_wp2_with fail
    refine (p32w _ _ hSs).mono ?_
    rintro e w7 ⟨rfl, hb7⟩
    rw [H32.out]
    have k7 := below_then k6 hb7
    clear k6 hb7
    go_wp2_with fail
    refine (lives04 _).mono ?_
    rintro e w8 ⟨rfl, hb8⟩
    have k8 := below_then k7 hb8
    clear k7 hb8
    go_wp2_with fail
    go_ret
    exact ⟨rfl, k8⟩
set_option maxHeartbeats 8000000 in
set_option maxRecDepth 100000 in
theorem back_3 (n : Nat) (r0 : n = 9223372036854775808) (m : Nat) (hm : m ≤ 24) (a1 : Int) (l1 : 0 ≤ a1) (u1 : a1 ≤ 255) (ham : (m : Int) = a1 % 25) (w : World) (htab : Lib.TabIs Tryd.prog w "internal/strconv.uint64pow10" .u64 Lib.pow10Tab) :
    Calls Tryd.prog 5 #[.int .u64 n, .int .u8 a1] w fun e w' => e = .returned (.bool true) ∧ Below w.heap.size w w' := by
  have un : n < 18446744073709551616 := by omega
  have un' : n ≤ 18446744073709551615 := by omega
  have c1 : decide ((n : Int) ≤ 9223372036854775808) = true := decide_eq_true (by omega)
  have c2 : decide ((n : Int) < 9223372036854775808) = false := decide_eq_false (by omega)
  have c3 : decide ((n : Int) < 4294967296) = false := decide_eq_false (by omega)
  have hS0 : 0 < n := by omega
  obtain ⟨S, hS⟩ : ∃ S : ByteArray, S = ⟨(Lib.decDigits n).toArray⟩ := ⟨_, rfl⟩
  have hSl : S.data.toList = Lib.decDigits n := by rw [hS]
  obtain ⟨s1, s2, hs20⟩ := text_facts un' hS
  have hSs : S.size ≤ maxLen := Nat.le_trans hs20 (by unfold maxLen; decide)
  have hpos : 0 < S.size := by rw [s2]; exact (dec_len un').1
  have hhead : ((S[0].toNat : Int) == 48) = false := by
    obtain ⟨k, t, hk, e, hk0⟩ := dec_head n
    have : S[0] = UInt8.ofNat (48 + k) := by
      have h1 : S.data.toList.head? = some S[0] := head_at hpos
      rw [hSl, e] at h1
      simpa using h1.symm
    rw [this, beq_eq_false_iff_ne, digit_byte hk]
    have := hk0 hS0
    omega
  have b0 : decide (0 < (n : Int)) = true := decide_eq_true (by omega)
  have b1 : ((n : Int) == 0) = false := beq_eq_false_iff_ne.mpr (by omega)
  have b2 : ((S.size : Int) == 0) = false := beq_eq_false_iff_ne.mpr (by omega)
  have HP : Hid (parseF S.data.toList = ((n : Int), true)) := by show _ = _; rw [hSl]; exact parse_dec un'
  have HSp : Hid (signedF S.data.toList = ((0 : Int), false)) := by show _ = _; rw [hSl, signed_dec un', sg_high rfl (by show ¬ (n : Int) < _; omega)]
  have H32 : Hid (p32F S.data.toList = ((0 : Int), false)) := by
    show _ = _
    unfold p32F
    rw [hSl, parse_dec un']
    rw [if_pos (by right; show (4294967295 : Int) < n; omega)]
  have HS := Lib.hid hS
  clear hS hSl s1 s2
  have r1 : (n : Int) = 9223372036854775808 := by omega
  have R := Lib.hid r1
  clear r0 r1
  obtain ⟨c, hc⟩ : ∃ c : Int, c = -(n : Int) := ⟨_, rfl⟩
  have d1 : decide (0 < c) = false := decide_eq_false (by have := R.out; omega)
  have d2 : wrap64 (-c) = c := by have := R.out; unfold wrap64; omega
  have d3 : IntKind.u64.wrap c = (n : Int) := by have := R.out; simp [IntKind.wrap, IntKind.bits, IntKind.signed]; omega
  have HNEG : Hid (signedOf true (((n : Nat) : Int), true) = (c, true)) := by show _ = _; rw [sg_neg rfl (by show (n : Int) ≤ _; have := R.out; omega), ← hc]
  clear hc
  have UN := Lib.hid un
  have UN' := Lib.hid un'
  clear un un'
  have HM := Lib.hid ham
  clear ham
  go_enter Tryd.func5, Tryd.ntmps5
  go_wp2_with fail
  refine (textw n UN.out _ htab).mono ?_
  rintro e w1 ⟨rfl, hb1⟩
  rw [← HS.out]
  go_wp2_with fail
  refine (parsew _ _ hSs).mono ?_
  rintro e w2 ⟨rfl, hb2⟩
  rw [HP.out]
  have k2 := below_then hb1 hb2
  clear hb1 hb2
  go_wp2_with fail
  rw [← HM.out]
  refine (Tryd.strings_Repeat _ m _ (by omega) (by show 1 * m ≤ _; omega)).mono ?_
  rintro e w3 ⟨rfl, hb3⟩
  rw [show (({ data := #[48] } : ByteArray).data.toList) = [48] from rfl]
  have k3 := below_then k2 hb3
  clear k2 hb3
  obtain ⟨G, hG⟩ : ∃ G : ByteArray, G = ⟨(Lib.repeatL [48] m).toArray⟩ := ⟨_, rfl⟩
  rw [← hG]
  have hgs : G.size ≤ 24 := by rw [hG]; show (Lib.repeatL [48] m).toArray.size ≤ 24; rw [List.size_toArray, Lib.repeatL_length]; simp; omega
  have HG := Lib.hid hG
  clear hG
  go_wp2_with fail
  obtain ⟨M, hM⟩ : ∃ M : ByteArray, M = G ++ S := ⟨_, rfl⟩
  rw [← hM]
  have hMl : M.data.toList = List.replicate m 48 ++ Lib.decDigits n := by rw [hM, HG.out, HS.out]; exact more_eq m _
  obtain ⟨hMs, hmore⟩ := more_facts UN'.out hm hMl
  clear hM hMl HG
  rcases hmore with ⟨hz, hp⟩ | ⟨hz, hp⟩
  all_goals
    have HQ := Lib.hid hp
    clear hp
    refine (parsew _ _ hMs).mono ?_
    rintro e w4 ⟨rfl, hb4⟩
    rw [HQ.out]
    have k4 := below_then k3 hb4
    clear k3 hb4
    go_wp2_with fail
    obtain ⟨T, hT⟩ : ∃ T : ByteArray, T = ⟨#[45]⟩ ++ S := ⟨_, rfl⟩
    rw [← hT]
    have hTl : T.data.toList = 45 :: Lib.decDigits n := by rw [hT, HS.out]; exact minus_eq _
    obtain ⟨hTs, hsg⟩ := minus_facts UN'.out hTl
    rw [HNEG.out] at hsg
    have HSg := Lib.hid hsg
    clear hT hTl hsg
    refine (signedw _ _ hTs).mono ?_
    rintro e w5 ⟨rfl, hb5⟩
    rw [HSg.out]
    have k5 := below_then k4 hb5
    clear k4 hb5
    go_wp2_with fail
    refine (signedw _ _ hSs).mono ?_
    rintro e w6 ⟨rfl, hb6⟩
    rw [HSp.out]
    have k6 := below_then k5 hb6
    clear k5 hb6
    go_wp2_with fail
    refine (p32w _ _ hSs).mono ?_
    rintro e w7 ⟨rfl, hb7⟩
    rw [H32.out]
    have k7 := below_then k6 hb7
    clear k6 hb7
    go_wp2_with fail
    refine (lives04 _).mono ?_
    rintro e w8 ⟨rfl, hb8⟩
    have k8 := below_then k7 hb8
    clear k7 hb8
    go_wp2_with fail
    go_ret
    exact ⟨rfl, k8⟩
set_option maxHeartbeats 8000000 in
set_option maxRecDepth 100000 in
theorem back_4 (n : Nat) (r0 : 9223372036854775808 < n) (r1 : n < 18446744073709551616) (m : Nat) (hm : m ≤ 24) (a1 : Int) (l1 : 0 ≤ a1) (u1 : a1 ≤ 255) (ham : (m : Int) = a1 % 25) (w : World) (htab : Lib.TabIs Tryd.prog w "internal/strconv.uint64pow10" .u64 Lib.pow10Tab) :
    Calls Tryd.prog 5 #[.int .u64 n, .int .u8 a1] w fun e w' => e = .returned (.bool true) ∧ Below w.heap.size w w' := by
  have un : n < 18446744073709551616 := by omega
  have un' : n ≤ 18446744073709551615 := by omega
  have c1 : decide ((n : Int) ≤ 9223372036854775808) = false := decide_eq_false (by omega)
  have c2 : decide ((n : Int) < 9223372036854775808) = false := decide_eq_false (by omega)
  have c3 : decide ((n : Int) < 4294967296) = false := decide_eq_false (by omega)
  have hS0 : 0 < n := by omega
  obtain ⟨S, hS⟩ : ∃ S : ByteArray, S = ⟨(Lib.decDigits n).toArray⟩ := ⟨_, rfl⟩
  have hSl : S.data.toList = Lib.decDigits n := by rw [hS]
  obtain ⟨s1, s2, hs20⟩ := text_facts un' hS
  have hSs : S.size ≤ maxLen := Nat.le_trans hs20 (by unfold maxLen; decide)
  have hpos : 0 < S.size := by rw [s2]; exact (dec_len un').1
  have hhead : ((S[0].toNat : Int) == 48) = false := by
    obtain ⟨k, t, hk, e, hk0⟩ := dec_head n
    have : S[0] = UInt8.ofNat (48 + k) := by
      have h1 : S.data.toList.head? = some S[0] := head_at hpos
      rw [hSl, e] at h1
      simpa using h1.symm
    rw [this, beq_eq_false_iff_ne, digit_byte hk]
    have := hk0 hS0
    omega
  have b0 : decide (0 < (n : Int)) = true := decide_eq_true (by omega)
  have b1 : ((n : Int) == 0) = false := beq_eq_false_iff_ne.mpr (by omega)
  have b2 : ((S.size : Int) == 0) = false := beq_eq_false_iff_ne.mpr (by omega)
  have HP : Hid (parseF S.data.toList = ((n : Int), true)) := by show _ = _; rw [hSl]; exact parse_dec un'
  have HSp : Hid (signedF S.data.toList = ((0 : Int), false)) := by show _ = _; rw [hSl, signed_dec un', sg_high rfl (by show ¬ (n : Int) < _; omega)]
  have H32 : Hid (p32F S.data.toList = ((0 : Int), false)) := by
    show _ = _
    unfold p32F
    rw [hSl, parse_dec un']
    rw [if_pos (by right; show (4294967295 : Int) < n; omega)]
  have HS := Lib.hid hS
  clear hS hSl s1 s2
  have HNEG : Hid (signedOf true (((n : Nat) : Int), true) = (0, false)) := by show _ = _; rw [sg_low rfl (by show ¬ (n : Int) ≤ _; omega)]
  have UN := Lib.hid un
  have UN' := Lib.hid un'
  clear un un' r0 r1
  have HM := Lib.hid ham
  clear ham
  go_enter Tryd.func5, Tryd.ntmps5
  go_wp2_with fail
  refine (textw n UN.out _ htab).mono ?_
  rintro e w1 ⟨rfl, hb1⟩
  rw [← HS.out]
  go_wp2_with fail
  refine (parsew _ _ hSs).mono ?_
  rintro e w2 ⟨rfl, hb2⟩
  rw [HP.out]
  have k2 := below_then hb1 hb2
  clear hb1 hb2
  go_wp2_with fail
  rw [← HM.out]
  refine (Tryd.strings_Repeat _ m _ (by omega) (by show 1 * m ≤ _; omega)).mono ?_
  rintro e w3 ⟨rfl, hb3⟩
  rw [show (({ data := #[48] } : ByteArray).data.toList) = [48] from rfl]
  have k3 := below_then k2 hb3
  clear k2 hb3
  obtain ⟨G, hG⟩ : ∃ G : ByteArray, G = ⟨(Lib.repeatL [48] m).toArray⟩ := ⟨_, rfl⟩
  rw [← hG]
  have hgs : G.size ≤ 24 := by rw [hG]; show (Lib.repeatL [48] m).toArray.size ≤ 24; rw [List.size_toArray, Lib.repeatL_length]; simp; omega
  have HG := Lib.hid hG
  clear hG
  go_wp2_with fail
  obtain ⟨M, hM⟩ : ∃ M : ByteArray, M = G ++ S := ⟨_, rfl⟩
  rw [← hM]
  have hMl : M.data.toList = List.replicate m 48 ++ Lib.decDigits n := by rw [hM, HG.out, HS.out]; exact more_eq m _
  obtain ⟨hMs, hmore⟩ := more_facts UN'.out hm hMl
  clear hM hMl HG
  rcases hmore with ⟨hz, hp⟩ | ⟨hz, hp⟩
  all_goals
    have HQ := Lib.hid hp
    clear hp
    refine (parsew _ _ hMs).mono ?_
    rintro e w4 ⟨rfl, hb4⟩
    rw [HQ.out]
    have k4 := below_then k3 hb4
    clear k3 hb4
    go_wp2_with fail
    obtain ⟨T, hT⟩ : ∃ T : ByteArray, T = ⟨#[45]⟩ ++ S := ⟨_, rfl⟩
    rw [← hT]
    have hTl : T.data.toList = 45 :: Lib.decDigits n := by rw [hT, HS.out]; exact minus_eq _
    obtain ⟨hTs, hsg⟩ := minus_facts UN'.out hTl
    rw [HNEG.out] at hsg
    have HSg := Lib.hid hsg
    clear hT hTl hsg
    refine (signedw _ _ hTs).mono ?_
    rintro e w5 ⟨rfl, hb5⟩
    rw [HSg.out]
    have k5 := below_then k4 hb5
    clear k4 hb5
    go_wp2_with fail
    refine (signedw _ _ hSs).mono ?_
    rintro e w6 ⟨rfl, hb6⟩
    rw [HSp.out]
    have k6 := below_then k5 hb6
    clear k5 hb6
    go_wp2_with fail
    refine (p32w _ _ hSs).mono ?_
    rintro e w7 ⟨rfl, hb7⟩
    rw [H32.out]
    have k7 := below_then k6 hb7
    clear k6 hb7
    go_wp2_with fail
    refine (lives04 _).mono ?_
    rintro e w8 ⟨rfl, hb8⟩
    have k8 := below_then k7 hb8
    clear k7 hb8
    go_wp2_with fail
    go_ret
    exact ⟨rfl, k8⟩
theorem walk_NumsBack (a0 : Int) (a1 : Int) (w : World) (w0 : (Lit.int .u64 a0).wf = true) (w1 : (Lit.int .u8 a1).wf = true) (htab : Lib.TabIs Tryd.prog w "internal/strconv.uint64pow10" .u64 Lib.pow10Tab) :
    Calls Tryd.prog 5 #[.int .u64 a0, .int .u8 a1] w fun e w' => e = .returned (.bool true) ∧ Below w.heap.size w w' := by
  obtain ⟨l0, u0⟩ := bounds_u64 w0
  obtain ⟨l1, u1⟩ := bounds_u8 w1
  obtain ⟨n, rfl⟩ : ∃ n : Nat, a0 = n := ⟨a0.toNat, by omega⟩
  obtain ⟨m, hm⟩ : ∃ m : Nat, (m : Int) = a1 % 25 := ⟨(a1 % 25).toNat, by omega⟩
  have hm24 : m ≤ 24 := by omega
  by_cases h0 : n = 0
  · subst h0; exact back_0 m hm24 a1 l1 (by omega) hm w htab
  by_cases h1 : n < 4294967296
  · exact back_1 n (by omega) h1 m hm24 a1 l1 (by omega) hm w htab
  by_cases h2 : n < 9223372036854775808
  · exact back_2 n (by omega) h2 m hm24 a1 l1 (by omega) hm w htab
  by_cases h3 : n = 9223372036854775808
  · exact back_3 n h3 m hm24 a1 l1 (by omega) hm w htab
  · exact back_4 n (by omega) (by omega) m hm24 a1 l1 (by omega) hm w htab
end Go.Proofs.YteofbgbjibbdaaaDoor
