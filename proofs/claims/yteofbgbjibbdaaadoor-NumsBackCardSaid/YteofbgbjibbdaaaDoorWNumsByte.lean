/- The law NumsByte. -/
import Derived.Test.YteofbgbjibbdaaaDoorWNumsOrder
import Derived.Deep.RegionWith
import Derived.BigRegion
import Derived.IntWalk
import Derived.Laws.IdiomStrings
namespace Go.Proofs.YteofbgbjibbdaaaDoor
open Go.RowKit
set_option linter.unusedVariables false

theorem after_one {w w1 w' : World} {o : Obj} (hb : Below w.heap.size w w1) (hk : Below (w1.alloc o).drew.heap.size (w1.alloc o).drew w') : Below w.heap.size w w' :=
  (hb.alloc hb.size o).drew.trans (hk.mono (by have := hb.size; simp; omega))
theorem conv_one {x : Int} {c : UInt8} (h : (c.toNat : Int) = x) (wx : World) (b : Nat) (hc : wx.cell? ⟨b, 0, none⟩ = some (.int .u8 x)) :
    (convert 23 9 (.slice (some ⟨b, 0, none⟩) 1 1)).run Tryd.prog wx = .ok (.string ⟨#[c]⟩) wx :=
  run_convert_bytes_back (P := Tryd.prog) wx 23 9 5 ⟨b, 0, none⟩ 1 [c] Tryd.underlying23 Tryd.underlying5 Tryd.underlying9 (fun j hj => by
    obtain rfl : j = 0 := by simpa using hj
    rw [Lib.add_plain]; simpa [h] using hc)
/-- A text with a byte put in. -/
def putIn (s : ByteArray) (i : Nat) (x : UInt8) : ByteArray := s.extract 0 i ++ ⟨#[x]⟩ ++ s.extract i s.size
theorem putIn_list (s : ByteArray) (i : Nat) (x : UInt8) : (putIn s i x).data.toList = s.data.toList.take i ++ x :: s.data.toList.drop i := by
  simp [putIn, ByteArray.data_extract]
  rw [List.take_of_length_le (by simp)]
theorem signed_dec {u : Nat} (hu : u ≤ 18446744073709551615) : signedF (Lib.decDigits u) = signedOf false ((u : Int), true) := by
  obtain ⟨k, t, hk, e, _⟩ := dec_head u
  have hp := parse_dec hu
  unfold signedF
  rw [hp, e]
  have : (some (UInt8.ofNat (48 + k)) = some 45) = False := by
    simp only [Option.some.injEq, eq_iff_iff, iff_false]
    exact digit_ne hk (.inl (by decide))
  rw [List.head?_cons, if_neg (by rw [this]; exact fun h => h)]
theorem signed_minus {u : Nat} (hu : u ≤ 18446744073709551615) : signedF (45 :: Lib.decDigits u) = signedOf true ((u : Int), true) := by
  unfold signedF
  rw [List.head?_cons, if_pos rfl, List.tail_cons, parse_dec hu]
theorem signed_spoilt {u i : Nat} (hu : u ≤ 18446744073709551615) {c : UInt8} (hc : (c.toNat : Int) < 48 ∨ 57 < (c.toNat : Int)) (h : ¬ (i = 0 ∧ c = 45)) (hi : i ≤ (Lib.decDigits u).length) : signedF ((Lib.decDigits u).take i ++ c :: (Lib.decDigits u).drop i) = (0, false) := by
  have hp := parse_bad (x := (Lib.decDigits u).take i) (t := (Lib.decDigits u).drop i) hc
  unfold signedF
  rw [hp]
  have hne : ((Lib.decDigits u).take i ++ c :: (Lib.decDigits u).drop i).head? ≠ some 45 := by
    cases i with
    | zero =>
      simp only [List.take_zero, List.nil_append, List.head?_cons, Option.some.injEq, ne_eq]
      exact fun e => h ⟨rfl, e⟩
    | succ i =>
      obtain ⟨k, t, hk, e, _⟩ := dec_head u
      rw [e]
      simp only [List.take_succ_cons, List.cons_append, List.head?_cons, Option.some.injEq, ne_eq]
      exact digit_ne hk (.inl (by decide))
  rw [if_neg hne]
  rfl
/-- A byte that is no digit. -/
def noDig (n : Int) : Int := if 48 ≤ n ∧ n ≤ 57 then n - 10 else n
theorem noDig_ways {n : Int} (h0 : 0 ≤ n) (h1 : n ≤ 255) : (decide (48 ≤ n) = true ∧ decide (n ≤ 57) = true ∧ noDig n = n - 10 ∨ decide (48 ≤ n) = false ∧ noDig n = n ∨ decide (48 ≤ n) = true ∧ decide (n ≤ 57) = false ∧ noDig n = n) ∧ 0 ≤ noDig n ∧ noDig n ≤ 255 ∧ (noDig n < 48 ∨ 57 < noDig n) := by
  unfold noDig
  by_cases a : 48 ≤ n
  · by_cases b : n ≤ 57
    · rw [if_pos ⟨a, b⟩]
      exact ⟨.inl ⟨decide_eq_true a, decide_eq_true b, rfl⟩, by omega, by omega, by omega⟩
    · rw [if_neg (by omega)]
      exact ⟨.inr (.inr ⟨decide_eq_true a, decide_eq_false b, rfl⟩), by omega, by omega, by omega⟩
  · rw [if_neg (by omega)]
    exact ⟨.inr (.inl ⟨decide_eq_false a, rfl⟩), by omega, by omega, by omega⟩
set_option maxHeartbeats 8000000 in
set_option maxRecDepth 100000 in
theorem walk_NumsByte (a0 : Int) (a1 : Int) (a2 : Int) (w : World) (w0 : (Lit.int .u64 a0).wf = true) (w1 : (Lit.int .u8 a1).wf = true) (w2 : (Lit.int .u8 a2).wf = true) (htab : Lib.TabIs Tryd.prog w "internal/strconv.uint64pow10" .u64 Lib.pow10Tab) :
    Calls Tryd.prog 7 #[.int .u64 a0, .int .u8 a1, .int .u8 a2] w fun e w' => e = .returned (.bool true) ∧ Below w.heap.size w w' := by
  obtain ⟨l0, u0⟩ := bounds_u64 w0
  obtain ⟨l1, u1⟩ := bounds_u8 w1
  obtain ⟨l2, u2⟩ := bounds_u8 w2
  obtain ⟨n, rfl⟩ : ∃ n : Nat, a0 = n := ⟨a0.toNat, by omega⟩
  clear w0 w1 w2
  have un : n < 18446744073709551616 := by omega
  have un' : n ≤ 18446744073709551615 := by omega
  obtain ⟨S, hS⟩ : ∃ S : ByteArray, S = ⟨(Lib.decDigits n).toArray⟩ := ⟨_, rfl⟩
  have hSl : S.data.toList = Lib.decDigits n := by rw [hS]
  obtain ⟨s1, s2, hs20⟩ := text_facts un' hS
  obtain ⟨i, hi⟩ : ∃ i : Nat, (i : Int) = a1 % ((S.size : Int) + 1) := ⟨(a1 % ((S.size : Int) + 1)).toNat, by have := Int.emod_nonneg a1 (b := (S.size : Int) + 1) (by omega); omega⟩
  have his : i ≤ S.size := by have := Int.emod_lt_of_pos a1 (b := (S.size : Int) + 1) (by omega); omega
  obtain ⟨hway, x0, x1, x2⟩ := noDig_ways l2 u2
  obtain ⟨x, hx⟩ : ∃ x, x = noDig a2 := ⟨_, rfl⟩
  rw [← hx] at hway x0 x1 x2
  obtain ⟨X, hX⟩ : ∃ X, X = UInt8.ofNat x.toNat := ⟨_, rfl⟩
  have hXx : (X.toNat : Int) = x := by rw [hX, UInt8.toNat_ofNat']; omega
  have hcv := conv_one (x := x) (c := X) hXx
  have hP : parseF (putIn S i X).data.toList = (0, false) := by rw [putIn_list]; exact parse_bad (by rw [hXx]; exact x2)
  have hPs : (putIn S i X).size ≤ maxLen := by
    have : (putIn S i X).data.toList.length ≤ 21 := by
      rw [putIn_list]
      have : S.data.toList.length = S.size := by simp
      simp; omega
    rw [Array.length_toList] at this
    exact Nat.le_trans this (by unfold maxLen; decide)
  have hcase : ∃ (p q r z : Bool) (c : Int), ((i : Int) == 0) = p ∧ (x == 45) = q ∧ decide ((n : Int) ≤ 9223372036854775808) = r ∧ signedF (putIn S i X).data.toList = (c, z) ∧ (p = true ∧ q = true ∧ r = true ∧ z = true ∨ p = true ∧ q = true ∧ r = false ∧ z = false ∧ c = 0 ∨ p = true ∧ q = false ∧ z = false ∧ c = 0 ∨ p = false ∧ z = false ∧ c = 0) := by
    refine ⟨((i : Int) == 0), (x == 45), decide ((n : Int) ≤ 9223372036854775808), (signedF (putIn S i X).data.toList).2, (signedF (putIn S i X).data.toList).1, rfl, rfl, rfl, rfl, ?_⟩
    rw [putIn_list, hSl]
    by_cases h : i = 0 ∧ X = 45
    · obtain ⟨h1, h2⟩ := h
      have hx45 : x = 45 := by rw [← hXx, h2]; rfl
      rw [h1, h2, hx45, List.take_zero, List.nil_append, List.drop_zero, signed_minus un']
      by_cases hq : n ≤ 9223372036854775808
      · rw [sg_neg rfl (by show (n : Int) ≤ _; omega)]
        exact .inl ⟨rfl, rfl, decide_eq_true (by omega), rfl⟩
      · rw [sg_low rfl (by show ¬ (n : Int) ≤ _; omega)]
        exact .inr (.inl ⟨rfl, rfl, decide_eq_false (by omega), rfl, rfl⟩)
    · have hs := signed_spoilt un' (by rw [hXx]; exact x2) h (by omega)
      rw [hs]
      by_cases h0 : i = 0
      · exact .inr (.inr (.inl ⟨by rw [h0]; rfl, by
          rw [beq_eq_false_iff_ne]
          intro e
          exact h ⟨h0, UInt8.toNat_inj.mp (by show X.toNat = 45; omega)⟩, rfl, rfl⟩))
      · exact .inr (.inr (.inr ⟨beq_eq_false_iff_ne.mpr (by omega), rfl, rfl⟩))
  obtain ⟨p, q, r, z, c, hp, hq, hr, hsg, hcase⟩ := hcase
  have hA : decide ((S.size : Int) < a1 % ((S.size : Int) + 1)) = false := decide_eq_false (by omega)
  have HSg := Lib.hid hsg
  clear hsg
  have hmod : a1.tmod ((S.size : Int) + 1) = a1 % ((S.size : Int) + 1) := Int.tmod_eq_emod_of_nonneg l1
  have y3 : (i : Int) ≤ (S.size : Int) := by omega
  have HS := Lib.hid hS
  have HP := Lib.hid hP
  have HI := Lib.hid hi
  clear u0 hS hP hx hX hXx x2 s1 s2 hSl hi hmod
  go_enter Tryd.func7, Tryd.ntmps7
  go_wp2_with fail
  refine (textw n un _ htab).mono ?_
  rintro e w1 ⟨rfl, hb1⟩
  rw [← HS.out]
  rcases hway with ⟨v1, v2, rfl⟩ | ⟨v1, rfl⟩ | ⟨v1, v2, rfl⟩
  all_goals
    go_wp2_with fail
    rw [← HI.out]
    clear hA
    go_region
    go_wp2_with fail
    refine (signedw _ _ hPs).mono ?_
    rintro e w3 ⟨rfl, hb3⟩
    rw [show signedF _ = _ from HSg.out]
    have k3 := after_one hb1 hb3
    clear hb3
    rcases hcase with ⟨rfl, rfl, rfl, rfl⟩ | ⟨rfl, rfl, rfl, rfl, rfl⟩ | ⟨rfl, rfl, rfl, rfl⟩ | ⟨rfl, rfl, rfl⟩
    all_goals
      go_wp2_with fail
      refine (nonew _ _ hPs HP.out).mono ?_
      rintro e w4 ⟨rfl, hb4⟩
      have k4 := below_then k3 hb4
      clear k3 hb4
      go_wp2_with fail
      refine (lives04 _).mono ?_
      rintro e w5 ⟨rfl, hb5⟩
      have k5 := below_then k4 hb5
      clear k4 hb5
      go_wp2_with fail
      go_ret
      exact ⟨rfl, k5⟩
end Go.Proofs.YteofbgbjibbdaaaDoor
