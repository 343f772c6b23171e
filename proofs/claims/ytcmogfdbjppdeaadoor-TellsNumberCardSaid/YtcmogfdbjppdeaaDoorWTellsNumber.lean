/- TellsNumber: a number's line is its own text. -/
import Derived.Test.YtcmogfdbjppdeaaDoorTe
namespace Go.Proofs.YtcmogfdbjppdeaaDoor
open Go.RowKit
set_option linter.unusedVariables false

theorem dec_plain (u : Nat) : Plain (Lib.decDigits u) := by
  induction u using Nat.strongRecOn with
  | _ u ih =>
    intro c hc
    have hb : ∀ k, k < 10 → (48 + UInt8.ofNat k).toNat < 128 ∧ 48 + UInt8.ofNat k ≠ 13 ∧ 48 + UInt8.ofNat k ≠ 10 := by decide
    by_cases h : u < 10
    · rw [dec_small h] at hc
      simp at hc
      subst hc
      exact hb u h
    · rw [dec_big h] at hc
      rcases List.mem_append.mp hc with h1 | h1
      · exact ih (u / 10) (by omega) c h1
      · simp at h1
        subst h1
        exact hb _ (Nat.mod_lt _ (by decide))
theorem line_facts {n : Nat} (hn : n ≤ 18446744073709551615) {S : ByteArray} (hS : S = ⟨(Lib.decDigits n ++ [13, 10]).toArray⟩) : S.toList = Lib.decDigits n ++ [13, 10] ∧ S.size = (Lib.decDigits n).length + 2 ∧ S.size ≤ 22 ∧ 3 ≤ S.size ∧ S.extract 0 (S.size - 2) = ⟨(Lib.decDigits n).toArray⟩ := by
  obtain ⟨h1, h2⟩ := dec_len hn
  have e : S.size = (Lib.decDigits n).length + 2 := by rw [hS]; show (Lib.decDigits n ++ [13, 10]).toArray.size = _; simp
  refine ⟨by rw [hS, ByteArray.toList_eq], e, by omega, by omega, ?_⟩
  rw [e, hS]
  apply ByteArray.ext
  apply Array.toList_inj.mp
  simp [ByteArray.data_extract]
theorem lines_same {n m : Nat} (hn : n ≤ 18446744073709551615) (hm : m ≤ 18446744073709551615) {S T : ByteArray} (hS : S = ⟨(Lib.decDigits n ++ [13, 10]).toArray⟩) (hT : T = ⟨(Lib.decDigits m ++ [13, 10]).toArray⟩) : ∃ y : Bool, (S.toList == T.toList) = y ∧ ((n : Int) == (m : Int)) = y := by
  rw [(line_facts hn hS).1, (line_facts hm hT).1]
  by_cases h : n = m
  · subst h; exact ⟨true, by simp, by simp⟩
  · refine ⟨false, beq_eq_false_iff_ne.mpr fun e => h (dec_inj hn hm ?_), beq_eq_false_iff_ne.mpr (by omega)⟩
    exact List.append_cancel_right e
set_option maxHeartbeats 8000000 in
set_option maxRecDepth 100000 in
theorem walk_TellsNumber (a0_0 : Int) (a0_1 : Int) (a1_0 : ByteArray) (a1_1 : ByteArray) (a1_2 : Int) (a1_3 : Int) (a1_4 : Int) (a1_5 : Int) (a2_0 : Int) (a2_1 : ByteArray) (a2_2 : ByteArray) (a2_3 : Int) (a2_4 : Int) (a2_5 : Int) (a2_6 : Int) (w : World) (w0_0 : (Lit.int .u64 a0_0).wf = true) (w0_1 : (Lit.int .u64 a0_1).wf = true) (w1_0 : a1_0.size ≤ maxLen) (w1_1 : a1_1.size ≤ maxLen) (w1_2 : (Lit.int .u32 a1_2).wf = true) (w1_3 : (Lit.int .u64 a1_3).wf = true) (w1_4 : (Lit.int .i64 a1_4).wf = true) (w1_5 : (Lit.int .i64 a1_5).wf = true) (w2_0 : (Lit.int .u8 a2_0).wf = true) (w2_1 : a2_1.size ≤ maxLen) (w2_2 : a2_2.size ≤ maxLen) (w2_3 : (Lit.int .u32 a2_3).wf = true) (w2_4 : (Lit.int .i64 a2_4).wf = true) (w2_5 : (Lit.int .u64 a2_5).wf = true) (w2_6 : (Lit.int .u64 a2_6).wf = true) (htab : Lib.TabIs Tryd.prog w "internal/strconv.uint64pow10" .u64 Lib.pow10Tab) :
    Calls Tryd.prog 6 #[.agg #[.int .u64 a0_0, .int .u64 a0_1], .agg #[.string a1_0, .string a1_1, .int .u32 a1_2, .int .u64 a1_3, .int .i64 a1_4, .int .i64 a1_5], .agg #[.int .u8 a2_0, .string a2_1, .string a2_2, .int .u32 a2_3, .int .i64 a2_4, .int .u64 a2_5, .int .u64 a2_6]] w fun e w' => e = .returned (.bool true) ∧ Below w.heap.size w w' := by
  obtain ⟨l0, u0⟩ := bounds_u64 w0_0
  obtain ⟨l1, u1⟩ := bounds_u64 w0_1
  obtain ⟨n, rfl⟩ : ∃ n : Nat, a0_0 = n := ⟨a0_0.toNat, by omega⟩
  obtain ⟨m, rfl⟩ : ∃ m : Nat, a0_1 = m := ⟨a0_1.toNat, by omega⟩
  unfold maxLen at w1_0 w1_1 w2_1 w2_2
  have un : n < 18446744073709551616 := by omega
  have um : m < 18446744073709551616 := by omega
  have HT := Lib.hid htab
  have UN := Lib.hid un
  have UM := Lib.hid um
  clear w0_0 w0_1 w1_2 w1_3 w1_4 w1_5 w2_0 w2_3 w2_4 w2_5 w2_6 htab un um l0 u0 l1 u1
  have hb3 : ∀ (a b c : Obj), Below w.heap.size w (((w.alloc a).alloc b).alloc c) := fun a b c => (((Below.refl _ _).alloc (Nat.le_refl _) a).alloc (by simp) b).alloc (by simp; omega) c
  have HB3 := Lib.hid hb3
  clear hb3
  go_enter Tryd.func6, Tryd.ntmps6
  go_wp2_with fail
  · generalize hW : (((w.alloc _).alloc _).alloc _) = W
    have hb : Below w.heap.size w W := by rw [← hW]; exact HB3.out _ _ _
    clear hW
    refine (lives31 W (tabIs_below HT.out hb)).mono ?_
    rintro e w1 ⟨rfl, hb1⟩
    go_wp2_with fail
    go_ret
    exact ⟨rfl, hb.trans (hb1.mono hb.size)⟩
  · generalize hW : (((w.alloc _).alloc _).alloc _) = W
    have hb : Below w.heap.size w W := by rw [← hW]; exact HB3.out _ _ _
    clear hW HB3
    refine (answer_num 9 (.slice none 0 0) a2_0 a2_1 a2_2 a2_3 a2_4 a2_5 a2_6 0 n a1_0 a1_1 a1_2 a1_3 a1_4 a1_5 W UN.out (tabIs_below HT.out hb)).mono ?_
    rintro e w1 ⟨rfl, hb1⟩
    obtain ⟨S, hS⟩ : ∃ S : ByteArray, S = ⟨(Lib.decDigits n ++ [13, 10]).toArray⟩ := ⟨_, rfl⟩
    obtain ⟨T, hTT⟩ : ∃ T : ByteArray, T = ⟨(Lib.decDigits m ++ [13, 10]).toArray⟩ := ⟨_, rfl⟩
    have un := UN.out
    have um := UM.out
    obtain ⟨q1, q2, s3, s4, s5⟩ := line_facts (by omega) hS
    obtain ⟨y, hy1, hy2⟩ := lines_same (by omega) (by omega) hS hTT
    obtain ⟨d1, d2⟩ := dec_len (u := n) (by omega)
    obtain ⟨g1, g2⟩ := dec_len (u := m) (by omega)
    have hes := endedw (Lib.decDigits n) (by omega) (by omega) (dec_plain n)
    have het := endedw (Lib.decDigits m) (by omega) (by omega) (dec_plain m)
    have hp := parsew ⟨(Lib.decDigits n).toArray⟩
    have hpd : (⟨(Lib.decDigits n).toArray⟩ : ByteArray).data.toList = Lib.decDigits n := rfl
    have hps : (⟨(Lib.decDigits n).toArray⟩ : ByteArray).size ≤ maxLen := by show (Lib.decDigits n).toArray.size ≤ _; unfold maxLen; simp; omega
    rw [hpd, parse_dec (by omega)] at hp
    rw [← hS] at hes ⊢
    rw [← hTT] at het
    have HES := Lib.hid hes
    have HET := Lib.hid het
    have HP := Lib.hid (fun W => hp W hps)
    have HEX := Lib.hid s5
    have HTT := Lib.hid hTT
    have hnx1 := hb.trans (hb1.mono hb.size)
    have y1 : ((S.size : Int) - 2).toNat = S.size - 2 := by omega
    have y2 : 0 ≤ (S.size : Int) - 2 := by omega
    have y3 : (S.size : Int) - 2 ≤ S.size := by omega
    have y4 : IntKind.i64.wrap ((S.size : Int) - 2) = (S.size : Int) - 2 := IntWalk.i64_in _ (by omega)
    clear q1 q2 hS hTT s5 d1 d2 g1 g2 hes het hp hpd hps hb1 hb un um
    go_wp2_with fail
    refine (answer_num 0 (.slice none 0 0) 0 ⟨#[]⟩ ⟨#[]⟩ 0 0 0 0 0 m ⟨#[]⟩ ⟨#[]⟩ 0 0 0 0 w1 UM.out (tabIs_below HT.out hnx1)).mono ?_
    rintro e w2 ⟨rfl, hb2⟩
    rw [← HTT.out]
    have hnx2 := hnx1.trans (hb2.mono hnx1.size)
    clear hb2 hnx1
    go_wp2_with fail
    refine (HES.out _).mono ?_
    rintro e w3 ⟨rfl, hb3⟩
    have hnx3 := hnx2.trans (hb3.mono hnx2.size)
    clear hb3 hnx2
    go_wp2_with fail
    refine (HET.out _).mono ?_
    rintro e w4 ⟨rfl, hb4⟩
    have hnx4 := hnx3.trans (hb4.mono hnx3.size)
    clear hb4 hnx3
    go_wp2_with fail
    rw [HEX.out]
    refine (HP.out _).mono ?_
    rintro e w5 ⟨rfl, hb5⟩
    have hnx5 := hnx4.trans (hb5.mono hnx4.size)
    clear hb5 hnx4
    go_wp2_with fail
    refine (lives31 _ (tabIs_below HT.out hnx5)).mono ?_
    rintro e w6 ⟨rfl, hb6⟩
    go_wp2_with fail
    go_ret
    exact ⟨rfl, hnx5.trans (hb6.mono hnx5.size)⟩
end Go.Proofs.YtcmogfdbjppdeaaDoor
