/- The law NumsOrder. -/
import Derived.Test.YteofbgbjibbdaaaDoorTxRef
import Derived.Test.YteofbgbjibbdaaaDoorBits
namespace Go.Proofs.YteofbgbjibbdaaaDoor
open Go.RowKit
set_option linter.unusedVariables false

/-- A listed table outlives what leaves the old blocks as they are. -/
theorem tabIs_below {P : Program} {w w' : World} {name : String} {k : IntKind} {zs : List Int} (h : Lib.TabIs P w name k zs) (hb : Below w.heap.size w w') : Lib.TabIs P w' name k zs := by
  unfold Lib.TabIs World.var? at *
  cases hg : P.globalNamed name with
  | none => simp [hg] at h
  | some g =>
    simp only [hg, Option.bind_some] at h ⊢
    have hlt : g < w.heap.size := by
      rcases Nat.lt_or_ge g w.heap.size with h' | h'
      · exact h'
      · rw [Array.getElem?_eq_none h'] at h; simp at h
    rw [hb.block g hlt]
    exact h
theorem text_facts {a : Nat} (ha : a ≤ 18446744073709551615) {S : ByteArray} (hS : S = ⟨(Lib.decDigits a).toArray⟩) : S.toList = Lib.decDigits a ∧ S.size = (Lib.decDigits a).length ∧ S.size ≤ 20 := by
  have h := (dec_len ha).2
  have e : S.size = (Lib.decDigits a).length := by rw [hS]; rfl
  refine ⟨by rw [hS, ByteArray.toList_eq], e, by omega⟩
theorem order_cases {a b : Nat} (ha : a ≤ 18446744073709551615) (hb : b ≤ 18446744073709551615) {S T : ByteArray} (hS : S = ⟨(Lib.decDigits a).toArray⟩) (hT : T = ⟨(Lib.decDigits b).toArray⟩) :
    (decide (S.size < T.size) = true ∧ decide (a < b) = true ∨
      (∃ x : Bool, decide (S.size < T.size) = false ∧ ((S.size : Int) == (T.size : Int)) = true ∧ Op.bytesLess S.toList T.toList = x ∧ decide (a < b) = x) ∨
      decide (S.size < T.size) = false ∧ ((S.size : Int) == (T.size : Int)) = false ∧ decide (a < b) = false) ∧
    ∃ y : Bool, (S.toList == T.toList) = y ∧ ((a : Int) == (b : Int)) = y := by
  obtain ⟨s1, s2, s3⟩ := text_facts ha hS
  obtain ⟨t1, t2, t3⟩ := text_facts hb hT
  have ho := dec_order ha hb
  rw [s1, t1, s2, t2]
  refine ⟨?_, ?_⟩
  · by_cases h1 : (Lib.decDigits a).length < (Lib.decDigits b).length
    · exact .inl ⟨decide_eq_true (by omega), by rw [← ho]; simp [h1]⟩
    · by_cases h2 : (Lib.decDigits a).length = (Lib.decDigits b).length
      · exact .inr (.inl ⟨_, decide_eq_false (by omega), by rw [h2]; simp, dec_less a b ha hb h2, rfl⟩)
      · exact .inr (.inr ⟨decide_eq_false (by omega), beq_eq_false_iff_ne.mpr (by omega), by rw [← ho]; simp [h1, h2]⟩)
  · by_cases h : a = b
    · subst h; exact ⟨true, by simp, by simp⟩
    · exact ⟨false, beq_eq_false_iff_ne.mpr fun e => h (dec_inj ha hb e), beq_eq_false_iff_ne.mpr (by omega)⟩
set_option maxHeartbeats 2000000 in
set_option maxRecDepth 100000 in
theorem walk_NumsOrder (a0 : Int) (a1 : Int) (w : World) (w0 : (Lit.int .u64 a0).wf = true) (w1 : (Lit.int .u64 a1).wf = true) (htab : Lib.TabIs Tryd.prog w "internal/strconv.uint64pow10" .u64 Lib.pow10Tab) :
    Calls Tryd.prog 6 #[.int .u64 a0, .int .u64 a1] w fun e w' => e = .returned (.bool true) ∧ Below w.heap.size w w' := by
  obtain ⟨l0, u0⟩ := bounds_u64 w0
  obtain ⟨l1, u1⟩ := bounds_u64 w1
  obtain ⟨n, rfl⟩ : ∃ n : Nat, a0 = n := ⟨a0.toNat, by omega⟩
  obtain ⟨m, rfl⟩ : ∃ m : Nat, a1 = m := ⟨a1.toNat, by omega⟩
  clear w0 w1
  have un : n < 18446744073709551616 := by omega
  have um : m < 18446744073709551616 := by omega
  obtain ⟨S, hS⟩ : ∃ S : ByteArray, S = ⟨(Lib.decDigits n).toArray⟩ := ⟨_, rfl⟩
  obtain ⟨T, hT⟩ : ∃ T : ByteArray, T = ⟨(Lib.decDigits m).toArray⟩ := ⟨_, rfl⟩
  obtain ⟨hc, y, hy1, hy2⟩ := order_cases (by omega) (by omega) hS hT
  have hs20 := (text_facts (by omega) hS).2.2
  have ht20 := (text_facts (by omega) hT).2.2
  have HS := Lib.hid hS
  have HT := Lib.hid hT
  clear u0 u1 hS hT
  go_enter Tryd.func6, Tryd.ntmps6
  go_wp2_with fail
  refine (textw n un _ htab).mono ?_
  rintro e w1 ⟨rfl, hb1⟩
  rw [← HS.out]
  go_wp2_with fail
  refine (textw m um _ (tabIs_below htab hb1)).mono ?_
  rintro e w2 ⟨rfl, hb2⟩
  rw [← HT.out]
  have hb := below_then hb1 hb2
  clear hb1 hb2
  rcases hc with ⟨q1, q2⟩ | ⟨x, q1, q2, q3, q4⟩ | ⟨q1, q2, q3⟩
  all_goals
    go_wp2_with fail
    refine (lives04 _).mono ?_
    rintro e w3 ⟨rfl, hb3⟩
    have hb' := below_then hb hb3
    go_wp2_with fail
    go_ret
    exact ⟨rfl, hb'⟩
end Go.Proofs.YteofbgbjibbdaaaDoor
