/- The law KeysOne. -/
import Derived.Test.YteofbgbjibbdaaaKySame
import Derived.Test.YteofbgbjibbdaaaBits
namespace Go.Proofs.Yteofbgbjibbdaaa
open Go.RowKit
set_option linter.unusedVariables false

/-- A text with so many blanks ahead and behind. -/
theorem gap_eq (s : ByteArray) (m : Nat) : ((⟨(Lib.repeatL [32] m).toArray⟩ : ByteArray) ++ s ++ (⟨(Lib.repeatL [32] m).toArray⟩ : ByteArray)).data.toList = List.replicate m 32 ++ (s.data.toList ++ List.replicate m 32) := by
  have h : Lib.repeatL [32] m = List.replicate m 32 := by
    have := Lib.repeatL_replicate 32 1 m
    simpa using this
  rw [h]
  simp
theorem may_ne32 {c : UInt8} (h : mayB c = true) : c ≠ 32 := by
  rintro rfl
  simp [mayB] at h
/-- A key that may be has no blank, and at least one byte. -/
theorem ok_plain {s : List UInt8} (h : (lookF s).1 = 0) : s ≠ [] ∧ ∀ c ∈ s, c ≠ 32 := by
  unfold lookF at h
  split at h
  · simp at h
  split at h
  · simp at h
  split at h
  · simp at h
  · next h0 h1 h2 =>
    refine ⟨fun e => h0 (by simp [e]), fun c hc => ?_⟩
    have := List.findIdx_eq_length.mp (Nat.le_antisymm List.findIdx_le_length (Nat.not_lt.mp h2)) c hc
    exact may_ne32 (by simpa using this)
theorem mem_index {c : UInt8} : ∀ {s : List UInt8}, c ∈ s → 0 ≤ Lib.indexByte s c
  | [], h => by simp at h
  | b :: l, h => by
    unfold Lib.indexByte
    split
    · omega
    · next hb =>
      have h' : c ∈ l := by
        rcases List.mem_cons.mp h with e | h
        · exact absurd (by simp [e]) hb
        · exact h
      have := mem_index h'
      rw [if_neg (by simp; omega)]
      omega
theorem eta_bytes (s : ByteArray) : (⟨s.data.toList.toArray⟩ : ByteArray) = s := by simp
/-- What the line's words are to the text. -/
theorem one_words (s : ByteArray) (m : Nat) (h0 : s.data.toList ≠ []) (h : ∀ c ∈ s.data.toList, c ≠ 32) : wordsF ((⟨(Lib.repeatL [32] m).toArray⟩ : ByteArray) ++ s ++ (⟨(Lib.repeatL [32] m).toArray⟩ : ByteArray)).data.toList = [s.data.toList] := by
  rw [gap_eq]; exact words_one m m h0 h
set_option maxHeartbeats 4000000 in
set_option maxRecDepth 100000 in
theorem walk_KeysOne (a0 : ByteArray) (a1 : Int) (w : World) (w0 : a0.size ≤ maxLen) (w1 : (Lit.int .u8 a1).wf = true) :
    Calls Try.prog 6 #[.string a0, .int .u8 a1] w fun e w' => e = .returned (.bool true) ∧ Below w.heap.size w w' := by
  obtain ⟨l1, u1⟩ := bounds_u8 w1
  have hM := w0
  unfold maxLen at hM
  clear w1
  by_cases hbig : 2000 < a0.size
  · go_enter Try.func6, Try.ntmps6
    go_wp2_with (go_at_call 17; refine (lives03 _).mono ?_; rintro e w' ⟨rfl, hk⟩)
    go_ret
    exact ⟨rfl, hk⟩
  have hd : decide (2000 < (a0.size : Int)) = false := decide_eq_false (by omega)
  have hsm : a0.size ≤ 2000 := by omega
  clear hbig
  obtain ⟨m, hm⟩ : ∃ m : Nat, (m : Int) = a1 % 9 := ⟨(a1 % 9).toNat, by omega⟩
  have hm8 : m ≤ 8 := by omega
  obtain ⟨G, hG⟩ : ∃ G : ByteArray, G = ⟨(Lib.repeatL [32] m).toArray⟩ := ⟨_, rfl⟩
  have g1 : G.size ≤ 8 := by
    rw [hG]
    show (Lib.repeatL [32] m).toArray.size ≤ 8
    rw [List.size_toArray, Lib.repeatL_length]; simp; omega
  have gs : (G ++ a0 ++ G).size ≤ 1048576 := by simp only [ByteArray.size_append]; omega
  have hm9 : IntKind.u8.wrap (a1 % 9) = a1 % 9 := by simp [IntKind.wrap, IntKind.bits, IntKind.signed]; omega
  have HM := Lib.hid hm
  have HG := Lib.hid hG
  clear hm hG
  go_enter Try.func6, Try.ntmps6
  go_wp2_with fail
  rw [← HM.out]
  refine (Try.strings_Repeat _ m _ (by omega) (by show 1 * m ≤ _; omega)).mono ?_
  rintro e w1 ⟨rfl, hb1⟩
  rw [show (({ data := #[32] } : ByteArray).data.toList) = [32] from rfl, ← HG.out]
  go_wp2_with fail
  refine (wordsw _ _ gs).mono ?_
  rintro e w2 ⟨v, rfl, hL, hb2⟩
  have hB := hb1.trans (hb2.mono hb1.size)
  have hN : w.heap.size ≤ w.heap.size := Nat.le_refl _
  clear hb1 hb2
  by_cases hok : (lookF a0.data.toList).1 = 0
  · obtain ⟨q1, q2⟩ := ok_plain hok
    rw [HG.out, one_words a0 m q1 q2] at hL
    obtain ⟨_, ⟨_, h0⟩ | ⟨g, cap, rfl, hgB, hg, hn, hc, hx⟩⟩ := hL
    · simp at h0
    have c0 : w2.cell? ⟨g, 0, none⟩ = some (.string a0) := (hx 0 (.string a0) (by simp [strs])).1
    clear hx q1 q2
    unfold maxLen at hc
    simp only [List.length_cons, List.length_nil] at hn
    have HO := Lib.hid hok
    clear hok
    go_wp2_with fail
    refine (okw _ _ w0).mono ?_
    rintro e w' ⟨rfl, rfl⟩
    rw [HO.out]
    go_wp2_with fail
    refine (lives03 _).mono ?_
    rintro e w3 ⟨rfl, hk⟩
    have hB' := box_then hB hN hk
    go_wp2_with fail
    go_ret
    exact ⟨rfl, hB'⟩
  have hok' : ((lookF a0.data.toList).1 == 0) = false := beq_eq_false_iff_ne.mpr hok
  have HO := Lib.hid hok'
  by_cases hp : a0.data.toList ≠ [] ∧ ∀ c ∈ a0.data.toList, c ≠ 32
  · obtain ⟨q1, q2⟩ := hp
    rw [HG.out, one_words a0 m q1 q2] at hL
    have hf1 : ((lookF a0.data.toList).1 != 1) = true := by
      have : (lookF a0.data.toList).1 ≠ 1 := by
        intro e
        unfold lookF at e
        split at e
        · next h => exact q1 (List.eq_nil_of_length_eq_zero h)
        split at e
        · simp at e
        split at e <;> simp at e
      simpa using this
    have hf0 : ((lookF a0.data.toList).1 != 0) = true := by simpa using hok
    obtain ⟨_, ⟨_, h0⟩ | ⟨g, cap, rfl, hgB, hg, hn, hc, hx⟩⟩ := hL
    · simp at h0
    have c0 : w2.cell? ⟨g, 0, none⟩ = some (.string a0) := (hx 0 (.string a0) (by simp [strs])).1
    clear hx q1 q2 hok hok'
    unfold maxLen at hc
    simp only [List.length_cons, List.length_nil] at hn
    obtain ⟨f, hf⟩ : ∃ f, f = lookF a0.data.toList := ⟨_, rfl⟩
    rw [← hf] at hf1 hf0
    have HF := Lib.hid hf
    clear hf
    go_wp2_with fail
    refine (okw _ _ w0).mono ?_
    rintro e w' ⟨rfl, rfl⟩
    rw [HO.out]
    go_wp2_with fail
    refine (look _ _ w0).mono ?_
    rintro e w' ⟨rfl, rfl⟩
    rw [← HF.out]
    go_wp2_with fail
    refine (lives03 _).mono ?_
    rintro e w3 ⟨rfl, hk⟩
    have hB' := box_then hB hN hk
    go_wp2_with fail
    go_ret
    exact ⟨rfl, hB'⟩
  · have hne : a0.data.toList ∉ wordsF (G ++ a0 ++ G).data.toList := fun h => hp (words_each h)
    have hcon : a0 = ⟨#[]⟩ ∨ (¬ a0.toList = [] ∧ a0.toList.isEmpty = false) ∧ decide (0 ≤ Lib.indexByte a0.data.toList 32) = true := by
      by_cases q : a0.data.toList = []
      · left
        rw [← eta_bytes a0, q]
      · right
        have q' : ¬ a0.toList = [] := by rw [ByteArray.toList_eq]; exact q
        refine ⟨⟨q', by simpa using q'⟩, ?_⟩
        apply decide_eq_true
        apply mem_index
        apply Classical.byContradiction
        intro h
        exact hp ⟨q, fun c hc e => h (e ▸ hc)⟩
    generalize wordsF (G ++ a0 ++ G).data.toList = ws at hL hne
    clear hp hok hok'
    obtain ⟨_, ⟨rfl, h0⟩ | ⟨g, cap, rfl, hgB, hg, hn, hc, hx⟩⟩ := hL
    · clear hne h0
      rcases hcon with rfl | ⟨⟨hcon, hcon2⟩, hcin⟩
      · go_wp2_with fail
        refine (okw _ _ w0).mono ?_
        rintro e w' ⟨rfl, rfl⟩
        rw [HO.out]
        go_wp2_with fail
        refine (lives03 _).mono ?_
        rintro e w3 ⟨rfl, hk⟩
        have hB' := box_then hB hN hk
        go_wp2_with fail
        go_ret
        exact ⟨rfl, hB'⟩
      · have HC := Lib.hid hcin
        clear hcin
        go_wp2_with fail
        refine (okw _ _ w0).mono ?_
        rintro e w' ⟨rfl, rfl⟩
        rw [HO.out]
        go_wp2_with fail
        refine (Try.strings_Contains_one _ 32 _).mono ?_
        rintro e w' ⟨rfl, rfl⟩
        rw [HC.out]
        go_wp2_with fail
        refine (lives03 _).mono ?_
        rintro e w3 ⟨rfl, hk⟩
        have hB' := box_then hB hN hk
        go_wp2_with fail
        go_ret
        exact ⟨rfl, hB'⟩
    · unfold maxLen at hc
      by_cases h1 : ws.length = 1
      · obtain ⟨x, rfl⟩ := List.length_eq_one_iff.mp h1
        obtain ⟨X, hX⟩ : ∃ X : ByteArray, X = ⟨x.toArray⟩ := ⟨_, rfl⟩
        have hxa : ¬ X = a0 := fun e => hne (by rw [← e, hX]; simp)
        have hxe : (X.toList == a0.toList) = false := by
          rw [beq_eq_false_iff_ne, ByteArray.toList_eq, ByteArray.toList_eq]
          intro e
          exact hxa (by rw [← eta_bytes X, ← eta_bytes a0, e])
        have c0 : w2.cell? ⟨g, 0, none⟩ = some (.string X) := by rw [hX]; exact (hx 0 _ rfl).1
        clear hx hne h1 hX
        simp only [List.length_cons, List.length_nil] at hn
        rcases hcon with rfl | ⟨⟨hcon, hcon2⟩, hcin⟩
        · have hxi : X.toList.isEmpty = false := by simpa using hxe
          go_wp2_with fail
          refine (okw _ _ w0).mono ?_
          rintro e w' ⟨rfl, rfl⟩
          rw [HO.out]
          go_wp2_with fail
          refine (lives03 _).mono ?_
          rintro e w3 ⟨rfl, hk⟩
          have hB' := box_then hB hN hk
          go_wp2_with fail
          go_ret
          exact ⟨rfl, hB'⟩
        · have HC := Lib.hid hcin
          clear hcin
          go_wp2_with fail
          refine (okw _ _ w0).mono ?_
          rintro e w' ⟨rfl, rfl⟩
          rw [HO.out]
          go_wp2_with fail
          refine (Try.strings_Contains_one _ 32 _).mono ?_
          rintro e w' ⟨rfl, rfl⟩
          rw [HC.out]
          go_wp2_with fail
          refine (lives03 _).mono ?_
          rintro e w3 ⟨rfl, hk⟩
          have hB' := box_then hB hN hk
          go_wp2_with fail
          go_ret
          exact ⟨rfl, hB'⟩
      · have h1' : ((ws.length : Int) == 1) = false := beq_eq_false_iff_ne.mpr (by omega)
        clear hx hne h1
        rcases hcon with rfl | ⟨⟨hcon, hcon2⟩, hcin⟩
        · go_wp2_with fail
          refine (okw _ _ w0).mono ?_
          rintro e w' ⟨rfl, rfl⟩
          rw [HO.out]
          go_wp2_with fail
          refine (lives03 _).mono ?_
          rintro e w3 ⟨rfl, hk⟩
          have hB' := box_then hB hN hk
          go_wp2_with fail
          go_ret
          exact ⟨rfl, hB'⟩
        · have HC := Lib.hid hcin
          clear hcin
          go_wp2_with fail
          refine (okw _ _ w0).mono ?_
          rintro e w' ⟨rfl, rfl⟩
          rw [HO.out]
          go_wp2_with fail
          refine (Try.strings_Contains_one _ 32 _).mono ?_
          rintro e w' ⟨rfl, rfl⟩
          rw [HC.out]
          go_wp2_with fail
          refine (lives03 _).mono ?_
          rintro e w3 ⟨rfl, hk⟩
          have hB' := box_then hB hN hk
          go_wp2_with fail
          go_ret
          exact ⟨rfl, hB'⟩
end Go.Proofs.Yteofbgbjibbdaaa
