/- FeedsMend: what bytes 10 do to a feed; a get that is written. -/
import Derived.Test.YteoeelhljimibaaFeMath
namespace Go.Proofs.Yteoeelhljimibaa
set_option linter.unusedVariables false

theorem step_ten_zero : stepF (Fst.at 0) 10 = (Fst.at 0, some (Ev.fault 1)) := by kernel_rfl
theorem tens_zero : ∀ n, (feedF (Fst.at 0) (List.replicate n 10)).1 = Fst.at 0
  | 0 => rfl
  | n + 1 => by
    show (feedF (stepF (Fst.at 0) 10).1 (List.replicate n 10)).1 = _
    rw [step_ten_zero]
    exact tens_zero n
theorem tens_data : ∀ (n : Nat) (s : Fst), s.way = 1 → (s.held.length : Int) ≤ s.cmd.bytes → s.cmd.bytes + 1 ≤ s.held.length + n → (feedF s (List.replicate n 10)).1 = Fst.at 0
  | 0, s, hw, h1, h2 => by omega
  | n + 1, s, hw, h1, h2 => by
    show (feedF (stepF s 10).1 (List.replicate n 10)).1 = _
    have e : stepF s 10 = takeDataF s 10 := by unfold stepF; rw [if_neg (by omega), if_pos hw]
    rw [e]
    unfold takeDataF
    by_cases hl : (s.held.length : Int) < s.cmd.bytes
    · rw [if_pos hl]
      exact tens_data n { s with held := s.held ++ [10] } hw (by simp; omega) (by simp; omega)
    · rw [if_neg hl, if_neg (by simp)]
      by_cases he : s.ended = true
      · rw [if_pos ⟨he, rfl⟩]; exact tens_zero n
      · rw [if_neg (by simp [he]), if_pos rfl]; exact tens_zero n
def NoLarge (l : List Ev) : Prop := ∀ e ∈ l, e.told ≠ 5
theorem endLine_three {p : Cmd × Nat} (h : (endLine p).1.way = 3) : ∃ e, (endLine p).2 = some e ∧ e.told = 5 := by
  unfold endLine at h ⊢
  split
  · exact ⟨_, rfl, rfl⟩
  · next h5 =>
    rw [if_neg h5] at h
    split at h
    · simp [Fst.at] at h
    split at h <;> simp [Fst.at] at h
theorem step_three {s : Fst} {b : UInt8} (hs : s.way ≤ 2) (hn : NoLarge (stepF s b).2.toList) : (stepF s b).1.way ≤ 2 := by
  unfold stepF at hn ⊢
  by_cases h0 : s.way = 0
  · rw [if_pos h0] at hn ⊢
    unfold takeLineF at hn ⊢
    by_cases hb : b = 10
    · rw [if_pos hb] at hn ⊢
      unfold lineF at hn ⊢
      have h3 : (endLine (parseC (cutCr s.held))).1.way ≠ 3 := fun h => by
        obtain ⟨e, he, ht⟩ := endLine_three h
        rw [he] at hn
        exact hn e (by simp) ht
      have := (endLine_ok (parseC_ok (cutCr s.held))).way
      omega
    · rw [if_neg hb]
      split
      · simp [Fst.at]
      · simp; omega
  rw [if_neg h0]
  split
  · unfold takeDataF
    repeat' split
    all_goals simp [Fst.at]
    all_goals omega
  split
  · split
    · simp [Fst.at]
    · exact hs
  · omega
theorem feed_three : ∀ (l : List UInt8) (s : Fst), s.way ≤ 2 → NoLarge (feedF s l).2 → (feedF s l).1.way ≤ 2
  | [], s, hs, hn => hs
  | b :: l, s, hs, hn => by
    have e : feedF s (b :: l) = ((feedF (stepF s b).1 l).1, (stepF s b).2.toList ++ (feedF (stepF s b).1 l).2) := rfl
    rw [e] at hn ⊢
    exact feed_three l _ (step_three hs fun x hx => hn x (List.mem_append_left _ hx)) fun x hx => hn x (List.mem_append_right _ hx)
/-- Bytes 10 bring a feed back, if nothing was told to be too large. -/
theorem mend_n {L : List UInt8} (n : Nat) (hn : 1025 ≤ n) (h : NoLarge (feedF Fst.new (L ++ [10])).2) : (feedF (feedF Fst.new L).1 (List.replicate (n + 1) 10)).1 = Fst.at 0 := by
  have hk : FOk (feedF Fst.new L).1 := (FOk.at 0 (by omega) (by omega) (by omega)).feed L
  rw [feedF_snoc] at h
  have hw := feed_three L Fst.new (by simp [Fst.new, Fst.at]) fun x hx => h x (List.mem_append_left _ hx)
  have h1 : NoLarge (stepF (feedF Fst.new L).1 10).2.toList := fun x hx => h x (List.mem_append_right _ hx)
  clear h
  generalize (feedF Fst.new L).1 = s at *
  rw [List.replicate_succ]
  have e : feedF s (10 :: List.replicate n 10) = ((feedF (stepF s 10).1 (List.replicate n 10)).1, (stepF s 10).2.toList ++ (feedF (stepF s 10).1 (List.replicate n 10)).2) := rfl
  rw [e]
  clear e
  show (feedF (stepF s 10).1 (List.replicate n 10)).1 = _
  have hk1 := hk.step 10
  have hw1 := step_three hw h1
  by_cases h10 : s.way = 1
  · have := hk.data h10
    have e : feedF s (10 :: List.replicate n 10) = ((feedF (stepF s 10).1 (List.replicate n 10)).1, (stepF s 10).2.toList ++ (feedF (stepF s 10).1 (List.replicate n 10)).2) := rfl
    have h2 := tens_data (n + 1) s h10 (by omega) (by omega)
    rw [List.replicate_succ, e] at h2
    exact h2
  by_cases h20 : s.way = 2
  · have e : stepF s 10 = (Fst.at 0, none) := by unfold stepF; rw [if_neg (by omega), if_neg (by omega), if_pos h20, if_pos rfl]
    rw [e]
    exact tens_zero n
  have h0 : s.way = 0 := by omega
  have e : stepF s 10 = lineF s.held := by unfold stepF; rw [if_pos h0]; unfold takeLineF; rw [if_pos rfl]
  rw [e] at hw1 hk1 ⊢
  unfold lineF at hw1 hk1 ⊢
  generalize parseC (cutCr s.held) = p at *
  clear e h1
  unfold endLine at hw1 hk1 ⊢
  by_cases h5 : p.2 = 5
  · rw [if_pos h5] at hw1
    simp [Fst.at] at hw1
  rw [if_neg h5] at hw1 hk1 ⊢
  by_cases hp0 : p.2 ≠ 0
  · rw [if_pos hp0]
    exact tens_zero n
  rw [if_neg hp0] at hw1 hk1 ⊢
  by_cases hb : p.1.bytes < 0
  · rw [if_pos hb]
    exact tens_zero n
  rw [if_neg hb] at hw1 hk1 ⊢
  have := hk1.data rfl
  refine tens_data n _ rfl ?_ ?_
  · omega
  · simp only at this ⊢
    omega
theorem mend {L : List UInt8} (h : NoLarge (feedF Fst.new (L ++ [10])).2) : (feedF (feedF Fst.new L).1 (List.replicate 1026 10)).1 = Fst.at 0 := mend_n 1025 (by omega) h
/-- A get that is written. -/
def getL (K : List UInt8) : List UInt8 := [103, 101, 116, 32] ++ (K ++ [10])
def getC (K : List UInt8) : Cmd := ⟨1, [K], 1, K, [], 0, 0, 0, 0, -1, false⟩
theorem okF_facts {K : List UInt8} (h : okF K = true) : 0 < K.length ∧ K.length ≤ 250 ∧ ∀ c ∈ K, mayB c = true := by
  unfold okF lookF at h
  split at h
  · simp at h
  split at h
  · simp at h
  split at h
  · simp at h
  · next h0 h1 h2 =>
    refine ⟨by omega, by omega, fun c hc => ?_⟩
    have h3 : K.findIdx (fun c => !mayB c) = K.length := by
      have := List.findIdx_le_length (xs := K) (p := fun c => !mayB c)
      omega
    have := (List.findIdx_eq_length.mp h3) c hc
    simpa using this
theorem mayB_not {c : UInt8} (h : mayB c = true) : c ≠ 32 ∧ c ≠ 10 ∧ c ≠ 13 := by
  refine ⟨?_, ?_, ?_⟩ <;> (rintro rfl; simp [mayB] at h)
theorem get_line {K : List UInt8} (h : okF K = true) : parseC ([103, 101, 116, 32] ++ K) = (getC K, 0) := by
  obtain ⟨h0, h1, h2⟩ := okF_facts h
  unfold parseC
  rw [if_neg (by simp; omega)]
  have hw : wordsF ([103, 101, 116, 32] ++ K) = [[103, 101, 116], K] := by
    have := words_one (x := K) 0 0 (by intro e; rw [e] at h0; simp at h0) fun c hc => (mayB_not (h2 c hc)).1
    simp only [List.replicate_zero, List.nil_append, List.append_nil] at this
    unfold wordsF at this ⊢
    show wordsG [] (103 :: 101 :: 116 :: 32 :: K) = _
    rw [wordsG_go (by decide), wordsG_go (by decide), wordsG_go (by decide), wordsG_end (by decide), this]
    rfl
  rw [hw]
  have hf : formOf [103, 101, 116] = some ⟨1, 1, 64, [], 0, false⟩ := by decide
  unfold parseN
  simp only [hf]
  simp [parseW, quietW, restW, keyedW, Form.fewest, Form.greatest, readFs, beginW, getC, h]
theorem feed_text : ∀ (l held : List UInt8), (∀ c ∈ l, c ≠ 10) → held.length + l.length ≤ 2048 → feedF ⟨0, held, false, Cmd.none, 0⟩ l = (⟨0, held ++ l, false, Cmd.none, 0⟩, [])
  | [], held, h, hl => by simp [feedF]
  | b :: l, held, h, hl => by
    have e : ∀ s, feedF s (b :: l) = ((feedF (stepF s b).1 l).1, (stepF s b).2.toList ++ (feedF (stepF s b).1 l).2) := fun _ => rfl
    simp only [List.length_cons] at hl
    have h1 : stepF ⟨0, held, false, Cmd.none, 0⟩ b = (⟨0, held ++ [b], false, Cmd.none, 0⟩, none) := by
      unfold stepF takeLineF
      rw [if_pos rfl, if_neg (h b (by simp)), if_neg (by simp only; omega)]
    rw [e, h1]
    simp only
    rw [feed_text l (held ++ [b]) (fun c hc => h c (by simp [hc])) (by simp; omega)]
    simp
theorem get_feed {K : List UInt8} (h : okF K = true) : feedF (Fst.at 0) (getL K) = (Fst.at 0, [⟨getC K, [], 0⟩]) := by
  obtain ⟨h0, h1, h2⟩ := okF_facts h
  have e : getL K = ([103, 101, 116, 32] ++ K) ++ [10] := by simp [getL]
  have hne : ∀ c ∈ [103, 101, 116, 32] ++ K, c ≠ 10 := by
    intro c hc
    rcases List.mem_append.mp hc with hc | hc
    · exact (show ∀ c ∈ ([103, 101, 116, 32] : List UInt8), c ≠ 10 by decide) c hc
    · exact (mayB_not (h2 c hc)).2.1
  have ht : feedF (Fst.at 0) ([103, 101, 116, 32] ++ K) = (⟨0, [] ++ ([103, 101, 116, 32] ++ K), false, Cmd.none, 0⟩, []) := feed_text _ [] hne (by simp; omega)
  rw [e, feedF_snoc, ht]
  have hcr : cutCr ([103, 101, 116, 32] ++ K) = [103, 101, 116, 32] ++ K := by
    unfold cutCr
    rw [if_neg]
    intro hl
    have hK : K ≠ [] := by intro e; rw [e] at h0; simp at h0
    have hk1 : K.getLast? = some 13 := by
      rw [List.getLast?_append] at hl
      rw [List.getLast?_eq_some_getLast hK] at hl ⊢
      simpa using hl
    exact (mayB_not (h2 13 (List.mem_of_getLast? hk1))).2.2 rfl
  have hs : stepF ⟨0, [103, 101, 116, 32] ++ K, false, Cmd.none, 0⟩ 10 = (Fst.at 0, some ⟨getC K, [], 0⟩) := by
    unfold stepF takeLineF lineF endLine
    rw [if_pos rfl, if_pos rfl]
    simp only [hcr, get_line h]
    rfl
  simp only [List.nil_append] at hs ⊢
  rw [hs]
  rfl
def badL : List UInt8 := [110, 111, 32, 115, 117, 99, 104, 32, 118, 101, 114, 98, 10]
theorem bad_feed : feedF (Fst.at 0) badL = (Fst.at 0, [Ev.fault 1]) := by kernel_rfl
theorem both_feed {K : List UInt8} (h : okF K = true) : feedF (Fst.at 0) (badL ++ getL K) = (Fst.at 0, [Ev.fault 1, ⟨getC K, [], 0⟩]) := by
  rw [feedF_append, bad_feed, get_feed h]
  rfl
end Go.Proofs.Yteoeelhljimibaa
