/- FeedsMend: what bytes 10 do to a feed; a get that is written. -/
import Derived.Test.YteoeelhljimibaaFeMath
import Derived.Test.YteoeelhljimibaaGFy
import Derived.Test.YteoeelhljimibaaByO
import Derived.Laws.IdiomStrings
import Derived.Deep.OwnRows
namespace Go.Proofs.Yteoeelhljimibaa
set_option linter.unusedVariables false

theorem step_ten_zero : stepF (Fst.at 0) 10 = (Fst.at 0, some (Ev.fault 1)) := by kernel_rfl
theorem tens_zero : ∀ n, (feedF (Fst.at 0) (List.replicate n 10)).1 = Fst.at 0
  | 0 => rfl
  | n + 1 => by
    show (feedF (stepF (Fst.at 0) 10).1 (List.replicate n 10)).1 = _
    rw [step_ten_zero]
    exact tens_zero n
theorem tens_data : ∀ (n : Nat) (s : Fst), s.way = 1 → (s.held.length : Int) ≤ s.cmd.bytes → s.cmd.bytes + 1 ≤ s.held.length + n → (feedF s (List.replicate n 10)).1 = Fst.at 0
  | 0, s, hw, h1, h2 => by omega
  | n + 1, s, hw, h1, h2 => by
    show (feedF (stepF s 10).1 (List.replicate n 10)).1 = _
    have e : stepF s 10 = takeDataF s 10 := by unfold stepF; rw [if_neg (by omega), if_pos hw]
    rw [e]
    unfold takeDataF
    by_cases hl : (s.held.length : Int) < s.cmd.bytes
    · rw [if_pos hl]
      exact tens_data n { s with held := s.held ++ [10] } hw (by simp; omega) (by simp; omega)
    · rw [if_neg hl, if_neg (by simp)]
      by_cases he : s.ended = true
      · rw [if_pos ⟨he, rfl⟩]; exact tens_zero n
      · rw [if_neg (by simp [he]), if_pos rfl]; exact tens_zero n
def NoLarge (l : List Ev) : Prop := ∀ e ∈ l, e.told ≠ 5
theorem endLine_three {p : Cmd × Nat} (h : (endLine p).1.way = 3) : ∃ e, (endLine p).2 = some e ∧ e.told = 5 := by
  unfold endLine at h ⊢
  split
  · exact ⟨_, rfl, rfl⟩
  · next h5 =>
    rw [if_neg h5] at h
    split at h
    · simp [Fst.at] at h
    split at h <;> simp [Fst.at] at h
theorem step_three {s : Fst} {b : UInt8} (hs : s.way ≤ 2) (hn : NoLarge (stepF s b).2.toList) : (stepF s b).1.way ≤ 2 := by
  unfold stepF at hn ⊢
  by_cases h0 : s.way = 0
  · rw [if_pos h0] at hn ⊢
    unfold takeLineF at hn ⊢
    by_cases hb : b = 10
    · rw [if_pos hb] at hn ⊢
      unfold lineF at hn ⊢
      have h3 : (endLine (parseC (cutCr s.held))).1.way ≠ 3 := fun h => by
        obtain ⟨e, he, ht⟩ := endLine_three h
        rw [he] at hn
        exact hn e (by simp) ht
      have := (endLine_ok (parseC_ok (cutCr s.held))).way
      omega
    · rw [if_neg hb]
      split
      · simp [Fst.at]
      · simp; omega
  rw [if_neg h0]
  split
  · unfold takeDataF
    repeat' split
    all_goals simp [Fst.at]
    all_goals omega
  split
  · split
    · simp [Fst.at]
    · exact hs
  · omega
theorem feed_three : ∀ (l : List UInt8) (s : Fst), s.way ≤ 2 → NoLarge (feedF s l).2 → (feedF s l).1.way ≤ 2
  | [], s, hs, hn => hs
  | b :: l, s, hs, hn => by
    have e : feedF s (b :: l) = ((feedF (stepF s b).1 l).1, (stepF s b).2.toList ++ (feedF (stepF s b).1 l).2) := rfl
    rw [e] at hn ⊢
    exact feed_three l _ (step_three hs fun x hx => hn x (List.mem_append_left _ hx)) fun x hx => hn x (List.mem_append_right _ hx)
/-- Bytes 10 bring a feed back, if nothing was told to be too large. -/
theorem mend_n {L : List UInt8} (n : Nat) (hn : 1025 ≤ n) (h : NoLarge (feedF Fst.new (L ++ [10])).2) : (feedF (feedF Fst.new L).1 (List.replicate (n + 1) 10)).1 = Fst.at 0 := by
  have hk : FOk (feedF Fst.new L).1 := (FOk.at 0 (by omega) (by omega) (by omega)).feed L
  rw [feedF_snoc] at h
  have hw := feed_three L Fst.new (by simp [Fst.new, Fst.at]) fun x hx => h x (List.mem_append_left _ hx)
  have h1 : NoLarge (stepF (feedF Fst.new L).1 10).2.toList := fun x hx => h x (List.mem_append_right _ hx)
  clear h
  generalize (feedF Fst.new L).1 = s at *
  rw [List.replicate_succ]
  have e : feedF s (10 :: List.replicate n 10) = ((feedF (stepF s 10).1 (List.replicate n 10)).1, (stepF s 10).2.toList ++ (feedF (stepF s 10).1 (List.replicate n 10)).2) := rfl
  rw [e]
  clear e
  show (feedF (stepF s 10).1 (List.replicate n 10)).1 = _
  have hk1 := hk.step 10
  have hw1 := step_three hw h1
  by_cases h10 : s.way = 1
  · have := hk.data h10
    have e : feedF s (10 :: List.replicate n 10) = ((feedF (stepF s 10).1 (List.replicate n 10)).1, (stepF s 10).2.toList ++ (feedF (stepF s 10).1 (List.replicate n 10)).2) := rfl
    have h2 := tens_data (n + 1) s h10 (by omega) (by omega)
    rw [List.replicate_succ, e] at h2
    exact h2
  by_cases h20 : s.way = 2
  · have e : stepF s 10 = (Fst.at 0, none) := by unfold stepF; rw [if_neg (by omega), if_neg (by omega), if_pos h20, if_pos rfl]
    rw [e]
    exact tens_zero n
  have h0 : s.way = 0 := by omega
  have e : stepF s 10 = lineF s.held := by unfold stepF; rw [if_pos h0]; unfold takeLineF; rw [if_pos rfl]
  rw [e] at hw1 hk1 ⊢
  unfold lineF at hw1 hk1 ⊢
  generalize parseC (cutCr s.held) = p at *
  clear e h1
  unfold endLine at hw1 hk1 ⊢
  by_cases h5 : p.2 = 5
  · rw [if_pos h5] at hw1
    simp [Fst.at] at hw1
  rw [if_neg h5] at hw1 hk1 ⊢
  by_cases hp0 : p.2 ≠ 0
  · rw [if_pos hp0]
    exact tens_zero n
  rw [if_neg hp0] at hw1 hk1 ⊢
  by_cases hb : p.1.bytes < 0
  · rw [if_pos hb]
    exact tens_zero n
  rw [if_neg hb] at hw1 hk1 ⊢
  have := hk1.data rfl
  refine tens_data n _ rfl ?_ ?_
  · omega
  · simp only at this ⊢
    omega
theorem mend {L : List UInt8} (h : NoLarge (feedF Fst.new (L ++ [10])).2) : (feedF (feedF Fst.new L).1 (List.replicate 1026 10)).1 = Fst.at 0 := mend_n 1025 (by omega) h
/-- A get that is written. -/
def getL (K : List UInt8) : List UInt8 := [103, 101, 116, 32] ++ (K ++ [10])
def getC (K : List UInt8) : Cmd := ⟨1, [K], 1, K, [], 0, 0, 0, 0, -1, false⟩
theorem okF_facts {K : List UInt8} (h : okF K = true) : 0 < K.length ∧ K.length ≤ 250 ∧ ∀ c ∈ K, mayB c = true := by
  unfold okF lookF at h
  split at h
  · simp at h
  split at h
  · simp at h
  split at h
  · simp at h
  · next h0 h1 h2 =>
    refine ⟨by omega, by omega, fun c hc => ?_⟩
    have h3 : K.findIdx (fun c => !mayB c) = K.length := by
      have := List.findIdx_le_length (xs := K) (p := fun c => !mayB c)
      omega
    have := (List.findIdx_eq_length.mp h3) c hc
    simpa using this
theorem mayB_not {c : UInt8} (h : mayB c = true) : c ≠ 32 ∧ c ≠ 10 ∧ c ≠ 13 := by
  refine ⟨?_, ?_, ?_⟩ <;> (rintro rfl; simp [mayB] at h)
theorem get_line {K : List UInt8} (h : okF K = true) : parseC ([103, 101, 116, 32] ++ K) = (getC K, 0) := by
  obtain ⟨h0, h1, h2⟩ := okF_facts h
  unfold parseC
  rw [if_neg (by simp; omega)]
  have hw : wordsF ([103, 101, 116, 32] ++ K) = [[103, 101, 116], K] := by
    have := words_one (x := K) 0 0 (by intro e; rw [e] at h0; simp at h0) fun c hc => (mayB_not (h2 c hc)).1
    simp only [List.replicate_zero, List.nil_append, List.append_nil] at this
    unfold wordsF at this ⊢
    show wordsG [] (103 :: 101 :: 116 :: 32 :: K) = _
    rw [wordsG_go (by decide), wordsG_go (by decide), wordsG_go (by decide), wordsG_end (by decide), this]
    rfl
  rw [hw]
  have hf : formOf [103, 101, 116] = some ⟨1, 1, 64, [], 0, false⟩ := by decide
  unfold parseN
  simp only [hf]
  simp [parseW, quietW, restW, keyedW, Form.fewest, Form.greatest, readFs, beginW, getC, h]
theorem feed_text : ∀ (l held : List UInt8), (∀ c ∈ l, c ≠ 10) → held.length + l.length ≤ 2048 → feedF ⟨0, held, false, Cmd.none, 0⟩ l = (⟨0, held ++ l, false, Cmd.none, 0⟩, [])
  | [], held, h, hl => by simp [feedF]
  | b :: l, held, h, hl => by
    have e : ∀ s, feedF s (b :: l) = ((feedF (stepF s b).1 l).1, (stepF s b).2.toList ++ (feedF (stepF s b).1 l).2) := fun _ => rfl
    simp only [List.length_cons] at hl
    have h1 : stepF ⟨0, held, false, Cmd.none, 0⟩ b = (⟨0, held ++ [b], false, Cmd.none, 0⟩, none) := by
      unfold stepF takeLineF
      rw [if_pos rfl, if_neg (h b (by simp)), if_neg (by simp only; omega)]
    rw [e, h1]
    simp only
    rw [feed_text l (held ++ [b]) (fun c hc => h c (by simp [hc])) (by simp; omega)]
    simp
theorem get_feed {K : List UInt8} (h : okF K = true) : feedF (Fst.at 0) (getL K) = (Fst.at 0, [⟨getC K, [], 0⟩]) := by
  obtain ⟨h0, h1, h2⟩ := okF_facts h
  have e : getL K = ([103, 101, 116, 32] ++ K) ++ [10] := by simp [getL]
  have hne : ∀ c ∈ [103, 101, 116, 32] ++ K, c ≠ 10 := by
    intro c hc
    rcases List.mem_append.mp hc with hc | hc
    · exact (show ∀ c ∈ ([103, 101, 116, 32] : List UInt8), c ≠ 10 by decide) c hc
    · exact (mayB_not (h2 c hc)).2.1
  have ht : feedF (Fst.at 0) ([103, 101, 116, 32] ++ K) = (⟨0, [] ++ ([103, 101, 116, 32] ++ K), false, Cmd.none, 0⟩, []) := feed_text _ [] hne (by simp; omega)
  rw [e, feedF_snoc, ht]
  have hcr : cutCr ([103, 101, 116, 32] ++ K) = [103, 101, 116, 32] ++ K := by
    unfold cutCr
    rw [if_neg]
    intro hl
    have hK : K ≠ [] := by intro e; rw [e] at h0; simp at h0
    have hk1 : K.getLast? = some 13 := by
      rw [List.getLast?_append] at hl
      rw [List.getLast?_eq_some_getLast hK] at hl ⊢
      simpa using hl
    exact (mayB_not (h2 13 (List.mem_of_getLast? hk1))).2.2 rfl
  have hs : stepF ⟨0, [103, 101, 116, 32] ++ K, false, Cmd.none, 0⟩ 10 = (Fst.at 0, some ⟨getC K, [], 0⟩) := by
    unfold stepF takeLineF lineF endLine
    rw [if_pos rfl, if_pos rfl]
    simp only [hcr, get_line h]
    rfl
  simp only [List.nil_append] at hs ⊢
  rw [hs]
  rfl
def badL : List UInt8 := [110, 111, 32, 115, 117, 99, 104, 32, 118, 101, 114, 98, 10]
theorem bad_feed : feedF (Fst.at 0) badL = (Fst.at 0, [Ev.fault 1]) := by kernel_rfl
theorem both_feed {K : List UInt8} (h : okF K = true) : feedF (Fst.at 0) (badL ++ getL K) = (Fst.at 0, [Ev.fault 1, ⟨getC K, [], 0⟩]) := by
  rw [feedF_append, bad_feed, get_feed h]
  rfl
end Go.Proofs.Yteoeelhljimibaa
/- Next: FeedsMend: large. -/
namespace Go.Proofs.Yteoeelhljimibaa
open Go.RowKit Go.Maps
set_option linter.unusedVariables false

def largeB (l : List Ev) : Bool := l.any (fun e => decide (e.told = 5))
theorem largeB_no {l : List Ev} (h : ∀ (k : Nat) (e : Ev), l[k]? = some e → e.told ≠ 5) : largeB l = false := by
  unfold largeB
  rw [List.any_eq_false]
  intro e he
  obtain ⟨k, hk⟩ := List.mem_iff_getElem?.mp he
  simp [h k e hk]
theorem largeB_yes {l : List Ev} {k : Nat} {e : Ev} (h : l[k]? = some e) (ht : e.told = 5) : largeB l = true := by
  unfold largeB
  rw [List.any_eq_true]
  exact ⟨e, List.mem_of_getElem? h, by simp [ht]⟩
theorem noLarge {l : List Ev} (h : largeB l = false) : NoLarge l := by
  unfold largeB at h
  rw [List.any_eq_false] at h
  intro e he
  simpa using h e he
theorem evr_at {W : World} {a : Option Addr} {n c k : Nat} {ps : List (Ev × Value)} (h : EvR W (.slice a n c) ps) (hk : k < ps.length) : ∃ p g, ps[k]? = some p ∧ a = some ⟨g, 0, none⟩ ∧ g < W.heap.size ∧ W.cell? ⟨g, k * 13 + 12, none⟩ = some (.int .u8 (p.1.told : Nat)) := by
  obtain ⟨A, c', e, h1, h2, h3⟩ := h.form
  injection e with e1 e2 e3
  subst e1
  obtain ⟨g, e, hg, hc⟩ := h3 (by omega)
  exact ⟨_, g, List.getElem?_eq_getElem hk, e, hg, hc _ _ (rowsE_at ps k 12 _ _ (List.getElem?_eq_getElem hk) rfl)⟩
end Go.Proofs.Yteoeelhljimibaa
/- Next: FeedsMend: a string's bytes; a row's bytes; a fresh block that is filled. -/
namespace Go.Proofs.Yteoeelhljimibaa
open Go.RowKit Go.Maps
set_option linter.unusedVariables false

theorem wpList_bytes {P : Program} {ops : Array Oper} {rest : List Oper} {o : Oper} {a : Act} {w : World} {Q : Exit → Act → World → Prop} (hgd : o.guard = none) (src dst e : TypeId) (x : Operand) (ho : o.op = .convert src dst x) (hs : P.underlying src = some .string) (hd : P.underlying dst = some (.slice e)) (he : P.underlying e = some (.int .u8))
    (s : ByteArray) (L : List UInt8) (hx : a.eval x = .string s) (hL : s.data.toList = L) (hm : L.length ≤ maxLen)
    (hK : ∀ c W, L.length ≤ c → c ≤ maxLen → Below w.heap.size w W → Rd W W.heap.size (some ⟨w.heap.size, 0, none⟩) L → wpList P ops Q rest (a.put o.dst (.slice (some ⟨w.heap.size, 0, none⟩) L.length c)) W) : wpList P ops Q (o :: rest) a w := by
  refine wpList_plain hgd fun K hK' => ?_
  have hsz : s.size = L.length := by rw [← hL]; exact (Array.length_toList (xs := s.data)).symm
  have hr := run_bytes_of_string (P := P) w src dst e s hs hd he
  unfold Oper.wp execOp
  simp only [ho, Sem.run_bind, Sem.run_pure, Result.andThen_ok, hx, hr]
  refine hK' _ _ ?_
  rw [hsz]
  refine hK _ _ (grownCap_ge _ _ _ _) (grownCap_le_maxLen _ _ _ _ hm) ((Below.refl _ _).drew.alloc (Nat.le_refl _) _) fun h0 => ⟨_, _, rfl, by simp, fun j hj => ?_⟩
  have h1 := World.cell?_alloc_mark w.drew (bytesRow s (grownCap w L.length 0 e)) e ((bytesRow s (grownCap w L.length 0 e)).size, (bytesRow s (grownCap w L.length 0 e)).size + 1) j
  have hsd : w.drew.heap.size = w.heap.size := rfl
  rw [hsd] at h1
  rw [Nat.zero_add, h1, bytesRow_at s _ j (by rw [← hL] at hj; simpa using hj)]
  subst hL
  simp
/-- 'append(v, x...)' of bytes, whatever guards it, behind a row of the call's own. -/
theorem wpList_append_byW {P : Program} (w : World) {ops : Array Oper} {rest : List Oper} {o : Oper} {a : Act} {Q : Exit → Act → World → Prop} (hw : Region.wanted o (yielded ops a.tmps) = true) (s x : Operand) (t : TypeId)
    (ho : o.op = .call { callee := .builtin .append, args := #[s, x], argTypes := #[t, t] })
    (base : Nat) (e : TypeId) (ht : P.underlying t = some (.slice e)) (hinfo : (P.info? e).map (fun i => (i.zero, i.size, i.bytes)) = some (some (.int .u8 0), 1, 1))
    (v : Value) (l : List UInt8) (hs : a.eval s = v) (hown : w.ownsRow base e 1 v l.length (byv l))
    (B : Nat) (A : Option Addr) (m : List UInt8) (c : Nat) (hx : a.eval x = .slice A m.length c) (hr : Rd w B A m) (hc0 : A = none → c = 0)
    (hlen : l.length + m.length ≤ 1048576) (hbase : base ≤ w.heap.size)
    (h : ∀ v' w', w'.ownsRow base e 1 v' (l ++ m).length (byv (l ++ m)) → w.grownBy w' v.ownBlock → (v' = .slice none 0 0 ↔ v = .slice none 0 0 ∧ m = []) → wpList P ops Q rest (a.put o.dst v') w') : wpList P ops Q (o :: rest) a w := by
  obtain ⟨i0, hi, hz0, hz1, hz2⟩ := info_parts hinfo
  cases A with
  | none =>
    have hm : m = [] := by
      cases m with
      | nil => rfl
      | cons b m => obtain ⟨g, off, e, _⟩ := hr (by simp); simp at e
    subst hm
    have hc := hc0 rfl
    subst hc
    refine wpList_step fun K hK => ?_
    rw [if_pos hw]
    have hrun := run_append_owned_none (P := P) (w := w) base t o.type e i0 1 ht hi v _ _ hown
    unfold Oper.wp
    simp only [execOp, ho, resolve, invoke, builtin, Sem.run_bind, Sem.run_pure, Result.andThen_ok, List.map_toArray, List.map_cons, List.map_nil, hs, hx, List.length_nil, hrun]
    exact hK _ _ (h v w (by simpa using hown) (World.grownBy.refl w _) (by simp))
  | some ad =>
    have hcell : ∀ j u, (byv m)[j]? = some u → w.cell? (ad.add j) = some u := by
      intro j u hj
      have hjl : j < m.length := by
        rcases Nat.lt_or_ge j m.length with h | h
        · exact h
        · rw [List.getElem?_eq_none (by rw [byv_len]; exact h)] at hj; simp at hj
      obtain ⟨g, off, e, _, hc⟩ := hr (by omega)
      injection e with e
      subst e
      rw [Addr.add_lit, hc j hjl, ← hj, byv_at hjl]
    refine wpList_step fun K hK => ?_
    rw [if_pos hw]
    obtain ⟨v', w', hrun, h1, h2, h3⟩ := run_append_own (P := P) w base t o.type e i0 (.int .u8 0) 1 1 ht hi hz0 hz1 hz2 rfl (by decide) v _ _ hown ad m.length c (byv m) (by rw [byv_len]; omega) hcell (fun u hu => byv_one hu) (by unfold maxLen; omega) (by omega) hbase
    unfold Oper.wp
    simp only [execOp, ho, resolve, invoke, builtin, Sem.run_bind, Sem.run_pure, Result.andThen_ok, List.map_toArray, List.map_cons, List.map_nil, hs, hx, hrun]
    rw [← byv_app] at h1
    exact hK _ _ (h v' w' (by rw [List.length_append]; exact h1) h2 (by rw [h3]; simp))
theorem rd_row {w : World} {B n c : Nat} {T : TypeId} {a : Option Addr} {l : List UInt8} (h : w.ownsRow B T 1 (.slice a n c) l.length (byv l)) : Rd w w.heap.size a l := by
  intro h0
  rcases h.2 with ⟨_, hn⟩ | ⟨g, cap, cur, he, _⟩
  · omega
  · injection he with e1 e2 e3
    subst e1 e2 e3
    have hc : ∀ j u, (byv l)[j]? = some u → w.cell? ⟨g, j, none⟩ = some u := fun j u hu => by
      have := h.cells (g := g) rfl j u hu
      rwa [Addr.add_lit, Nat.zero_add] at this
    exact ⟨g, 0, rfl, World.block_lt_of_cell? _ _ (hc 0 _ (byv_at h0)), fun j hj => by rw [Nat.zero_add]; exact hc j _ (byv_at hj)⟩
/-- So many bytes 10, then 0. -/
def tensV (k n : Nat) : List Value := List.replicate k (.int .u8 10) ++ List.replicate (n - k) (.int .u8 0)
theorem tensV_len {k n : Nat} (h : k ≤ n) : (tensV k n).length = n := by simp [tensV]; omega
theorem tensV_set {k n : Nat} (h : k < n) : tensV (k + 1) n = (tensV k n).set k (.int .u8 10) := by
  apply List.ext_getElem?
  intro j
  unfold tensV
  rw [List.getElem?_set]
  simp only [List.getElem?_append, List.getElem?_replicate, List.length_append, List.length_replicate]
  by_cases h1 : k = j
  · subst h1
    simp
    omega
  · rw [if_neg h1]
    by_cases h2 : j < k
    · simp [h2, show j < k + 1 by omega]
    · have h3 : ¬ j < k + 1 := by omega
      simp only [h2, h3, if_false]
      by_cases h4 : j < n
      · rw [if_pos (by omega), if_pos (by omega)]
      · rw [if_neg (by omega), if_neg (by omega)]
theorem tensV_at {k n : Nat} (h : k < n) : (tensV k n)[k]? = some (.int .u8 0) := by
  unfold tensV
  rw [List.getElem?_append_right (by simp), List.length_replicate, Nat.sub_self, List.getElem?_replicate, if_pos (by omega)]
theorem tens_rd {W : World} {g n : Nat} (h : Cb W g (tensV n n)) : Rd W W.heap.size (some ⟨g, 0, none⟩) (List.replicate n 10) := by
  intro h0
  refine ⟨g, 0, rfl, h.lt, fun j hj => ?_⟩
  have hj' : j < n := by simpa using hj
  rw [Nat.zero_add, h.at_ j (.int .u8 10) (by unfold tensV; rw [List.getElem?_append_left (by simpa using hj'), List.getElem?_replicate, if_pos hj'])]
  simp
/-- Bytes of a while ago go into a feed. -/
theorem inb (q : Nat) (U0 : Nat → Prop) (s0 s1 : Fst) (hv kv : Value) (A : Option Addr) (c n : Nat) (L : List UInt8) (es : List Ev) (w : World) (h : FdAt w q U0 s0 hv kv) (hs : FOk s0) (hn : L.length = n) (hc : n ≤ c) (hcm : c ≤ maxLen) (hl : n ≤ 1048576) (hr : Rd w w.heap.size A L) (hU : ∀ g o, A = some ⟨g, o, none⟩ → 0 < L.length → ¬ U0 g) (hf : feedF s0 L = (s1, es)) :
    Calls Try.prog 26 #[.pointer (some ⟨q, 0, none⟩), .slice A n c] w fun e w' => ∃ U hv kv a ps, e = .returned (.slice a (List.length ps) (List.length ps)) ∧ FdAt w' q U s1 hv kv ∧ Keeps U0 w w' ∧ (∀ k, U k → U0 k ∨ w.heap.size ≤ k) ∧ ps.map Prod.fst = es ∧ EvR w' (.slice a ps.length ps.length) ps ∧ EvS w' U (.slice a ps.length ps.length) es := by
  subst hn
  refine (inw q U0 s0 hv kv A c L w h hs ⟨hc, hcm⟩ hl hr hU).mono ?_
  rintro e W' ⟨U, hv', kv', v, ps, rfl, hfd, hk, hg, hp, hev⟩
  rw [hf] at hfd hp
  have hp : ps.map Prod.fst = es := hp
  have hcnt : ps.length ≤ 1048576 := by
    have := feedF_count s0 L
    rw [hf] at this
    have h2 : ps.length = es.length := by rw [← hp, List.length_map]
    simp only at this
    omega
  have hR := hev.rd hcnt
  have hS := hev.far
  rw [hp] at hS
  obtain ⟨a, rfl⟩ := hev.form
  exact ⟨U, hv', kv', a, ps, rfl, hfd, hk, hg, hp, hR, hS⟩
/-- What a feed's blocks are, from a block on: nothing older is changed. -/
theorem below_in {W W' : World} {U : Nat → Prop} {B : Nat} (hk : Keeps U W W') (hU : ∀ k, U k → B ≤ k) (hB : B ≤ W.heap.size) : Below B W W' := (hk.mono (T := fun k => B ≤ k) fun k _ u => hU k u).to_below (fun k _ u => u) hB
theorem two_of {ps : List (Ev × Value)} {e1 e2 : Ev} (h : ps.map Prod.fst = [e1, e2]) : ∃ k1 k2, ps = [(e1, k1), (e2, k2)] := by
  match ps, h with
  | [p, q], h =>
    simp only [List.map_cons, List.map_nil, List.cons.injEq, and_true] at h
    exact ⟨p.2, q.2, by rw [← h.1, ← h.2]⟩
theorem one_of {ps : List (Ev × Value)} {e1 : Ev} (h : ps.map Prod.fst = [e1]) : ∃ k1, ps = [(e1, k1)] := by
  match ps, h with
  | [p], h =>
    simp only [List.map_cons, List.map_nil, List.cons.injEq, and_true] at h
    exact ⟨p.2, by rw [← h]⟩
theorem EvR.cells {W : World} {a : Option Addr} {n c : Nat} {ps : List (Ev × Value)} (h : EvR W (.slice a n c) ps) (h0 : 0 < ps.length) : ∃ g, a = some ⟨g, 0, none⟩ ∧ g < W.heap.size ∧ ∀ (k : Nat) (p : Ev × Value), ps[k]? = some p → ∀ (j : Nat) (u : Value), (evC p.1 p.2)[j]? = some u → W.cell? ⟨g, k * 13 + j, none⟩ = some u := by
  obtain ⟨A, c', e, h1, h2, h3⟩ := h.form
  injection e with e1 e2 e3
  subst e1
  obtain ⟨g, e, hg, hc⟩ := h3 h0
  exact ⟨g, e, hg, fun k p hp j u hu => hc _ _ (rowsE_at ps k j p u hp hu)⟩
theorem made_tens (n : Nat) : tensV 0 n = (madeCells #[.int .u8 0] n).toList := by
  simp only [tensV, madeCells, List.replicate_zero, List.nil_append, Nat.sub_zero, Array.toList_map, Array.toList_range]
  symm
  rw [List.eq_replicate_iff]
  refine ⟨by simp, fun b hb => ?_⟩
  obtain ⟨j, _, rfl⟩ := List.mem_map.mp hb
  simp [Nat.mod_one]
theorem mk_tens (w : World) : (Instr.makeSlice 24 (.int .i64 1026) (.int .i64 1026)).run Try.prog w = .ok (.slice (some ⟨w.heap.size, 0, none⟩) 1026 1026) (w.alloc (.cells (madeCells #[.int .u8 0] 1026) 5)) :=
  run_make_row' 24 5 (.int .u8 0) 1 Try.underlying24 (by kernel_rfl) rfl .i64 .i64 1026 (by omega) (by omega) w
end Go.Proofs.Yteoeelhljimibaa
