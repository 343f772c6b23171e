/- The chapter's feeds: bytes a line at a time, as functions. -/
import Derived.Test.YteoeelhljimibaaFeMath
namespace Go.Proofs.Yteoeelhljimibaa
set_option linter.unusedVariables false

/-- Bytes ahead of the first 10. -/
def leadF : List UInt8 → Nat
  | [] => 0
  | b :: l => if b = 10 then 0 else leadF l + 1
theorem leadF_le : ∀ l, leadF l ≤ l.length
  | [] => Nat.le_refl _
  | b :: l => by
    unfold leadF
    have := leadF_le l
    split
    · omega
    · simp only [List.length_cons]; omega
theorem leadF_ne : ∀ (l : List UInt8) (j : Nat), j < leadF l → ∃ b, l[j]? = some b ∧ b ≠ 10
  | [], j, h => by simp [leadF] at h
  | b :: l, j, h => by
    unfold leadF at h
    split at h
    · omega
    · next hb =>
      cases j with
      | zero => exact ⟨b, rfl, hb⟩
      | succ j =>
        obtain ⟨x, hx, h2⟩ := leadF_ne l j (by omega)
        exact ⟨x, by rw [List.getElem?_cons_succ]; exact hx, h2⟩
theorem leadF_at : ∀ (l : List UInt8), leadF l < l.length → l[leadF l]? = some 10
  | [], h => by simp at h
  | b :: l, h => by
    unfold leadF at h ⊢
    split at h
    · next hb => rw [if_pos hb, hb]; rfl
    · next hb =>
      rw [if_neg hb, List.getElem?_cons_succ]
      exact leadF_at l (by simp only [List.length_cons] at h; omega)
/-- The events and what is held behind them. -/
def resF (s : Fst) (l : List UInt8) : List Ev × Nat := ((feedF s l).2, leftF (feedF s l).1)
def addE (e : Option Ev) (r : List Ev × Nat) : List Ev × Nat := (e.toList ++ r.1, r.2)
theorem resF_nil (s : Fst) : resF s [] = ([], leftF s) := rfl
theorem resF_cons (s : Fst) (b : UInt8) (l : List UInt8) : resF s (b :: l) = addE (stepF s b).2 (resF (stepF s b).1 l) := rfl
theorem addE_none (r : List Ev × Nat) : addE none r = r := rfl
theorem resF_append (s t : Fst) (l m : List UInt8) (h : feedF s l = (t, [])) : resF s (l ++ m) = resF t m := by
  unfold resF
  rw [feedF_append, h]
  simp
theorem res_skip : ∀ l, resF (Fst.at 2) l = resF Fst.new (l.drop (leadF l + 1))
  | [] => rfl
  | b :: l => by
    rw [resF_cons]
    by_cases hb : b = 10
    · have e : stepF (Fst.at 2) b = (Fst.at 0, none) := by simp [stepF, Fst.at, hb]
      rw [e, addE_none]
      simp [leadF, hb, Fst.new]
    · have e : stepF (Fst.at 2) b = (Fst.at 2, none) := by simp [stepF, Fst.at, hb]
      rw [e, addE_none, res_skip l]
      simp [leadF, hb]
theorem res_bytes : ∀ (l : List UInt8) (n : Nat), 1 ≤ n → resF { Fst.at 3 with left := (n : Int) } l = resF Fst.new (l.drop n)
  | [], n, h => by
    rw [List.drop_nil]
    rfl
  | b :: l, n, h => by
    rw [resF_cons]
    by_cases hn : n = 1
    · subst hn
      have e : stepF { Fst.at 3 with left := ((1 : Nat) : Int) } b = (Fst.at 0, none) := by simp [stepF, Fst.at]
      rw [e, addE_none]
      rfl
    · obtain ⟨m, rfl⟩ : ∃ m, n = m + 1 := ⟨n - 1, by omega⟩
      have e : stepF { Fst.at 3 with left := ((m + 1 : Nat) : Int) } b = ({ Fst.at 3 with left := (m : Int) }, none) := by
        simp [stepF, Fst.at]
        omega
      rw [e, addE_none, res_bytes l m (by omega)]
      rfl
theorem res_line : ∀ (l h : List UInt8), h.length ≤ 2048 → resF { Fst.at 0 with held := h } l =
    if 2048 < h.length + leadF l then addE (some (Ev.fault 3)) (resF Fst.new (l.drop (leadF l + 1)))
    else if leadF l = l.length then ([], h.length + l.length)
    else addE (lineF (h ++ l.take (leadF l))).2 (resF (lineF (h ++ l.take (leadF l))).1 (l.drop (leadF l + 1)))
  | [], h, hh => by
    have e : leadF [] = 0 := rfl
    rw [e, if_neg (show ¬ 2048 < h.length + 0 by omega), if_pos (show 0 = ([] : List UInt8).length from rfl)]
    rfl
  | b :: l, h, hh => by
    rw [resF_cons]
    by_cases hb : b = 10
    · have e : stepF { Fst.at 0 with held := h } b = lineF h := by simp [stepF, Fst.at, takeLineF, hb]
      have e2 : leadF (b :: l) = 0 := by simp [leadF, hb]
      rw [e, e2, if_neg (by omega), if_neg (by simp)]
      simp
    · have e2 : leadF (b :: l) = leadF l + 1 := by simp [leadF, hb]
      by_cases h2 : h.length = 2048
      · have e : stepF { Fst.at 0 with held := h } b = (Fst.at 2, some (Ev.fault 3)) := by simp [stepF, Fst.at, takeLineF, hb, h2]
        rw [e, e2, if_pos (by omega), res_skip]
        rfl
      · have e : stepF { Fst.at 0 with held := h } b = ({ Fst.at 0 with held := h ++ [b] }, none) := by simp [stepF, Fst.at, takeLineF, hb, h2]
        rw [e, e2, addE_none, res_line l (h ++ [b]) (by simp; omega)]
        simp only [List.length_append, List.length_cons, List.length_nil, List.take_succ_cons, List.append_assoc, List.cons_append, List.nil_append, List.drop_succ_cons]
        rw [show h.length + (0 + 1) + leadF l = h.length + (leadF l + 1) by omega]
        by_cases h3 : leadF l = l.length
        · rw [if_pos h3, if_pos (show leadF l + 1 = l.length + 1 by omega), show h.length + (0 + 1) + l.length = h.length + (l.length + 1) by omega]
        · rw [if_neg h3, if_neg (show ¬ leadF l + 1 = l.length + 1 by omega)]
theorem fill_data (c : Cmd) (n : Nat) (hc : c.bytes = n) : ∀ (l h : List UInt8), h.length + l.length ≤ n → feedF { Fst.at 1 with cmd := c, held := h } l = ({ Fst.at 1 with cmd := c, held := h ++ l }, [])
  | [], h, hh => by simp [feedF]
  | b :: l, h, hh => by
    simp only [List.length_cons] at hh
    have e : stepF { Fst.at 1 with cmd := c, held := h } b = ({ Fst.at 1 with cmd := c, held := h ++ [b] }, none) := by
      have : (h.length : Int) < c.bytes := by rw [hc]; omega
      simp [stepF, Fst.at, takeDataF, this]
    have e2 : ∀ (s : Fst) (b : UInt8) (l : List UInt8), feedF s (b :: l) = ((feedF (stepF s b).1 l).1, (stepF s b).2.toList ++ (feedF (stepF s b).1 l).2) := fun _ _ _ => rfl
    rw [e2, e, fill_data c n hc l (h ++ [b]) (by simp; omega)]
    simp
/-- Data: how many bytes stand ahead of the first that is wrong, or of the end. -/
def badF (n : Nat) (r : List UInt8) : Nat := if r[n]? = some 13 then n + 1 else n
theorem res_data (c : Cmd) (n : Nat) (hc : c.bytes = n) (r : List UInt8) : resF { Fst.at 1 with cmd := c } r =
    if r.length ≤ badF n r then ([], r.length)
    else if badF n r = n + 1 ∧ r[badF n r]? = some 10 then addE (some ⟨c, r.take n, 0⟩) (resF Fst.new (r.drop (badF n r + 1)))
    else addE (some (Ev.fault 6)) (resF Fst.new (r.drop (badF n r + leadF (r.drop (badF n r)) + 1))) := by
  by_cases h1 : r.length ≤ n
  · have hb : badF n r = n := by
      unfold badF
      rw [if_neg]
      rw [List.getElem?_eq_none h1]
      simp
    rw [hb, if_pos h1]
    unfold resF
    have := fill_data c n hc r [] (by simpa using h1)
    rw [show ({ Fst.at 1 with cmd := c } : Fst) = { Fst.at 1 with cmd := c, held := [] } from rfl, this]
    simp [leftF, Fst.at]
  obtain ⟨p, b, q, rfl, hp⟩ : ∃ p b q, r = p ++ b :: q ∧ p.length = n := by
    refine ⟨r.take n, r[n]'(by omega), r.drop (n + 1), ?_, by rw [List.length_take]; omega⟩
    rw [← List.drop_eq_getElem_cons, List.take_append_drop]
  have hf : feedF { Fst.at 1 with cmd := c } p = ({ Fst.at 1 with cmd := c, held := p }, []) := by
    have := fill_data c n hc p [] (by simp; omega)
    rw [List.nil_append] at this
    exact this
  rw [resF_append _ _ _ _ hf, resF_cons]
  have hbn : (p ++ b :: q)[n]? = some b := by rw [List.getElem?_append_right (by omega), hp, Nat.sub_self]; rfl
  have hnl : ¬ ((p.length : Int) < c.bytes) := by rw [hc]; omega
  have htk : (p ++ b :: q).take n = p := by rw [← hp]; exact List.take_left ..
  by_cases h13 : b = 13
  · have hbad : badF n (p ++ b :: q) = n + 1 := by unfold badF; rw [hbn, h13, if_pos rfl]
    have e : stepF { Fst.at 1 with cmd := c, held := p } b = ({ Fst.at 1 with cmd := c, held := p, ended := true }, none) := by simp [stepF, Fst.at, takeDataF, hnl, h13]
    have hd : (p ++ b :: q).drop (n + 1) = q := by rw [List.drop_append, hp, List.drop_eq_nil_of_le (by omega)]; simp
    rw [hbad, e, addE_none]
    cases q with
    | nil =>
      rw [if_pos (by simp; omega)]
      simp [resF, feedF, leftF, Fst.at]
    | cons x q =>
      rw [if_neg (by simp; omega), resF_cons]
      have hx : (p ++ b :: x :: q)[n + 1]? = some x := by rw [List.getElem?_append_right (by omega), hp, show n + 1 - n = 1 by omega]; rfl
      have hd2 : ∀ k, (p ++ b :: x :: q).drop (n + 1 + k + 1) = q.drop k := fun k => by
        rw [show n + 1 + k + 1 = (n + 1) + (k + 1) by omega, ← List.drop_drop, hd]
        rfl
      by_cases hx10 : x = 10
      · have e3 : stepF { Fst.at 1 with cmd := c, held := p, ended := true } x = (Fst.at 0, some ⟨c, p, 0⟩) := by simp [stepF, Fst.at, takeDataF, hnl, hx10]
        rw [e3, if_pos ⟨rfl, by rw [hx, hx10]⟩, htk]
        have := hd2 0
        rw [Nat.add_zero] at this
        rw [this]
        rfl
      · have e3 : stepF { Fst.at 1 with cmd := c, held := p, ended := true } x = (Fst.at 2, some (Ev.fault 6)) := by simp [stepF, Fst.at, takeDataF, hnl, hx10]
        have e4 : leadF (x :: q) = leadF q + 1 := by simp [leadF, hx10]
        rw [e3, if_neg (by rw [hx]; simp [hx10]), hd, e4, hd2, res_skip]
  · have hbad : badF n (p ++ b :: q) = n := by unfold badF; rw [hbn, if_neg (by simp [h13])]
    have hd : (p ++ b :: q).drop n = b :: q := by rw [← hp]; simp
    have hd2 : ∀ k, (p ++ b :: q).drop (n + k + 1) = q.drop k := fun k => by
      rw [show n + k + 1 = n + (k + 1) by omega, ← List.drop_drop, hd]
      rfl
    rw [hbad, if_neg (by simp; omega), if_neg (by omega), hd, hd2]
    by_cases hb10 : b = 10
    · have e : stepF { Fst.at 1 with cmd := c, held := p } b = (Fst.at 0, some (Ev.fault 6)) := by simp [stepF, Fst.at, takeDataF, hnl, hb10]
      rw [e]
      simp [leadF, hb10, Fst.new]
    · have e : stepF { Fst.at 1 with cmd := c, held := p } b = (Fst.at 2, some (Ev.fault 6)) := by simp [stepF, Fst.at, takeDataF, hnl, hb10, h13]
      have e4 : leadF (b :: q) = leadF q + 1 := by simp [leadF, hb10]
      rw [e, e4, res_skip]
/-- A line's round. -/
theorem res_lead (l : List UInt8) : resF Fst.new l =
    if 2048 < leadF l then addE (some (Ev.fault 3)) (resF Fst.new (l.drop (leadF l + 1)))
    else if leadF l = l.length then ([], l.length)
    else addE (lineF (l.take (leadF l))).2 (resF (lineF (l.take (leadF l))).1 (l.drop (leadF l + 1))) := by
  have := res_line l [] (by simp)
  simp only [List.length_nil, Nat.zero_add, List.nil_append] at this
  exact this
theorem res_large {p : Cmd × Nat} (h : p.2 = 5) (n : Nat) (hn : p.1.bytes = n) (r : List UInt8) : addE (endLine p).2 (resF (endLine p).1 r) = addE (some (Ev.fault 5)) (resF Fst.new (r.drop (n + 2))) := by
  unfold endLine
  rw [if_pos h]
  have := res_bytes r (n + 2) (by omega)
  rw [hn]
  rw [← this]
  rfl
theorem res_fault {p : Cmd × Nat} (h5 : p.2 ≠ 5) (h : p.2 ≠ 0) (r : List UInt8) : addE (endLine p).2 (resF (endLine p).1 r) = addE (some (Ev.fault p.2)) (resF Fst.new r) := by
  unfold endLine
  rw [if_neg h5, if_pos h]
  rfl
theorem res_bare {p : Cmd × Nat} (h : p.2 = 0) (hb : p.1.bytes < 0) (r : List UInt8) : addE (endLine p).2 (resF (endLine p).1 r) = addE (some ⟨p.1, [], 0⟩) (resF Fst.new r) := by
  unfold endLine
  rw [if_neg (by omega), if_neg (by omega), if_pos hb]
  rfl
theorem res_more {p : Cmd × Nat} (h : p.2 = 0) (hb : ¬ p.1.bytes < 0) (r : List UInt8) : addE (endLine p).2 (resF (endLine p).1 r) = resF { Fst.at 1 with cmd := p.1 } r := by
  unfold endLine
  rw [if_neg (by omega), if_neg (by omega), if_neg hb]
  rfl
theorem res_two (l m : List UInt8) : resF (feedF Fst.new l).1 m = ((feedF Fst.new (l ++ m)).2.drop (feedF Fst.new l).2.length, leftF (feedF Fst.new (l ++ m)).1) := by
  unfold resF
  rw [feedF_append]
  simp
end Go.Proofs.Yteoeelhljimibaa
