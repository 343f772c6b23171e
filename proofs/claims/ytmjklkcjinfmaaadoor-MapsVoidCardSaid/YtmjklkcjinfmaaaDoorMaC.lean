/- Maps as mathematics: which epochs may come, as the chapter says it; what stays in range. -/
import Derived.Test.YtmjklkcjinfmaaaDoorMaM
import Derived.Test.YtmjklkcjinfmaaaDoorTxMath
namespace Go.Proofs.YtmjklkcjinfmaaaDoor
set_option linter.unusedVariables false

/-- The map's epoch by a tick. -/
def isR (E w : Int) : Int := if nowf E < nowf w ∧ 0 < atf E ∧ atf E ≤ nowf w then putf (nowf w) 0 (min (genf E + 1) 65535) else putf (nowf w) (atf E) (genf E)
def comesR (E w : Int) : Bool := !decide (nowf w < nowf E) && (w == isR E w || (nowf w == 16777215 && w == tickf (isR E w)))
theorem after_range (E t : Int) (h1 : 0 ≤ E) (h2 : E < 18446744073709551616) : 0 ≤ after E t ∧ after E t < 18446744073709551616 := by
  unfold after
  split
  · omega
  · split <;> exact putf_range _ _ _
theorem after_now (E t : Int) (ht : 0 < t) : nowf (after E t) = min (nowf E + t) 16777215 := by
  obtain ⟨⟨a1, a2⟩, ⟨a3, a4⟩, ⟨a5, a6⟩⟩ := ep_range E
  unfold after
  rw [if_neg (by omega)]
  split <;> rw [now_put] <;> omega
theorem isR_range (E w : Int) : 0 ≤ isR E w ∧ isR E w < 18446744073709551616 := by
  unfold isR
  split <;> exact putf_range _ _ _
theorem isR_now (E w : Int) : nowf (isR E w) = nowf w := by
  obtain ⟨⟨a1, a2⟩, _⟩ := ep_range w
  unfold isR
  split <;> rw [now_put] <;> omega
theorem ne_of_now {w x : Int} (h : nowf x ≠ nowf w) : (w == x) = false := by
  rw [beq_eq_false_iff_ne]
  rintro rfl
  exact h rfl
theorem comesR_eq (E w : Int) (h1 : 0 ≤ E) (h2 : E < 18446744073709551616) : comesR E w = comes E w := by
  obtain ⟨⟨a1, a2⟩, ⟨a3, a4⟩, ⟨a5, a6⟩⟩ := ep_range E
  obtain ⟨⟨b1, b2⟩, ⟨b3, b4⟩, ⟨b5, b6⟩⟩ := ep_range w
  unfold comesR comes
  by_cases c : nowf w < nowf E
  · have e1 : after E (nowf w - nowf E) = E := by unfold after; rw [if_pos (by omega)]
    have e2 : after E (nowf w - nowf E + 1) = E := by unfold after; rw [if_pos (by omega)]
    rw [e1, e2, ne_of_now (x := E) (by omega)]
    simp [c]
  have hd : decide (nowf w < nowf E) = false := by simpa using c
  have e1 : after E (nowf w - nowf E) = isR E w := by
    unfold after isR
    by_cases d : nowf w = nowf E
    · rw [if_pos (by omega), if_neg (by omega), d, put_self E h1 h2]
    · rw [if_neg (by omega)]
      have e : min (nowf E + (nowf w - nowf E)) 16777215 = nowf w := by omega
      rw [e]
      by_cases f : 0 < atf E ∧ atf E ≤ nowf w
      · rw [if_pos f, if_pos ⟨by omega, f⟩]
      · rw [if_neg f, if_neg (fun k => f k.2)]
  rw [e1, hd]
  by_cases d : nowf w = 16777215
  · have e2 : after E (nowf w - nowf E + 1) = tickf (isR E w) := by
      have t : ∀ x, nowf x = 16777215 → tickf x = if 0 < atf x then putf 16777215 0 (if genf x < 65535 then genf x + 1 else 65535) else putf 16777215 (atf x) (genf x) := by
        intro x hx
        unfold tickf
        rw [if_neg (by omega)]
      have ha : ∀ x, after E (nowf w - nowf E + 1) = x ↔ (if 0 < atf E ∧ atf E ≤ 16777215 then putf 16777215 0 (min (genf E + 1) 65535) else putf 16777215 (atf E) (genf E)) = x := by
        intro x
        unfold after
        have e : min (nowf E + (nowf w - nowf E + 1)) 16777215 = 16777215 := by omega
        rw [if_neg (by omega), e]
      rw [ha, t _ (by rw [isR_now]; exact d)]
      by_cases f : 0 < atf E
      · rw [if_pos ⟨f, a4⟩]
        by_cases g : nowf E < nowf w
        · have hr : isR E w = putf 16777215 0 (min (genf E + 1) 65535) := by
            unfold isR
            rw [if_pos ⟨g, f, by omega⟩, d]
          rw [hr, at_put, gen_put, if_neg (by omega)]
          congr 1
          omega
        · have hr : isR E w = putf 16777215 (atf E) (genf E) := by
            unfold isR
            rw [if_neg (by omega), d]
          rw [hr, at_put, gen_put, if_pos (by omega)]
          congr 1
          split <;> omega
      · have hr : isR E w = putf 16777215 (atf E) (genf E) := by
          unfold isR
          rw [if_neg (by omega), d]
        rw [hr, at_put, gen_put, if_neg (by omega), if_neg (by omega)]
        congr 1 <;> omega
    rw [e2, d]
    simp
  · have e2 : (w == after E (nowf w - nowf E + 1)) = false := ne_of_now (by rw [after_now _ _ (by omega)]; omega)
    have e3 : (nowf w == 16777215) = false := by simpa using d
    rw [e2, e3]
    simp

structure ItOk (x : Itm) : Prop where
  k : x.k.size ≤ maxLen
  v : x.v.size ≤ maxLen
  fl : 0 ≤ x.fl ∧ x.fl < 4294967296
  id : 0 ≤ x.id ∧ x.id < 18446744073709551616
structure CalOk (c : Cal) : Prop where
  verb : 0 ≤ c.verb ∧ c.verb < 256
  key : c.key.size ≤ maxLen
  val : c.val.size ≤ maxLen
  fl : 0 ≤ c.fl ∧ c.fl < 4294967296
  exp : -9223372036854775808 ≤ c.exp ∧ c.exp ≤ 9223372036854775807
  id : 0 ≤ c.id ∧ c.id < 18446744073709551616
  by_ : 0 ≤ c.by_ ∧ c.by_ ≤ 18446744073709551615
structure MOk (S : Mst) : Prop where
  uniq : Uniq S.L
  its : ∀ x ∈ S.L, ItOk x
  e : 0 ≤ S.e ∧ S.e < 18446744073709551616
  i : 0 ≤ S.i ∧ S.i < 18446744073709551616
theorem u64_range (x : Int) : 0 ≤ u64 x ∧ u64 x < 18446744073709551616 := by
  unfold u64
  simp [IntKind.wrap, IntKind.bits, IntKind.signed]
  omega
theorem MOk.new : MOk Mst.new := ⟨List.Pairwise.nil, by simp [Mst.new], by simp [Mst.new], by simp [Mst.new]⟩
theorem textB_size (n : Int) (h0 : 0 ≤ n) (h1 : n ≤ 18446744073709551615) : (textB n).size ≤ maxLen := by
  have := (dec_len (u := n.natAbs) (by omega)).2
  show (Lib.decDigits n.natAbs).toArray.size ≤ maxLen
  unfold maxLen
  simp
  omega
theorem countM_range (v n b : Int) (n0 : 0 ≤ n) (n1 : n ≤ 18446744073709551615) (b0 : 0 ≤ b) (b1 : b ≤ 18446744073709551615) : 0 ≤ countM v n b ∧ countM v n b ≤ 18446744073709551615 := by
  unfold countM incrF decrF
  repeat' split
  all_goals omega
theorem MOk.wo {S : Mst} (h : MOk S) (k : ByteArray) : ∀ x ∈ wo S.L k, ItOk x := fun x hx => h.its x (List.mem_filter.mp hx).1
theorem MOk.put {S : Mst} (h : MOk S) {x : Itm} (hx : ItOk x) : ∀ y ∈ put S.L x, ItOk y := by
  intro y hy
  rcases List.mem_append.mp hy with hy | hy
  · exact h.wo _ y hy
  · simp at hy; subst hy; exact hx
theorem recM_ok {S : Mst} {c : Cal} (w : Int) (hc : CalOk c) : ItOk (recM S c w) := ⟨hc.key, hc.val, hc.fl, u64_range _⟩
theorem MOk.stay {S : Mst} (h : MOk S) {w : Int} (hw : 0 ≤ w ∧ w < 18446744073709551616) : MOk ⟨S.L, w, S.i⟩ := ⟨h.uniq, h.its, hw, h.i⟩
theorem MOk.stores {S : Mst} (h : MOk S) {c : Cal} {w : Int} (hc : CalOk c) (hw : 0 ≤ w ∧ w < 18446744073709551616) : MOk (S.stores c w).S := ⟨put_uniq h.uniq _, h.put (recM_ok w hc), hw, u64_range _⟩
theorem there_look {S : Mst} {c : Cal} {w : Int} {x : Itm} (h : S.there c w = some x) : mlook S.L c.key = some x ∧ aliveI x w = true := by
  unfold Mst.there at h
  rw [Option.filter_eq_some_iff] at h
  exact h
/-- What a call may give, case by case. -/
theorem verb_elim {P : Gv → Prop} {S : Mst} {c : Cal} {w : Int} {g : Gv} (h : S.verb c w = some g)
    (stay : ∀ k, k ≠ 1 → k ≠ 8 → k ≠ 10 → P (S.stay w k)) (stores : P (S.stores c w)) (hit : ∀ x, S.there c w = some x → P ⟨⟨11, 0, x⟩, ⟨S.L, w, S.i⟩, false⟩)
    (del : ∀ x, S.there c w = some x → P ⟨Ans.of 6, ⟨Proofs.YtmjklkcjinfmaaaDoor.wo S.L c.key, w, S.i⟩, false⟩) (touch : ∀ x, S.there c w = some x → P ⟨Ans.of 7, ⟨Proofs.YtmjklkcjinfmaaaDoor.put S.L { x with dies := diesf w c.exp }, w, S.i⟩, false⟩)
    (count : ∀ x, S.there c w = some x → (parseF x.v.data.toList).2 = true → P ⟨⟨8, countM c.verb (parseF x.v.data.toList).1 c.by_, Itm.none⟩, ⟨Proofs.YtmjklkcjinfmaaaDoor.put S.L ⟨x.k, textB (countM c.verb (parseF x.v.data.toList).1 c.by_), x.fl, u64 (S.i + 1), x.dies, x.gen⟩, w, u64 (S.i + 1)⟩, false⟩)
    (flush : c.verb = 11 → flushes w = true → P ⟨Ans.of 10, ⟨S.L, flushf w c.exp, S.i⟩, false⟩) : P g := by
  have hs : ∀ k, k ≠ 1 → k ≠ 8 → k ≠ 10 → ∀ {g}, some (S.stay w k) = some g → P g := by
    intro k h1 h2 h3 g e
    injection e with e
    subst e
    exact stay k h1 h2 h3
  have ht : ∀ {g}, some (S.stores c w) = some g → P g := by
    intro g e
    injection e with e
    subst e
    exact stores
  unfold Mst.verb at h
  by_cases c1 : c.verb = 1 ∨ c.verb = 2
  · rw [if_pos c1] at h
    cases e : S.there c w with
    | none => rw [e] at h; exact hs 12 (by decide) (by decide) (by decide) h
    | some x => rw [e] at h; injection h with h; subst h; exact hit x e
  rw [if_neg c1] at h
  by_cases c2 : c.verb = 3
  · rw [if_pos c2] at h; exact ht h
  rw [if_neg c2] at h
  by_cases c3 : c.verb = 4
  · rw [if_pos c3] at h
    by_cases d : (S.there c w).isSome = true
    · rw [if_pos d] at h; exact hs 2 (by decide) (by decide) (by decide) h
    · rw [if_neg d] at h; exact ht h
  rw [if_neg c3] at h
  by_cases c4 : c.verb = 5
  · rw [if_pos c4] at h
    by_cases d : (S.there c w).isSome = true
    · rw [if_pos d] at h; exact ht h
    · rw [if_neg d] at h; exact hs 2 (by decide) (by decide) (by decide) h
  rw [if_neg c4] at h
  by_cases c5 : c.verb = 6
  · rw [if_pos c5] at h
    cases e : S.there c w with
    | none => rw [e] at h; exact hs 4 (by decide) (by decide) (by decide) h
    | some x =>
      rw [e] at h
      by_cases d : x.id = c.id
      · simp only [if_pos d] at h; exact ht h
      · simp only [if_neg d] at h; exact hs 3 (by decide) (by decide) (by decide) h
  rw [if_neg c5] at h
  by_cases c6 : c.verb = 7
  · rw [if_pos c6] at h
    cases e : S.there c w with
    | none => rw [e] at h; exact hs 4 (by decide) (by decide) (by decide) h
    | some x => rw [e] at h; injection h with h; subst h; exact del x e
  rw [if_neg c6] at h
  by_cases c7 : c.verb = 8
  · rw [if_pos c7] at h
    cases e : S.there c w with
    | none => rw [e] at h; exact hs 4 (by decide) (by decide) (by decide) h
    | some x => rw [e] at h; injection h with h; subst h; exact touch x e
  rw [if_neg c7] at h
  by_cases c8 : c.verb = 9 ∨ c.verb = 10
  · rw [if_pos c8] at h
    cases e : S.there c w with
    | none => rw [e] at h; exact hs 4 (by decide) (by decide) (by decide) h
    | some x =>
      rw [e] at h
      unfold Mst.count at h
      by_cases d : (parseF x.v.data.toList).2 = true
      · simp only [if_pos d] at h; injection h with h; subst h; exact count x e d
      · simp only [if_neg d] at h; exact hs 9 (by decide) (by decide) (by decide) h
  rw [if_neg c8] at h
  by_cases c9 : c.verb = 11
  · rw [if_pos c9] at h
    by_cases d : flushes w = true
    · rw [if_pos d] at h; injection h with h; subst h; exact flush c9 d
    · rw [if_neg d] at h; exact hs 5 (by decide) (by decide) (by decide) h
  rw [if_neg c9] at h
  simp at h
theorem MOk.verb {S : Mst} (h : MOk S) {c : Cal} {w : Int} (hc : CalOk c) (hw : 0 ≤ w ∧ w < 18446744073709551616) {g : Gv} (hg : S.verb c w = some g) : MOk g.S := by
  refine verb_elim (P := fun g => MOk g.S) hg (fun _ _ _ _ => h.stay hw) (h.stores hc hw) (fun _ _ => h.stay hw) (fun _ _ => ⟨wo_uniq h.uniq _, h.wo _, hw, h.i⟩) (fun x e => ?_) (fun x e d => ?_) (fun _ _ => ⟨h.uniq, h.its, flushf_range _ _ hw.1 hw.2, h.i⟩)
  · have hx := h.its x (look_mem (there_look e).1)
    exact ⟨put_uniq h.uniq _, h.put ⟨hx.k, hx.v, hx.fl, hx.id⟩, hw, h.i⟩
  · have hx := h.its x (look_mem (there_look e).1)
    have hr := parseF_range x.v.data.toList
    have hn := countM_range c.verb _ c.by_ hr.1 hr.2 hc.by_.1 hc.by_.2
    exact ⟨put_uniq h.uniq _, h.put ⟨hx.k, textB_size _ hn.1 hn.2, hx.fl, u64_range _⟩, hw, u64_range _⟩
theorem MOk.gives {S : Mst} (h : MOk S) {c : Cal} {w : Int} (hc : CalOk c) (hw : 0 ≤ w ∧ w < 18446744073709551616) {g : Gv} (hg : S.gives c w = some g) : MOk g.S := by
  unfold Mst.gives at hg
  split at hg
  · exact h.verb hc hw hg
  · simp at hg
theorem MOk.fits {S : Mst} (h : MOk S) {c : Cal} {w : Int} (a : Ans) (hc : CalOk c) (hw : 0 ≤ w ∧ w < 18446744073709551616) : MOk (S.fits c w a).2 := by
  unfold Mst.fits
  split
  · exact h
  · next g e =>
    split
    · exact h.gives hc hw e
    · split
      · exact h.stay hw
      · exact h
theorem MOk.drop {S : Mst} (h : MOk S) (x : Itm) : MOk (S.drop x).2 := by
  unfold Mst.drop
  split
  · exact ⟨wo_uniq h.uniq _, h.wo _, h.e, h.i⟩
  · exact h
end Go.Proofs.YtmjklkcjinfmaaaDoor
