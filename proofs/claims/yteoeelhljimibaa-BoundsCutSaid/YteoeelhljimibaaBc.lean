/- BoundsCut: what calls are like; bytes behind bytes. -/
import Derived.Test.YteoeelhljimibaaBo9
namespace Go.Proofs.Yteoeelhljimibaa
open Go.RowKit Go.Maps
set_option linter.unusedVariables false

/-- A command that is told without a fault. -/
structure CmOk (c : Cmd) : Prop where
  verb : c.cverb = c.verb
  key : c.key = c.keys.headD []
  value : c.value = []
  keys : ∀ k ∈ c.keys, okF k = true
  some : c.keys = [] ↔ (c.verb = 11 ∨ c.verb = 12 ∨ c.verb = 13)
theorem readF_same {f : Nat} {x : List UInt8} {c d : Cmd} (h : readF f x c = some d) : d.verb = c.verb ∧ d.cverb = c.cverb ∧ d.key = c.key ∧ d.keys = c.keys ∧ d.value = c.value := by
  unfold readF at h
  repeat' split at h
  all_goals first
    | (injection h with h; subst h; exact ⟨rfl, rfl, rfl, rfl, rfl⟩)
    | simp at h
theorem readFs_same : ∀ (fs : List Nat) (xs : List (List UInt8)) (c : Cmd), (readFs fs xs c).2 = 0 → (readFs fs xs c).1.verb = c.verb ∧ (readFs fs xs c).1.cverb = c.cverb ∧ (readFs fs xs c).1.key = c.key ∧ (readFs fs xs c).1.keys = c.keys ∧ (readFs fs xs c).1.value = c.value
  | [], xs, c, h => by
    have e : readFs [] xs c = if 1024 < c.bytes then (c, 5) else (c, 0) := rfl
    rw [e]
    split <;> exact ⟨rfl, rfl, rfl, rfl, rfl⟩
  | f :: fs, [], c, h => by
    have e : readFs (f :: fs) [] c = if 1024 < c.bytes then (c, 5) else (c, 0) := rfl
    rw [e]
    split <;> exact ⟨rfl, rfl, rfl, rfl, rfl⟩
  | f :: fs, x :: xs, c, h => by
    cases hr : readF f x c with
    | none =>
      rw [readFs_none hr] at h
      have := faultF_ne f
      exact absurd (.inl h) this
    | some d =>
      rw [readFs_some hr] at h ⊢
      obtain ⟨a1, a2, a3, a4, a5⟩ := readFs_same fs xs d h
      obtain ⟨b1, b2, b3, b4, b5⟩ := readF_same hr
      exact ⟨a1.trans b1, a2.trans b2, a3.trans b3, a4.trans b4, a5.trans b5⟩
/-- Verbs and how many keys they have. -/
theorem tbF_keys : ∀ x ∈ tbF, (x.2.most = 0 ∧ (x.2.verb = 11 ∨ x.2.verb = 12 ∨ x.2.verb = 13)) ∨ (1 ≤ x.2.most ∧ 1 ≤ x.2.fewest ∧ ¬ (x.2.verb = 11 ∨ x.2.verb = 12 ∨ x.2.verb = 13)) := by decide
theorem parseC_cm (l : List UInt8) (h : (parseC l).2 = 0) : CmOk (parseC l).1 := by
  unfold parseC at h ⊢
  by_cases hl : 2048 < l.length
  · rw [if_pos hl] at h; simp at h
  rw [if_neg hl] at h ⊢
  unfold parseN at h ⊢
  cases hw : wordsF l with
  | nil => rw [hw] at h; simp at h
  | cons n ws =>
    rw [hw] at h
    simp only at h ⊢
    cases hf : formOf n with
    | none => rw [hf] at h; simp at h
    | some f =>
      rw [hf] at h
      simp only at h ⊢
      unfold parseW keyedW at h ⊢
      generalize restW f ws = r at *
      generalize quietW f ws = q at *
      by_cases hb : r.length < f.fewest ∨ f.greatest < r.length
      · rw [if_pos hb] at h; simp at h
      rw [if_neg hb] at h ⊢
      by_cases hk : (r.take f.most).all okF = true
      · rw [if_pos hk] at h ⊢
        obtain ⟨a1, a2, a3, a4, a5⟩ := readFs_same _ _ _ h
        refine ⟨a2.trans a1.symm, ?_, ?_, ?_, ?_⟩
        · rw [a3, a4]; rfl
        · rw [a5]; rfl
        · rw [a4]
          intro k hk'
          exact List.all_eq_true.mp hk k hk'
        · rw [a4, a1]
          show r.take f.most = [] ↔ (f.verb = 11 ∨ f.verb = 12 ∨ f.verb = 13)
          rcases tbF_keys _ (formIn_in hf) with ⟨e, hv⟩ | ⟨e1, e2, hv⟩
          · simp only at e hv
            rw [e]
            exact ⟨fun _ => hv, fun _ => rfl⟩
          · simp only at e1 e2 hv
            refine ⟨fun h0 => ?_, fun h0 => absurd h0 hv⟩
            have : (r.take f.most).length = 0 := by rw [h0]; rfl
            rw [List.length_take] at this
            omega
      · rw [if_neg hk] at h; simp at h
/-- What an event without a fault is like. -/
structure EvOk (e : Ev) : Prop where
  cmd : e.told = 0 → CmOk e.cmd
  data : e.data.length ≤ 1024
theorem evOk_fault {t : Nat} (h : t ≠ 0) : EvOk (Ev.fault t) := ⟨fun e => absurd e h, by simp [Ev.fault]⟩
structure StOk (s : Fst) : Prop where
  ok : FOk s
  cmd : s.way = 1 → CmOk s.cmd
theorem endLine_st {p : Cmd × Nat} (h : p.2 = 0 → CmOk p.1) (hp : POk p) : StOk (endLine p).1 ∧ ∀ e, (endLine p).2 = some e → EvOk e := by
  refine ⟨⟨endLine_ok hp, ?_⟩, ?_⟩
  · intro hw
    unfold endLine at hw ⊢
    by_cases h5 : p.2 = 5
    · rw [if_pos h5] at hw; simp [Fst.at] at hw
    rw [if_neg h5] at hw ⊢
    by_cases h0 : p.2 ≠ 0
    · rw [if_pos h0] at hw; simp [Fst.at] at hw
    rw [if_neg h0] at hw ⊢
    by_cases hb : p.1.bytes < 0
    · rw [if_pos hb] at hw; simp [Fst.at] at hw
    rw [if_neg hb]
    exact h (by omega)
  · intro e he
    unfold endLine at he
    by_cases h5 : p.2 = 5
    · rw [if_pos h5] at he
      injection he with he; subst he
      exact evOk_fault (by decide)
    rw [if_neg h5] at he
    by_cases h0 : p.2 ≠ 0
    · rw [if_pos h0] at he
      injection he with he; subst he
      exact evOk_fault h0
    rw [if_neg h0] at he
    by_cases hb : p.1.bytes < 0
    · rw [if_pos hb] at he
      injection he with he; subst he
      exact ⟨fun _ => h (by omega), by simp⟩
    · rw [if_neg hb] at he; simp at he
theorem StOk.step {s : Fst} (h : StOk s) (b : UInt8) : StOk (stepF s b).1 ∧ ∀ e, (stepF s b).2 = some e → EvOk e := by
  have hk := h.ok.step b
  have at_ : ∀ w, w ≠ 1 → FOk (Fst.at w) → StOk (Fst.at w) := fun w hw ho => ⟨ho, fun e => absurd e hw⟩
  unfold stepF at hk ⊢
  by_cases h0 : s.way = 0
  · rw [if_pos h0] at hk ⊢
    unfold takeLineF at hk ⊢
    by_cases hb : b = 10
    · rw [if_pos hb]
      exact endLine_st (parseC_cm _) (parseC_ok _)
    rw [if_neg hb] at hk ⊢
    by_cases hl : s.held.length = 2048
    · rw [if_pos hl] at hk ⊢
      exact ⟨at_ 2 (by omega) hk, fun e he => by injection he with he; subst he; exact evOk_fault (by decide)⟩
    · rw [if_neg hl] at hk ⊢
      exact ⟨⟨hk, fun e => by have e : s.way = 1 := e; omega⟩, fun e he => by simp at he⟩
  rw [if_neg h0] at hk ⊢
  by_cases h1 : s.way = 1
  · rw [if_pos h1] at hk ⊢
    have hd := h.ok.data h1
    unfold takeDataF at hk ⊢
    by_cases c1 : (s.held.length : Int) < s.cmd.bytes
    · rw [if_pos c1] at hk ⊢
      exact ⟨⟨hk, fun _ => h.cmd h1⟩, fun e he => by simp at he⟩
    rw [if_neg c1] at hk ⊢
    by_cases c2 : s.ended = false ∧ b = 13
    · rw [if_pos c2] at hk ⊢
      exact ⟨⟨hk, fun _ => h.cmd h1⟩, fun e he => by simp at he⟩
    rw [if_neg c2] at hk ⊢
    by_cases c3 : s.ended = true ∧ b = 10
    · rw [if_pos c3] at hk ⊢
      exact ⟨at_ 0 (by omega) hk, fun e he => by injection he with he; subst he; exact ⟨fun _ => h.cmd h1, by show s.held.length ≤ 1024; omega⟩⟩
    rw [if_neg c3] at hk ⊢
    by_cases c4 : b = 10
    · rw [if_pos c4] at hk ⊢
      exact ⟨at_ 0 (by omega) hk, fun e he => by injection he with he; subst he; exact evOk_fault (by decide)⟩
    · rw [if_neg c4] at hk ⊢
      exact ⟨at_ 2 (by omega) hk, fun e he => by injection he with he; subst he; exact evOk_fault (by decide)⟩
  rw [if_neg h1] at hk ⊢
  by_cases h2 : s.way = 2
  · rw [if_pos h2] at hk ⊢
    by_cases hb : b = 10
    · rw [if_pos hb] at hk ⊢
      exact ⟨at_ 0 (by omega) hk, fun e he => by simp at he⟩
    · rw [if_neg hb] at hk ⊢
      exact ⟨h, fun e he => by simp at he⟩
  rw [if_neg h2] at hk ⊢
  by_cases hl : s.left = 1
  · rw [if_pos hl] at hk ⊢
    exact ⟨at_ 0 (by omega) hk, fun e he => by simp at he⟩
  · rw [if_neg hl] at hk ⊢
    exact ⟨⟨hk, fun e => absurd e h1⟩, fun e he => by simp at he⟩
theorem feed_evs : ∀ (l : List UInt8) (s : Fst), StOk s → ∀ e ∈ (feedF s l).2, EvOk e
  | [], s, hs, e, he => by simp [feedF] at he
  | b :: l, s, hs, e, he => by
    have e' : feedF s (b :: l) = ((feedF (stepF s b).1 l).1, (stepF s b).2.toList ++ (feedF (stepF s b).1 l).2) := rfl
    rw [e'] at he
    rcases List.mem_append.mp he with he | he
    · exact (hs.step b).2 e (by simpa using he)
    · exact feed_evs l _ (hs.step b).1 e he
/-- What a call that is told of is like. -/
structure ClOk (c : Cl) : Prop where
  value : c.value.length ≤ 1024
  key : c.key.length ≤ 250
  flush : c.key = [] ↔ c.verb = 11
theorem callsO_ok {e : Ev} (h : EvOk e) : ∀ c ∈ callsO e, ClOk c := by
  intro c hc
  unfold callsO at hc
  by_cases ht : e.told = 0
  · rw [if_pos ht] at hc
    have hm := h.cmd ht
    by_cases hv : e.cmd.verb = 0 ∨ e.cmd.verb = 12 ∨ e.cmd.verb = 13
    · rw [callsE_none hv] at hc; simp at hc
    by_cases hg : e.cmd.verb = 1 ∨ e.cmd.verb = 2
    · rw [callsE_get hg] at hc
      obtain ⟨k, hk, rfl⟩ := List.mem_map.mp hc
      obtain ⟨k0, k1, -⟩ := okF_facts (hm.keys k hk)
      refine ⟨?_, k1, ?_⟩
      · show e.cmd.value.length ≤ 1024
        rw [hm.value]; simp
      · show k = [] ↔ e.cmd.cverb = 11
        rw [hm.verb]
        refine ⟨fun e => by rw [e] at k0; simp at k0, fun e => by omega⟩
    · rw [callsE_one hv hg] at hc
      simp only [List.mem_cons, List.not_mem_nil, or_false] at hc
      subst hc
      refine ⟨h.data, ?_, ?_⟩
      · show e.cmd.key.length ≤ 250
        rw [hm.key]
        cases hk : e.cmd.keys with
        | nil => simp
        | cons k ks =>
          have := okF_facts (hm.keys k (by rw [hk]; simp))
          exact this.2.1
      · show e.cmd.key = [] ↔ e.cmd.cverb = 11
        rw [hm.verb, hm.key]
        have hs := hm.some
        cases hk : e.cmd.keys with
        | nil =>
          rw [hk] at hs
          have := hs.1 rfl
          exact ⟨fun _ => by omega, fun _ => rfl⟩
        | cons k ks =>
          rw [hk] at hs
          have k0 := (okF_facts (hm.keys k (by rw [hk]; simp))).1
          refine ⟨fun e => ?_, fun e => ?_⟩
          · have e : k = [] := e
            rw [e] at k0; simp at k0
          · exact absurd (hs.2 (.inl e)) (by simp)
  · rw [if_neg ht] at hc; simp at hc
theorem callsL_ok {es : List Ev} (h : ∀ e ∈ es, EvOk e) : ∀ c ∈ callsL es, ClOk c := by
  intro c hc
  unfold callsL at hc
  obtain ⟨e, he, hc⟩ := List.mem_flatMap.mp hc
  exact callsO_ok (h e he) c hc
theorem StOk.new : StOk Fst.new := ⟨FOk.new, fun e => by simp [Fst.new, Fst.at] at e⟩
theorem calls_ok (l : List UInt8) : ∀ c ∈ callsL (feedF Fst.new l).2, ClOk c := callsL_ok (feed_evs l _ StOk.new)
end Go.Proofs.Yteoeelhljimibaa
