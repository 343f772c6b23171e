/- Maps as mathematics: what runs of calls leave. -/
import Derived.Test.YtmjklkcjinfmaaaDoorMaC
namespace Go.Proofs.YtmjklkcjinfmaaaDoor
set_option linter.unusedVariables false

def tickN : Nat → Int → Int
  | 0, w => w
  | n + 1, w => tickf (tickN n w)
theorem tickN_range {w : Int} (h : 0 ≤ w ∧ w < 18446744073709551616) : ∀ n, 0 ≤ tickN n w ∧ tickN n w < 18446744073709551616
  | 0 => h
  | n + 1 => tickf_range _
theorem tick_after (E : Int) (h1 : 0 ≤ E) (h2 : E < 18446744073709551616) (n : Nat) : tickf (after E n) = after E ((n : Int) + 1) := by
  obtain ⟨⟨a1, a2⟩, ⟨a3, a4⟩, ⟨a5, a6⟩⟩ := ep_range E
  have p : ∀ t : Int, 0 < t → after E t = if 0 < atf E ∧ atf E ≤ min (nowf E + t) 16777215 then putf (min (nowf E + t) 16777215) 0 (min (genf E + 1) 65535) else putf (min (nowf E + t) 16777215) (atf E) (genf E) := by
    intro t ht
    unfold after
    rw [if_neg (by omega)]
  rcases Nat.eq_zero_or_pos n with rfl | hn
  · have e : after E ((0 : Nat) : Int) = E := by unfold after; rw [if_pos (by simp)]
    rw [e, show ((0 : Nat) : Int) + 1 = 1 from rfl, p 1 (by omega)]
    unfold tickf
    by_cases c : nowf E < 16777215
    · have e1 : min (nowf E + 1) 16777215 = nowf E + 1 := by omega
      have e2 : (if genf E < 65535 then genf E + 1 else 65535) = min (genf E + 1) 65535 := by split <;> omega
      rw [if_pos c, e1, e2]
    · have e1 : min (nowf E + 1) 16777215 = 16777215 := by omega
      rw [if_neg c, e1]
      by_cases d : 0 < atf E
      · have e2 : (if genf E < 65535 then genf E + 1 else 65535) = min (genf E + 1) 65535 := by split <;> omega
        rw [if_pos d, if_pos (show 0 < atf E ∧ atf E ≤ 16777215 from ⟨d, by omega⟩), e2]
      · rw [if_neg d, if_neg (by omega)]
  · skip
    rw [p _ (by omega), p _ (by omega)]
    obtain ⟨m, hm⟩ : ∃ m, min (nowf E + (n : Int)) 16777215 = m := ⟨_, rfl⟩
    rw [hm]
    have hm1 : 0 ≤ m ∧ m ≤ 16777215 := by omega
    have e1 : min (nowf E + ((n : Int) + 1)) 16777215 = if m < 16777215 then m + 1 else 16777215 := by split <;> omega
    rw [e1]
    by_cases c : 0 < atf E ∧ atf E ≤ m
    · rw [if_pos c]
      have t : tickf (putf m 0 (min (genf E + 1) 65535)) = putf (if m < 16777215 then m + 1 else 16777215) 0 (min (genf E + 1) 65535) := by
        unfold tickf
        rw [now_put, at_put, gen_put]
        have : m % 16777216 = m := by omega
        rw [this]
        by_cases d : m < 16777215
        · rw [if_pos d, if_neg (by simp), if_pos d]
          congr 1 <;> omega
        · rw [if_neg d, if_neg (by simp), if_neg d]
          congr 1 <;> omega
      rw [t, if_pos (show 0 < atf E ∧ atf E ≤ (if m < 16777215 then m + 1 else 16777215) from ⟨c.1, by split <;> omega⟩)]
    · rw [if_neg c]
      unfold tickf
      rw [now_put, at_put, gen_put]
      have x1 : m % 16777216 = m := by omega
      have x2 : atf E % 16777216 = atf E := by omega
      have x3 : genf E % 65536 = genf E := by omega
      rw [x1, x2, x3]
      by_cases d : m < 16777215
      · have e2 : (if genf E < 65535 then genf E + 1 else 65535) = min (genf E + 1) 65535 := by split <;> omega
        rw [if_pos d, if_pos d, e2]
      · rw [if_neg d, if_neg d]
        by_cases f : 0 < atf E
        · exact absurd ⟨f, by omega⟩ c
        · rw [if_neg f, if_neg (by omega)]
theorem tickN_after {E : Int} (h : 0 ≤ E ∧ E < 18446744073709551616) : ∀ n : Nat, tickN n E = after E n
  | 0 => by unfold after; rw [if_pos (by simp)]; rfl
  | n + 1 => by
    show tickf (tickN n E) = _
    rw [tickN_after h n, tick_after E h.1 h.2 n]
    simp
/-- An epoch that ticks made of another. -/
def Bhd (E w : Int) : Prop := ∃ n, w = tickN n E
theorem Bhd.refl (E : Int) : Bhd E E := ⟨0, rfl⟩
theorem Bhd.tick {E w : Int} (h : Bhd E w) : Bhd E (tickf w) := by
  obtain ⟨n, rfl⟩ := h
  exact ⟨n + 1, rfl⟩
theorem Bhd.ticks {E w : Int} (h : Bhd E w) : ∀ n, Bhd E (tickN n w)
  | 0 => h
  | n + 1 => (h.ticks n).tick
theorem Bhd.range {E w : Int} (h : Bhd E w) (hE : 0 ≤ E ∧ E < 18446744073709551616) : 0 ≤ w ∧ w < 18446744073709551616 := by
  obtain ⟨n, rfl⟩ := h
  exact tickN_range hE n
theorem Bhd.comes {E w : Int} (h : Bhd E w) (hE : 0 ≤ E ∧ E < 18446744073709551616) : comes E w = true := by
  obtain ⟨n, rfl⟩ := h
  obtain ⟨⟨a1, a2⟩, ⟨a3, a4⟩, ⟨a5, a6⟩⟩ := ep_range E
  rw [tickN_after hE]
  unfold Proofs.YtmjklkcjinfmaaaDoor.comes
  by_cases c : nowf E + n ≤ 16777215
  · have e : nowf (after E n) - nowf E = n := by
      rcases Nat.eq_zero_or_pos n with rfl | hn
      · have : after E ((0 : Nat) : Int) = E := by unfold after; rw [if_pos (by simp)]
        rw [this]
        simp
      · rw [after_now _ _ (by omega)]; omega
    rw [e]
    simp
  · have e1 : nowf (after E n) = 16777215 := by rw [after_now _ _ (by omega)]; omega
    have p : ∀ t : Int, 0 < t → after E t = if 0 < atf E ∧ atf E ≤ min (nowf E + t) 16777215 then putf (min (nowf E + t) 16777215) 0 (min (genf E + 1) 65535) else putf (min (nowf E + t) 16777215) (atf E) (genf E) := by
      intro t ht
      unfold after
      rw [if_neg (by omega)]
    have m1 : min (nowf E + (16777215 - nowf E + 1)) 16777215 = 16777215 := by omega
    have m2 : min (nowf E + (n : Int)) 16777215 = 16777215 := by omega
    have e2 : after E (nowf (after E n) - nowf E + 1) = after E n := by
      rw [e1, p _ (by omega), p _ (by omega), m1, m2]
    rw [e2]
    simp
theorem Bhd.gen {E w : Int} (h : Bhd E w) : genf E ≤ genf w := by
  obtain ⟨n, rfl⟩ := h
  induction n with
  | zero => exact Int.le_refl _
  | succ n ih => have := tick_gen (tickN n E); show _ ≤ genf (tickf (tickN n E)); omega

/-- A call, done: its answer. -/
def Mst.does (S : Mst) (c : Cal) (w : Int) : Ans × Mst := match S.gives c w with | some g => (g.a, g.S) | .none => (Ans.none, S)
theorem does_fits (S : Mst) (c : Cal) (w : Int) {g : Gv} (h : S.gives c w = some g) : S.fits c w g.a = (true, g.S) := by
  unfold Mst.fits
  rw [h]
  simp
theorem verb_epoch {S : Mst} {c : Cal} {w : Int} {g : Gv} (h : S.verb c w = some g) : (c.verb = 11 ∧ g.a.kind = 10 ∧ g.S.e = flushf w c.exp) ∨ (g.a.kind ≠ 10 ∧ g.S.e = w) :=
  verb_elim (P := fun g => (c.verb = 11 ∧ g.a.kind = 10 ∧ g.S.e = flushf w c.exp) ∨ (g.a.kind ≠ 10 ∧ g.S.e = w)) h (fun k _ _ h3 => .inr ⟨h3, rfl⟩) (.inr ⟨fun e => absurd e (by show (_ : Int) ≠ 10; first | (show (1 : Int) ≠ 10; decide) | (show (11 : Int) ≠ 10; decide) | (show (6 : Int) ≠ 10; decide) | (show (7 : Int) ≠ 10; decide) | (show (8 : Int) ≠ 10; decide)), rfl⟩) (fun _ _ => .inr ⟨fun e => absurd e (by show (_ : Int) ≠ 10; first | (show (1 : Int) ≠ 10; decide) | (show (11 : Int) ≠ 10; decide) | (show (6 : Int) ≠ 10; decide) | (show (7 : Int) ≠ 10; decide) | (show (8 : Int) ≠ 10; decide)), rfl⟩) (fun _ _ => .inr ⟨fun e => absurd e (by show (_ : Int) ≠ 10; first | (show (1 : Int) ≠ 10; decide) | (show (11 : Int) ≠ 10; decide) | (show (6 : Int) ≠ 10; decide) | (show (7 : Int) ≠ 10; decide) | (show (8 : Int) ≠ 10; decide)), rfl⟩) (fun _ _ => .inr ⟨fun e => absurd e (by show (_ : Int) ≠ 10; first | (show (1 : Int) ≠ 10; decide) | (show (11 : Int) ≠ 10; decide) | (show (6 : Int) ≠ 10; decide) | (show (7 : Int) ≠ 10; decide) | (show (8 : Int) ≠ 10; decide)), rfl⟩) (fun _ _ _ => .inr ⟨fun e => absurd e (by show (_ : Int) ≠ 10; first | (show (1 : Int) ≠ 10; decide) | (show (11 : Int) ≠ 10; decide) | (show (6 : Int) ≠ 10; decide) | (show (7 : Int) ≠ 10; decide) | (show (8 : Int) ≠ 10; decide)), rfl⟩) (fun e _ => .inl ⟨e, rfl, rfl⟩)
theorem verb_ids {S : Mst} {c : Cal} {w : Int} {g : Gv} (h : S.verb c w = some g) : g.S.i = if g.a.kind = 1 ∨ g.a.kind = 8 then u64 (S.i + 1) else S.i :=
  verb_elim (P := fun g => g.S.i = if g.a.kind = 1 ∨ g.a.kind = 8 then u64 (S.i + 1) else S.i) h (fun k h1 h2 _ => by show S.i = if k = 1 ∨ k = 8 then _ else _; rw [if_neg (by omega)]) rfl (fun _ _ => rfl) (fun _ _ => rfl) (fun _ _ => rfl) (fun _ _ _ => rfl) (fun _ _ => rfl)
theorem verb_keep {S : Mst} {c : Cal} {w : Int} {g : Gv} (h : S.verb c w = some g) {k : ByteArray} (hk : k ≠ c.key) : mlook g.S.L k = mlook S.L k :=
  verb_elim (P := fun g => mlook g.S.L k = mlook S.L k) h (fun _ _ _ _ => rfl) (look_put_other (x := recM S c w) hk) (fun _ _ => rfl) (fun _ _ => look_wo_other hk)
    (fun x e => look_put_other (x := { x with dies := diesf w c.exp }) (by show k ≠ x.k; rw [look_key (there_look e).1]; exact hk))
    (fun x e _ => look_put_other (x := ⟨x.k, _, _, _, _, _⟩) (by show k ≠ x.k; rw [look_key (there_look e).1]; exact hk)) (fun _ _ => rfl)
theorem verb_refused {S : Mst} {c : Cal} {w : Int} {g : Gv} (h : S.verb c w = some g) : g.refused = ((mlook S.L c.key).isNone && decide (g.a.kind = 1)) :=
  verb_elim (P := fun g => g.refused = ((mlook S.L c.key).isNone && decide (g.a.kind = 1))) h (fun k h1 _ _ => by simp [Mst.stay, Ans.of, h1]) (by simp [Mst.stores]) (fun _ _ => by simp) (fun _ _ => by simp [Ans.of]) (fun _ _ => by simp [Ans.of]) (fun _ _ _ => by simp) (fun _ _ => by simp [Ans.of])
theorem gives_verb {S : Mst} {c : Cal} {w : Int} {g : Gv} (h : S.gives c w = some g) : comes S.e w = true ∧ (c.verb = 11 ∨ okB c.key = true) ∧ S.verb c w = some g := by
  unfold Mst.gives at h
  split at h
  · next e => exact ⟨e.1, e.2, h⟩
  · simp at h
theorem gens_verb {S : Mst} {c : Cal} {w : Int} {g : Gv} (h : S.verb c w = some g) (hg : ∀ x ∈ S.L, x.gen ≤ genf w) : ∀ x ∈ g.S.L, x.gen ≤ genf w := by
  have hw : ∀ x ∈ wo S.L c.key, x.gen ≤ genf w := fun x hx => hg x (List.mem_filter.mp hx).1
  have hp : ∀ y : Itm, y.gen ≤ genf w → ∀ x ∈ put S.L y, x.gen ≤ genf w := by
    intro y hy x hx
    rcases List.mem_append.mp hx with hx | hx
    · exact hg x (List.mem_filter.mp hx).1
    · simp at hx; subst hx; exact hy
  have st : ∀ x ∈ (S.stores c w).S.L, x.gen ≤ genf w := hp (recM S c w) (Int.le_refl _)
  exact verb_elim (P := fun g => ∀ x ∈ g.S.L, x.gen ≤ genf w) h (fun _ _ _ _ => hg) st (fun _ _ => hg) (fun _ _ => hw) (fun x e => hp _ (hg x (look_mem (there_look e).1))) (fun x e _ => hp _ (hg x (look_mem (there_look e).1))) (fun _ _ => hg)
/-- What holds between two calls of a run. -/
structure Rn (S : Mst) (w : Int) : Prop where
  ok : MOk S
  bhd : Bhd S.e w
  gens : ∀ x ∈ S.L, x.gen ≤ genf S.e
theorem Rn.new : Rn Mst.new 0 := ⟨MOk.new, Bhd.refl 0, by simp [Mst.new]⟩
theorem Rn.range {S : Mst} {w : Int} (h : Rn S w) : 0 ≤ w ∧ w < 18446744073709551616 := h.bhd.range h.ok.e
theorem Rn.tick {S : Mst} {w : Int} (h : Rn S w) : Rn S (tickf w) := ⟨h.ok, h.bhd.tick, h.gens⟩
theorem Rn.ticks {S : Mst} {w : Int} (h : Rn S w) (n : Nat) : Rn S (tickN n w) := ⟨h.ok, h.bhd.ticks n, h.gens⟩
theorem Rn.does {S : Mst} {w : Int} (h : Rn S w) {c : Cal} (hc : CalOk c) : Rn (S.does c w).2 (if (S.does c w).1.kind = 10 then (S.does c w).2.e else w) := by
  unfold Mst.does
  cases e : S.gives c w with
  | none => exact ⟨h.ok, h.bhd, h.gens⟩
  | some g =>
    obtain ⟨h1, h2, h3⟩ := gives_verb e
    have hw := h.range
    have hg := gens_verb h3 fun x hx => Int.le_trans (h.gens x hx) h.bhd.gen
    rcases verb_epoch h3 with ⟨_, k1, k2⟩ | ⟨k1, k2⟩
    · refine ⟨h.ok.verb hc hw h3, ?_, fun x hx => ?_⟩
      · simp only [k1, if_true]; exact Bhd.refl _
      · have := hg x hx
        have f := flush_gen w c.exp
        show x.gen ≤ genf g.S.e
        rw [k2, f]
        split <;> omega
    · refine ⟨h.ok.verb hc hw h3, ?_, fun x hx => ?_⟩
      · simp only [k1, if_false]
        rw [k2]
        exact Bhd.refl _
      · show x.gen ≤ genf g.S.e
        rw [k2]; exact hg x hx
/-- Behind a flush that is due nothing that was there is alive. -/
theorem flush_due {w : Int} (n : Nat) (h1 : genf w < 65535) (h2 : nowf w + 30 ≤ 16777215) (hn : n ≤ 20) : genf (tickN n (flushf w n)) = genf w + 1 := by
  obtain ⟨⟨a1, a2⟩, ⟨a3, a4⟩, ⟨a5, a6⟩⟩ := ep_range w
  rcases Nat.eq_zero_or_pos n with rfl | hp
  · show genf (flushf w ((0 : Nat) : Int)) = _
    rw [flush_gen, if_pos ⟨h1, by simp⟩]
  · have e : flushf w n = putf (nowf w) (nowf w + n) (genf w) := by
      unfold flushf
      rw [if_pos h1, if_neg (by omega), if_pos (by omega)]
    have k : ∀ j : Nat, j < n → tickN j (flushf w n) = putf (nowf w + j) (nowf w + n) (genf w) := by
      intro j
      induction j with
      | zero => intro _; rw [show tickN 0 (flushf w n) = flushf w n from rfl, e]; simp
      | succ j ih =>
        intro hj
        show tickf (tickN j (flushf w n)) = _
        rw [ih (by omega)]
        unfold tickf
        rw [now_put, at_put, gen_put]
        have x1 : (nowf w + (j : Int)) % 16777216 = nowf w + j := by omega
        have x2 : (nowf w + (n : Int)) % 16777216 = nowf w + n := by omega
        have x3 : genf w % 65536 = genf w := by omega
        rw [x1, x2, x3, if_pos (by omega), if_neg (by omega)]
        congr 1
        omega
    obtain ⟨m, rfl⟩ : ∃ m, n = m + 1 := ⟨n - 1, by omega⟩
    show genf (tickf (tickN m _)) = _
    rw [k m (by omega)]
    unfold tickf
    rw [now_put, at_put, gen_put]
    have x1 : (nowf w + (m : Int)) % 16777216 = nowf w + m := by omega
    have x2 : (nowf w + ((m + 1 : Nat) : Int)) % 16777216 = nowf w + m + 1 := by omega
    have x3 : genf w % 65536 = genf w := by omega
    rw [x1, x2, x3, if_pos (by omega), if_pos ⟨by omega, by omega⟩, gen_put, if_pos h1]
    omega
end Go.Proofs.YtmjklkcjinfmaaaDoor
