/- Scripts: commands behind commands. -/
import Derived.Test.YtcmogfdbjppdeaaScSum
namespace Go.Proofs.Ytcmogfdbjppdeaa
open Go.RowKit
set_option linter.unusedVariables false

/-- Texts' values, each of which reads as its command's bytes. -/
def RdAll (w : World) (B : Nat) (cs : List Cm) (vs : List Value) : Prop :=
  vs.length = cs.length ∧ ∀ (i : Nat) (x : Cm), cs[i]? = some x → ∃ (ab : Option Addr) (cb : Nat), vs[i]? = some (.slice ab x.2.2.length cb) ∧ x.2.2.length ≤ cb ∧ cb ≤ maxLen ∧ Rd w B ab x.2.2 ∧ (ab = none → cb = 0)
theorem RdAll.nil (w : World) (B : Nat) : RdAll w B [] [] := ⟨rfl, fun i x h => by simp at h⟩
theorem RdAll.on {w w' : World} {cs : List Cm} {vs : List Value} {B : Nat} (h : RdAll w B cs vs) (hb : Below B w w') : RdAll w' B cs vs :=
  ⟨h.1, fun i x hx => by
    obtain ⟨ab, cb, h1, h2, h3, h4, h5⟩ := h.2 i x hx
    exact ⟨ab, cb, h1, h2, h3, h4.below hb (Nat.le_refl _), h5⟩⟩
theorem RdAll.mono {w : World} {cs : List Cm} {vs : List Value} {B B' : Nat} (h : RdAll w B cs vs) (hB : B ≤ B') : RdAll w B' cs vs :=
  ⟨h.1, fun i x hx => by
    obtain ⟨ab, cb, h1, h2, h3, h4, h5⟩ := h.2 i x hx
    exact ⟨ab, cb, h1, h2, h3, h4.mono hB, h5⟩⟩
theorem RdAll.app {w : World} {B : Nat} {cs ds : List Cm} {vs us : List Value} (h : RdAll w B cs vs) (k : RdAll w B ds us) : RdAll w B (cs ++ ds) (vs ++ us) := by
  refine ⟨by simp [h.1, k.1], fun i x hx => ?_⟩
  rcases Nat.lt_or_ge i cs.length with hi | hi
  · rw [List.getElem?_append_left hi] at hx
    obtain ⟨ab, cb, h1, r⟩ := h.2 i x hx
    exact ⟨ab, cb, by rw [List.getElem?_append_left (by rw [h.1]; exact hi)]; exact h1, r⟩
  · rw [List.getElem?_append_right hi] at hx
    obtain ⟨ab, cb, h1, r⟩ := k.2 _ x hx
    exact ⟨ab, cb, by rw [List.getElem?_append_right (by rw [h.1]; exact hi), h.1]; exact h1, r⟩
theorem rows3_app (K : IntKind) (ds : List Cm) (us : List Value) : ∀ (cs : List Cm) (vs : List Value), vs.length = cs.length → rows3 K (cs ++ ds) (vs ++ us) = rows3 K cs vs ++ rows3 K ds us
  | [], [], _ => by simp [rows3]
  | y :: cs, u :: vs, h => by
    have := rows3_app K ds us cs vs (by simpa using h)
    simp [rows3, this]
  | [], _ :: _, h => by simp at h
  | _ :: _, [], h => by simp at h
/-- The rows of a list that is read. -/
theorem RdC.rows {w : World} {B : Nat} {K : IntKind} {a : Option Addr} {cs : List Cm} (h : RdC w B K a cs) : ∃ vs, RdAll w B cs vs ∧ (∀ u ∈ rows3 K cs vs, u.oneCell' = true) ∧ (0 < cs.length → ∃ g off, a = some ⟨g, off, none⟩ ∧ ∀ j u, (rows3 K cs vs)[j]? = some u → w.cell? ⟨g, off + j, none⟩ = some u) := by
  rcases Nat.eq_zero_or_pos cs.length with h0 | h0
  · have := List.eq_nil_of_length_eq_zero h0
    subst this
    exact ⟨[], RdAll.nil _ _, fun u hu => by simp [rows3] at hu, fun h => absurd h (by simp)⟩
  · obtain ⟨g, off, rfl, hat⟩ := h h0
    let f : Nat → Value := fun i => (w.cell? ⟨g, off + i * 3 + 2, none⟩).getD undef
    have hf : ∀ i x, cs[i]? = some x → ∃ ab cb, f i = .slice ab x.2.2.length cb ∧ w.cell? ⟨g, off + i * 3 + 2, none⟩ = some (f i) ∧ x.2.2.length ≤ cb ∧ cb ≤ maxLen ∧ Rd w B ab x.2.2 ∧ (ab = none → cb = 0) := by
      intro i x hx
      obtain ⟨_, _, _, ab, cb, h4, h5, h6, h7, h8⟩ := hat i x hx
      have : f i = .slice ab x.2.2.length cb := by show (w.cell? _).getD _ = _; rw [h4]; rfl
      exact ⟨ab, cb, this, by rw [this]; exact h4, h5, h6, h7, h8⟩
    have hvs : ∀ i x, cs[i]? = some x → ((List.range cs.length).map f)[i]? = some (f i) := by
      intro i x hx
      have hi : i < cs.length := by
        rcases Nat.lt_or_ge i cs.length with h | h
        · exact h
        · rw [List.getElem?_eq_none h] at hx; simp at hx
      simp [hi]
    have hrow : ∀ j u, (rows3 K cs ((List.range cs.length).map f))[j]? = some u → w.cell? ⟨g, off + j, none⟩ = some u ∧ u.oneCell' = true := by
      intro j u hu
      have hjl : j < cs.length * 3 := by
        rcases Nat.lt_or_ge j (cs.length * 3) with h | h
        · exact h
        · rw [List.getElem?_eq_none (by rw [rows3_len K cs _ (by simp)]; exact h)] at hu; simp at hu
      have hi : j / 3 < cs.length := by omega
      obtain ⟨i, hie⟩ : ∃ i, i = j / 3 := ⟨_, rfl⟩
      obtain ⟨x, hx⟩ : ∃ x, cs[i]? = some x := ⟨_, List.getElem?_eq_getElem (by omega)⟩
      obtain ⟨r0, r1, r2⟩ := rows3_at K cs _ i _ _ hx (hvs _ _ hx)
      obtain ⟨_, c0, c1, _⟩ := hat _ _ hx
      obtain ⟨ab, cb, e, c2, _⟩ := hf _ _ hx
      rcases (by omega : j = i * 3 ∨ j = i * 3 + 1 ∨ j = i * 3 + 2) with h | h | h
      · rw [h, r0] at hu
        injection hu with hu
        subst hu
        exact ⟨by rw [h]; exact c0, rfl⟩
      · rw [h, r1] at hu
        injection hu with hu
        subst hu
        exact ⟨by rw [h, ← Nat.add_assoc]; exact c1, rfl⟩
      · rw [h, r2] at hu
        injection hu with hu
        subst hu
        exact ⟨by rw [h, ← Nat.add_assoc]; exact c2, by rw [e]; rfl⟩
    refine ⟨(List.range cs.length).map f, ⟨by simp, fun i x hx => ?_⟩, fun u hu => ?_, fun _ => ⟨g, off, rfl, fun j u hu => (hrow j u hu).1⟩⟩
    · obtain ⟨ab, cb, e, _, r⟩ := hf i x hx
      exact ⟨ab, cb, by rw [hvs i x hx, e], r⟩
    · obtain ⟨j, hj, hju⟩ := List.getElem_of_mem hu
      exact (hrow j u (by rw [List.getElem?_eq_getElem hj, hju])).2
/-- A row of the call's own, read. -/
theorem rdc_row {w : World} {B B' : Nat} {K : IntKind} {T : TypeId} {a : Option Addr} {n c : Nat} {cs : List Cm} {vs : List Value} (h : w.ownsRow B T 3 (.slice a n c) cs.length (rows3 K cs vs)) (hv : RdAll w B' cs vs) (hB : B' ≤ w.heap.size) : RdC w w.heap.size K a cs := fun h0 => by
  rcases h.2 with ⟨he, hn⟩ | ⟨g, cap, cur, he, hBg, hg, _⟩
  · omega
  · injection he with e1 e2 e3
    subst e1
    have hcell : ∀ j u, (rows3 K cs vs)[j]? = some u → w.cell? ⟨g, j, none⟩ = some u := by
      intro j u hu
      have := h.cells (g := g) (by subst e2 e3; rfl) j u hu
      rwa [Addr.add_lit, Nat.zero_add] at this
    refine ⟨g, 0, rfl, fun i x hx => ?_⟩
    obtain ⟨ab, cb, k1, k2, k3, k4, k5⟩ := hv.2 i x hx
    obtain ⟨r0, r1, r2⟩ := rows3_at K cs vs i x _ hx k1
    rw [Nat.zero_add]
    exact ⟨blk_lt hg, hcell _ _ r0, hcell _ _ r1, ab, cb, hcell _ _ r2, k2, k3, k4.mono hB, k5⟩
theorem wpList_append_rw {P : Program} (w : World) {ops : Array Oper} {rest : List Oper} {o : Oper} {a : Act} {Q : Exit → Act → World → Prop} (hgd : o.guard = none) (s x : Operand) (t : TypeId)
    (ho : o.op = .call { callee := .builtin .append, args := #[s, x], argTypes := #[t, t] })
    (base : Nat) (e : TypeId) (z : Value) (ht : P.underlying t = some (.slice e)) (hinfo : (P.info? e).map (fun i => (i.zero, i.size, i.bytes)) = some (some z, 3, 40)) (hzs : z.cells.size = 3)
    (v : Value) (n : Nat) (xs : List Value) (hs : a.eval s = v) (hown : w.ownsRow base e 3 v n xs)
    (A : Option Addr) (m c : Nat) (news : List Value) (hx : a.eval x = .slice A m c) (hl : news.length = m * 3) (hr : 0 < m → ∃ g off, A = some ⟨g, off, none⟩ ∧ ∀ j u, news[j]? = some u → w.cell? ⟨g, off + j, none⟩ = some u) (h1 : ∀ u ∈ news, u.oneCell' = true) (hc0 : A = none → c = 0)
    (hlen : n + m ≤ 1048576) (hbase : base ≤ w.heap.size)
    (h : ∀ v' w', w'.ownsRow base e 3 v' (n + m) (xs ++ news) → w.grownBy w' v.ownBlock → wpList P ops Q rest (a.put o.dst v') w') : wpList P ops Q (o :: rest) a w := by
  obtain ⟨i0, hi, hz0, hz1, hz2⟩ := info_parts hinfo
  cases A with
  | none =>
    have hm : m = 0 := by
      rcases Nat.eq_zero_or_pos m with h | h
      · exact h
      · obtain ⟨g, off, e, _⟩ := hr h; simp at e
    subst hm
    have hnn : news = [] := List.eq_nil_of_length_eq_zero (by simpa using hl)
    subst hnn
    have hc := hc0 rfl
    subst hc
    refine wpList_append_own_none hgd s x t ho base e i0 3 ht hi v _ _ hs hown hx ?_
    exact h v w (by simpa using hown) (World.grownBy.refl w _)
  | some ad =>
    have hcell : ∀ j u, news[j]? = some u → w.cell? (ad.add j) = some u := by
      intro j u hj
      have hm : 0 < m := by
        rcases Nat.eq_zero_or_pos m with h | h
        · subst h
          have hnn : news = [] := List.eq_nil_of_length_eq_zero (by simpa using hl)
          subst hnn
          simp at hj
        · exact h
      obtain ⟨g, off, e, hc⟩ := hr hm
      injection e with e
      subst e
      rw [Addr.add_lit]
      exact hc j u hj
    exact wpList_append_own w hgd s x t ho base e i0 z 3 40 ht hi hz0 hz1 hz2 hzs (by decide) v n xs hs hown ad m c news hx hl hcell h1 (by unfold maxLen; omega) (by omega) hbase fun v' w' h1 h2 _ => h v' w' h1 h2
end Go.Proofs.Ytcmogfdbjppdeaa
