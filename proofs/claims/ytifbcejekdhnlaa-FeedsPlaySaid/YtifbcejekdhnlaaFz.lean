/- FeedsCuts: bytes in chunks are told as bytes in one. -/
import Derived.Test.YtifbcejekdhnlaaFy
import Derived.Test.YtifbcejekdhnlaaByO
namespace Go.Proofs.Ytifbcejekdhnlaa
open Go.RowKit Go.Maps
set_option linter.unusedVariables false

theorem cuts_next (L : List UInt8) (r n : Nat) : feedF Fst.new (L.take (r + n)) = ((feedF (feedF Fst.new (L.take r)).1 ((L.drop r).take n)).1, (feedF Fst.new (L.take r)).2 ++ (feedF (feedF Fst.new (L.take r)).1 ((L.drop r).take n)).2) := by
  rw [List.take_add, feedF_append]
theorem part_len (L : List UInt8) (r n : Nat) (h : n ≤ L.length - r) : ((L.drop r).take n).length = n := by
  rw [List.length_take, List.length_drop]; omega
/-- A chunk goes in. -/
theorem chunkw {w W1 W : World} {B q r n c : Nat} {U : Nat → Prop} {hv kv v : Value} {ps : List (Ev × Value)} {L : List UInt8} {A : Option Addr} (h : Cts W1 B q U (feedF Fst.new (L.take r)).1 hv kv v ps W) (hp : ps.map Prod.fst = (feedF Fst.new (L.take r)).2) (hL : L.length ≤ 6000) (hr : r ≤ L.length) (hn : n ≤ L.length - r) (hc : n ≤ c) (hcm : c ≤ maxLen) (hrd : Rd w w.heap.size A (L.drop r)) (hb : Below w.heap.size w W1) :
    Calls Try.prog 10 #[.pointer (some ⟨q, 0, none⟩), .slice A n c] W fun e W' => ∃ U hv kv a qs, e = .returned (.slice a (List.length qs) (List.length qs)) ∧ Cts W1 B q U (feedF Fst.new (L.take (r + n))).1 hv kv v ps W' ∧ (ps ++ qs).map Prod.fst = (feedF Fst.new (L.take (r + n))).2 ∧ EvAt W' U W.heap.size (.slice a qs.length qs.length) qs := by
  have hlen := part_len L r n hn
  have hrw : Rd W W.heap.size A ((L.drop r).take n) := by
    have h1 : Rd w w.heap.size A ((L.drop r).take n) := hrd.cut n
    have h2 : Rd W w.heap.size A ((L.drop r).take n) := h1.below (hb.trans (h.base.mono hb.size)) (Nat.le_refl _)
    exact h2.mono (Nat.le_trans hb.size h.base.size)
  have := inw q U _ hv kv A c ((L.drop r).take n) W h.fd (FOk.new.feed (L.take r)) (by rw [hlen]; exact ⟨hc, hcm⟩) (by rw [hlen]; omega) hrw (by
    intro g o e h0 u
    obtain ⟨g', o', e', hg, _⟩ := (hrd.cut n) h0
    rw [e] at e'
    injection e' with e'
    injection e' with e1 _
    subst e1
    have := h.up g u
    have := hb.size
    omega)
  rw [hlen] at this
  refine this.mono ?_
  rintro e W' ⟨U', hv', kv', v', qs, rfl, hf, hk, hg, hq, hev⟩
  have hc' := h.in_ hf hk hg
  obtain ⟨a, rfl⟩ := hev.form
  refine ⟨U', hv', kv', a, qs, rfl, ?_, ?_, hev⟩
  · rw [cuts_next]; exact hc'
  · rw [cuts_next, List.map_append, hp, hq]
theorem cut_rest {A : Option Addr} {l r n c : Nat} : Value.slice A (l - r - n) (c - n) = .slice A (l - (r + n)) (c - n) := by
  rw [Nat.sub_sub]
theorem KyR.on {W W' : World} {kv : Value} {l : List (List UInt8)} (h : KyR W kv l) (hb : Below W.heap.size W W') : KyR W' kv l := by
  obtain ⟨A, c, e, h1, h2, h3⟩ := h.form
  refine ⟨A, c, e, h1, h2, fun k x hx => ?_⟩
  obtain ⟨g, e2, hg, hc⟩ := h3 k x hx
  exact ⟨g, e2, Nat.lt_of_lt_of_le hg hb.size, (hb.cell (p := ⟨g, k, none⟩) hg).trans hc⟩
/-- Events that can be read: of whatever list. -/
structure EvR (W : World) (v : Value) (ps : List (Ev × Value)) : Prop where
  form : ∃ A c, v = .slice A ps.length c ∧ ps.length ≤ c ∧ c ≤ maxLen ∧ (0 < ps.length → ∃ g, A = some ⟨g, 0, none⟩ ∧ g < W.heap.size ∧ ∀ j u, (rowsE ps)[j]? = some u → W.cell? ⟨g, j, none⟩ = some u)
  keys : ∀ p ∈ ps, KyR W p.2 p.1.cmd.keys
theorem EvR.on {W W' : World} {v : Value} {ps : List (Ev × Value)} (h : EvR W v ps) (hb : Below W.heap.size W W') : EvR W' v ps := by
  obtain ⟨A, c, e, h1, h2, h3⟩ := h.form
  refine ⟨⟨A, c, e, h1, h2, fun h0 => ?_⟩, fun p hp => (h.keys p hp).on hb⟩
  obtain ⟨g, e2, hg, hc⟩ := h3 h0
  exact ⟨g, e2, Nat.lt_of_lt_of_le hg hb.size, fun j u hu => (hb.cell (p := ⟨g, j, none⟩) hg).trans (hc j u hu)⟩
theorem EvAt.rd {W : World} {U : Nat → Prop} {B : Nat} {v : Value} {ps : List (Ev × Value)} (h : EvAt W U B v ps) (hm : ps.length ≤ 1048576) : EvR W v ps := by
  obtain ⟨a, rfl⟩ := h.form
  refine ⟨⟨a, _, rfl, Nat.le_refl _, by unfold maxLen; omega, fun h0 => ?_⟩, fun p hp => (h.keys p hp).rd⟩
  obtain ⟨g, e, hc⟩ := h.cells.2 h0
  refine ⟨g, e, ?_, hc⟩
  obtain ⟨p, hp⟩ : ∃ p, ps[0]? = some p := ⟨_, List.getElem?_eq_getElem h0⟩
  cases ps with
  | nil => simp at h0
  | cons p ps => exact World.block_lt_of_cell? _ _ (hc 0 _ rfl)
theorem Cts.rd {W1 W : World} {B q : Nat} {U : Nat → Prop} {s : Fst} {hv kv v : Value} {ps : List (Ev × Value)} (h : Cts W1 B q U s hv kv v ps W) : EvR W v ps := by
  refine ⟨?_, fun p hp => (h.keys p hp).rd⟩
  obtain ⟨a, c, rfl, h1, h2, h3⟩ := row_slice h.row
  refine ⟨a, c, rfl, h1, h2, fun h0 => ?_⟩
  rcases h.row.2 with ⟨he, h4⟩ | ⟨g, cap, cur, he, _⟩
  · omega
  · injection he with e1
    subst e1
    have hc : ∀ j u, (rowsE ps)[j]? = some u → W.cell? ⟨g, j, none⟩ = some u := fun j u hu => by
      have := h.row.cells (g := g) rfl j u hu
      rwa [Addr.add_lit, Nat.zero_add] at this
    refine ⟨g, rfl, ?_, hc⟩
    cases ps with
    | nil => simp at h0
    | cons p ps => exact World.block_lt_of_cell? _ _ (hc 0 _ rfl)
theorem rowsE_at : ∀ (ps : List (Ev × Value)) (k j : Nat) (p : Ev × Value) (u : Value), ps[k]? = some p → (evC p.1 p.2)[j]? = some u → (rowsE ps)[k * 13 + j]? = some u
  | [], k, j, p, u, h, hu => by simp at h
  | q :: ps, 0, j, p, u, h, hu => by
    simp only [List.getElem?_cons_zero, Option.some.injEq] at h
    subst h
    show (evC q.1 q.2 ++ rowsE ps)[0 * 13 + j]? = some u
    rw [Nat.zero_mul, Nat.zero_add, List.getElem?_append_left]
    · exact hu
    · exact (List.getElem?_eq_some_iff.mp hu).1
  | q :: ps, k + 1, j, p, u, h, hu => by
    simp only [List.getElem?_cons_succ] at h
    show (evC q.1 q.2 ++ rowsE ps)[(k + 1) * 13 + j]? = some u
    rw [List.getElem?_append_right (by rw [evC_len]; omega), evC_len, show (k + 1) * 13 + j - 13 = k * 13 + j by omega]
    exact rowsE_at ps k j p u h hu
/-- The cells of an event in a list. -/
theorem ev_of {ps : List (Ev × Value)} {k : Nat} {p : Ev × Value} {W : World} {g : Nat} (hp : ps[k]? = some p) (h : ∀ j u, (rowsE ps)[j]? = some u → W.cell? ⟨g, j, none⟩ = some u) : ∀ j u, (evC p.1 p.2)[j]? = some u → W.cell? ⟨g, k * 13 + j, none⟩ = some u :=
  fun j u hu => h _ u (rowsE_at ps k j p u hp hu)
end Go.Proofs.Ytifbcejekdhnlaa
