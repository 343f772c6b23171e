/- Slices of bytes: what they read as; one that is a call's own, with no room behind; bytes behind a row. -/
import Derived.Test.YtifbcejekdhnlaaDoorLib
import Derived.Laws.AppendOwnNone
import Derived.Laws.IdiomStrings
import Derived.Laws.BytesArg
import Derived.Deep.Slices
namespace Go.Proofs.YtifbcejekdhnlaaDoor
open Go.RowKit
set_option linter.unusedVariables false

def byv (l : List UInt8) : List Value := l.map fun c => Value.int .u8 (c.toNat : Int)
theorem byv_len (l : List UInt8) : (byv l).length = l.length := by simp [byv]
theorem byv_app (l m : List UInt8) : byv (l ++ m) = byv l ++ byv m := by simp [byv]
theorem byv_one {l : List UInt8} {u : Value} (h : u ∈ byv l) : u.oneCell' = true := by
  simp only [byv, List.mem_map] at h
  obtain ⟨c, _, rfl⟩ := h
  rfl
theorem byv_at {l : List UInt8} {j : Nat} (h : j < l.length) : (byv l)[j]? = some (.int .u8 (l[j].toNat : Int)) := by simp [byv, h]
/-- At this address these bytes are read; their block is below B. Of no bytes the address may be any. -/
def Rd (w : World) (B : Nat) (A : Option Addr) (l : List UInt8) : Prop := 0 < l.length → ∃ g off, A = some ⟨g, off, none⟩ ∧ g < B ∧ ∀ j (h : j < l.length), w.cell? ⟨g, off + j, none⟩ = some (.int .u8 (l[j].toNat : Int))
theorem Rd.nil (w : World) (B : Nat) (A : Option Addr) : Rd w B A [] := fun h => absurd h (by simp)
theorem Rd.mono {w : World} {B B' : Nat} {A : Option Addr} {l : List UInt8} (h : Rd w B A l) (hB : B ≤ B') : Rd w B' A l := fun h0 => by
  obtain ⟨g, off, e, hg, hc⟩ := h h0
  exact ⟨g, off, e, Nat.lt_of_lt_of_le hg hB, hc⟩
theorem Rd.keep {w w' : World} {B : Nat} {A : Option Addr} {l : List UInt8} (h : Rd w B A l) (hk : ∀ g o, g < B → w'.cell? ⟨g, o, none⟩ = w.cell? ⟨g, o, none⟩) : Rd w' B A l := fun h0 => by
  obtain ⟨g, off, e, hg, hc⟩ := h h0
  exact ⟨g, off, e, hg, fun j hj => (hk g _ hg).trans (hc j hj)⟩
theorem Rd.below {w w' : World} {B B' : Nat} {A : Option Addr} {l : List UInt8} (h : Rd w B A l) (hb : Below B' w w') (hB : B ≤ B') : Rd w' B A l :=
  h.keep fun g o hg => hb.cell (p := ⟨g, o, none⟩) (Nat.lt_of_lt_of_le hg hB)
theorem Rd.cut {w : World} {B : Nat} {A : Option Addr} {l : List UInt8} (h : Rd w B A l) (n : Nat) : Rd w B A (l.take n) := fun h0 => by
  obtain ⟨g, off, e, hg, hc⟩ := h (by simp at h0; omega)
  refine ⟨g, off, e, hg, fun j hj => ?_⟩
  have : j < l.length := by simp at hj; omega
  rw [hc j this, List.getElem_take]
theorem Rd.add {w : World} {B g off : Nat} {l : List UInt8} (h : Rd w B (some ⟨g, off, none⟩) l) (n : Nat) : Rd w B (some ⟨g, off + n, none⟩) (l.drop n) := fun h0 => by
  have hl : n < l.length := by simp at h0; omega
  obtain ⟨g', off', e, hg, hc⟩ := h (by omega)
  injection e with e
  injection e with e1 e2
  subst e1 e2
  refine ⟨g, off + n, rfl, hg, fun j hj => ?_⟩
  have : n + j < l.length := by simp at hj; omega
  rw [Nat.add_assoc, hc _ this, List.getElem_drop]
/-- A slice of bytes of a call's own; nil, if it has none. -/
def Own (w : World) (B : Nat) (e : TypeId) (v : Value) (l : List UInt8) : Prop :=
  (v = .slice none 0 0 ∧ l = []) ∨ ∃ (g c : Nat) (cur : Array Value), v = .slice (some ⟨g, 0, none⟩) l.length c ∧ l.length ≤ c ∧ c ≤ maxLen ∧ B ≤ g ∧ w.heap[g]? = some (.cells cur e (0, 0)) ∧ cur.toList.take l.length = byv l
theorem blk_lt {w : World} {g : Nat} {o : Obj} (h : w.heap[g]? = some o) : g < w.heap.size := by
  rcases Nat.lt_or_ge g w.heap.size with h' | h'
  · exact h'
  · rw [Array.getElem?_eq_none h'] at h; simp at h
theorem Own.keep {w w' : World} {B : Nat} {e : TypeId} {v : Value} {l : List UInt8} (h : Own w B e v l) (hk : ∀ (g : Nat) (cur : Array Value), w.heap[g]? = some (Obj.cells cur e (0, 0)) → w'.heap[g]? = some (Obj.cells cur e (0, 0))) : Own w' B e v l := by
  rcases h with h | ⟨g, c, cur, hv, hn, hm, hB, hg, hx⟩
  · exact .inl h
  · exact .inr ⟨g, c, cur, hv, hn, hm, hB, hk g cur hg, hx⟩
theorem Own.below {w w' : World} {B : Nat} {e : TypeId} {v : Value} {l : List UInt8} (h : Own w B e v l) (hb : Below w.heap.size w w') : Own w' B e v l :=
  h.keep fun g cur hg => (hb.block g (blk_lt hg)).trans hg
theorem Own.mono {w : World} {B B' : Nat} {e : TypeId} {v : Value} {l : List UInt8} (h : Own w B e v l) (hB : B' ≤ B) : Own w B' e v l := by
  rcases h with h | ⟨g, c, cur, hv, hn, hm, hg, r⟩
  · exact .inl h
  · exact .inr ⟨g, c, cur, hv, hn, hm, Nat.le_trans hB hg, r⟩
/-- Behind a change of a row of another type it stands. -/
theorem Own.grown {w w' : World} {B B' : Nat} {e t : TypeId} {size n : Nat} {v u : Value} {l : List UInt8} {xs : List Value} (h : Own w B e v l) (hown : w.ownsRow B' t size u n xs) (hne : t ≠ e) (hg : w.grownBy w' u.ownBlock) : Own w' B e v l :=
  h.keep fun g cur hb => by
    refine (hg.block g (blk_lt hb) fun he => ?_).trans hb
    rcases hown.2 with ⟨rfl, _⟩ | ⟨g', cap, cur', rfl, _, hh, _⟩
    · simp [Value.ownBlock] at he
    · have : g = g' := by simpa [Value.ownBlock] using he
      subst this
      rw [hh] at hb
      injection hb with hb
      injection hb with _ hb
      exact hne hb
theorem Own.cell {w : World} {B : Nat} {e : TypeId} {g n c : Nat} {a : Option Addr} {l : List UInt8} (h : Own w B e (.slice a n c) l) (j : Nat) (hj : j < l.length) : ∃ g, a = some ⟨g, 0, none⟩ ∧ w.cell? ⟨g, j, none⟩ = some (.int .u8 (l[j].toNat : Int)) := by
  rcases h with ⟨_, rfl⟩ | ⟨g, c, cur, hv, _, _, _, hg, hx⟩
  · simp at hj
  · injection hv with h1 h2 h3
    refine ⟨g, h1, ?_⟩
    have : (cur.toList.take l.length)[j]? = some (.int .u8 (l[j].toNat : Int)) := by rw [hx]; exact byv_at hj
    rw [List.getElem?_take_of_lt hj, Array.getElem?_toList] at this
    simp [World.cell?, hg, this]
theorem Own.rd {w : World} {B : Nat} {e : TypeId} {v : Value} {l : List UInt8} (h : Own w B e v l) : ∃ a c, v = .slice a l.length c ∧ l.length ≤ c ∧ c ≤ maxLen ∧ Rd w w.heap.size a l ∧ (a = none → c = 0) := by
  have h' := h
  rcases h with ⟨rfl, rfl⟩ | ⟨g, c, cur, rfl, hn, hm, hB, hg, hx⟩
  · exact ⟨none, 0, rfl, by simp, by simp [maxLen], Rd.nil _ _ _, fun _ => rfl⟩
  · refine ⟨_, c, rfl, hn, hm, fun h0 => ⟨g, 0, rfl, blk_lt hg, fun j hj => ?_⟩, fun h => by simp at h⟩
    obtain ⟨g', e1, hc⟩ := h'.cell (g := 0) j hj
    simp at e1
    subst e1
    rw [Nat.zero_add]
    exact hc
theorem Own.of_row {w : World} {B : Nat} {e : TypeId} {v : Value} {l : List UInt8} (h : w.ownsRow B e 1 v l.length (byv l)) (h0 : l = [] → v = .slice none 0 0) : ∃ a c, v = .slice a l.length c ∧ l.length ≤ c ∧ c ≤ maxLen ∧ (a = none → c = 0) ∧ Own w B e (.slice a l.length l.length) l ∧ Own w B e v l := by
  rcases h.2 with ⟨rfl, hn⟩ | ⟨g, cap, cur, rfl, hB, hg, hn, hm, hs, hx⟩
  · obtain rfl : l = [] := List.eq_nil_of_length_eq_zero hn
    exact ⟨none, 0, rfl, Nat.le_refl _, by simp [maxLen], fun _ => rfl, .inl ⟨rfl, rfl⟩, .inl ⟨rfl, rfl⟩⟩
  · exact ⟨_, _, rfl, hn, hm, (fun h => by simp at h), .inr ⟨g, _, cur, rfl, Nat.le_refl _, by omega, hB, hg, by simpa using hx⟩, .inr ⟨g, cap, cur, rfl, hn, hm, hB, hg, by simpa using hx⟩⟩
/-- 'append(v, x...)' of bytes, behind a row of the call's own. -/
theorem wpList_append_by {P : Program} (w : World) {ops : Array Oper} {rest : List Oper} {o : Oper} {a : Act} {Q : Exit → Act → World → Prop} (hgd : o.guard = none) (s x : Operand) (t : TypeId)
    (ho : o.op = .call { callee := .builtin .append, args := #[s, x], argTypes := #[t, t] })
    (base : Nat) (e : TypeId) (ht : P.underlying t = some (.slice e)) (hinfo : (P.info? e).map (fun i => (i.zero, i.size, i.bytes)) = some (some (.int .u8 0), 1, 1))
    (v : Value) (l : List UInt8) (hs : a.eval s = v) (hown : w.ownsRow base e 1 v l.length (byv l))
    (B : Nat) (A : Option Addr) (m : List UInt8) (c : Nat) (hx : a.eval x = .slice A m.length c) (hr : Rd w B A m) (hc0 : A = none → c = 0)
    (hlen : l.length + m.length ≤ 1048576) (hbase : base ≤ w.heap.size)
    (h : ∀ v' w', w'.ownsRow base e 1 v' (l ++ m).length (byv (l ++ m)) → w.grownBy w' v.ownBlock → (v' = .slice none 0 0 ↔ v = .slice none 0 0 ∧ m = []) → wpList P ops Q rest (a.put o.dst v') w') : wpList P ops Q (o :: rest) a w := by
  obtain ⟨i0, hi, hz0, hz1, hz2⟩ := info_parts hinfo
  cases A with
  | none =>
    have hm : m = [] := by
      cases m with
      | nil => rfl
      | cons b m => obtain ⟨g, off, e, _⟩ := hr (by simp); simp at e
    subst hm
    have hc := hc0 rfl
    subst hc
    refine wpList_append_own_none hgd s x t ho base e i0 1 ht hi v _ _ hs hown hx ?_
    exact h v w (by simpa using hown) (World.grownBy.refl w _) (by simp)
  | some ad =>
    have hcell : ∀ j u, (byv m)[j]? = some u → w.cell? (ad.add j) = some u := by
      intro j u hj
      have hjl : j < m.length := by
        rcases Nat.lt_or_ge j m.length with h | h
        · exact h
        · rw [List.getElem?_eq_none (by rw [byv_len]; exact h)] at hj; simp at hj
      obtain ⟨g, off, e, _, hc⟩ := hr (by omega)
      injection e with e
      subst e
      rw [Addr.add_lit, hc j hjl, ← hj, byv_at hjl]
    refine wpList_append_own w hgd s x t ho base e i0 (.int .u8 0) 1 1 ht hi hz0 hz1 hz2 rfl (by decide) v _ _ hs hown ad m.length c (byv m) hx (by rw [byv_len]; omega) hcell (fun u hu => byv_one hu) (by unfold maxLen; omega) (by omega) hbase ?_
    intro v' w' h1 h2 h3
    rw [← byv_app] at h1
    refine h v' w' (by rw [List.length_append]; exact h1) h2 (by rw [h3]; simp)
end Go.Proofs.YtifbcejekdhnlaaDoor
