/- How arguments are opened, whatever plain type they have: a value's cells by the leaves of its type (integers, bools, strings, slices), structs and arrays laid flat. -/
import Derived.Test.YtmjklkcjinfmaaaDoorLib
import Derived.OpenShut
import Derived.ShutString
import Derived.ChangeOld
import Derived.Deep.Slices
namespace Go.Proofs.YtmjklkcjinfmaaaDoor
open Go.ChangeShapes Go.WideShapes Go.ChangeAt Go.RowKit

/-- A leaf: an integer of a kind; a bool (false) or a string (true); a slice, by its type. -/
abbrev Leaf := Sum IntKind (Sum Bool TypeId)
def all2 {α β : Type} (R : α → β → Prop) : List α → List β → Prop
  | [], [] => True
  | a :: as, b :: bs => R a b ∧ all2 R as bs
  | _, _ => False
theorem all2_append {α β : Type} {R : α → β → Prop} : ∀ {as : List α} {bs : List β} {as' : List α} {bs' : List β}, all2 R as bs → all2 R as' bs' → all2 R (as ++ as') (bs ++ bs')
  | [], [], _, _, _, h => h
  | _ :: _, _ :: _, _, _, h, h' => ⟨h.1, all2_append h.2 h'⟩
  | [], _ :: _, _, _, h, _ => h.elim
  | _ :: _, [], _, _, h, _ => h.elim
theorem all2_length {α β : Type} {R : α → β → Prop} : ∀ {as : List α} {bs : List β}, all2 R as bs → as.length = bs.length
  | [], [], _ => rfl
  | _ :: _, _ :: _, h => by simp [all2_length h.2]
  | [], _ :: _, h => h.elim
  | _ :: _, [], h => h.elim

/-- The leaves of a struct's fields, laid one behind the other from a place on. -/
def leavesF (P : Program) (f : TypeId → Option (List Leaf)) : List Field → Nat → Option (List Leaf)
  | [], _ => some []
  | x :: xs, o => (f x.type).bind fun ks => if x.offset = o ∧ ks.length = P.cellsOf x.type then (leavesF P f xs (o + ks.length)).map (ks ++ ·) else none
def rep (ks : List Leaf) : Nat → List Leaf
  | 0 => []
  | n + 1 => ks ++ rep ks n
def leaves (P : Program) : Nat → TypeId → Option (List Leaf)
  | 0, _ => none
  | n + 1, t =>
    match P.underlying t with
    | some (.int k) => some [.inl k]
    | some .bool => some [.inr (.inl false)]
    | some .string => some [.inr (.inl true)]
    | some (.slice _) => some [.inr (.inr t)]
    | some (.struct fs) => (leavesF P (leaves P n) fs.toList 0).bind fun ks => if ks.length = P.cellsOf t then some ks else none
    | some (.array m e) => (leaves P n e).bind fun ks => if ks.length = P.cellsOf e ∧ m * P.cellsOf e = P.cellsOf t then some (rep ks m) else none
    | _ => none

/-- A cell that reads as data, of whatever tokens. -/
def Reads (P : Program) (w : World) (t : TypeId) (v : Value) : Prop :=
  ∃ (H : Type) (enc : TypeId × Value → H) (fuel : Nat) (y : DataW H × List MemPlace), DataW.trod enc P w 0 (fun _ => true) true fuel t [v] = some y
def leafOk (P : Program) (w : World) : Leaf → Value → Prop
  | .inl k, v => ∃ n, v = .int k n ∧ (Lit.int k n).wf = true
  | .inr (.inl false), v => ∃ b, v = .bool b
  | .inr (.inl true), v => ∃ s : ByteArray, v = .string s ∧ s.size ≤ maxLen
  | .inr (.inr t), v => ∃ a l c, v = .slice a l c ∧ Reads P w t v
section
variable {H : Type} {enc : TypeId × Value → H} {P : Program} {w : World}
theorem leavesF_ok {n fuel : Nat} (ih : ∀ t ks cs x, leaves P n t = some ks → DataW.trod enc P w 0 (fun _ => true) true fuel t cs = some x → all2 (leafOk P w) ks cs) (cs : List Value) :
    ∀ (fs : List Field) (o : Nat) (ks : List Leaf), leavesF P (leaves P n) fs o = some ks → (∀ f ∈ fs, ∃ y, DataW.trod enc P w 0 (fun _ => true) true fuel f.type ((cs.drop f.offset).take (P.cellsOf f.type)) = some y) →
      all2 (leafOk P w) ks ((cs.drop o).take ks.length)
  | [], o, ks, h, _ => by simp [leavesF] at h; subst h; simp [all2]
  | f :: fs, o, ks, h, hf => by
    simp only [leavesF, Option.bind_eq_some_iff] at h
    obtain ⟨k1, h1, h2⟩ := h
    split at h2
    · next hc =>
      obtain ⟨ho, hl⟩ := hc
      simp only [Option.map_eq_some_iff] at h2
      obtain ⟨k2, h3, rfl⟩ := h2
      obtain ⟨y, hy⟩ := hf f (by simp)
      have a := ih _ _ _ _ h1 hy
      have b := leavesF_ok ih cs fs _ _ h3 (fun g hg => hf g (by simp [hg]))
      rw [ho, ← hl] at a
      rw [List.length_append, List.take_add, List.drop_drop]
      exact all2_append a b
    · simp at h2
theorem rep_ok {ks : List Leaf} {c : Nat} (hl : ks.length = c) (cs : List Value) : ∀ (m o : Nat), (∀ i, i < m → all2 (leafOk P w) ks ((cs.drop ((o + i) * c)).take c)) → all2 (leafOk P w) (rep ks m) ((cs.drop (o * c)).take (m * c))
  | 0, o, _ => by simp [rep, all2]
  | m + 1, o, h => by
    have a := h 0 (by omega)
    have b := rep_ok hl cs m (o + 1) (fun i hi => by have := h (i + 1) (by omega); rwa [show o + (i + 1) = o + 1 + i by omega] at this)
    rw [show (m + 1) * c = c + m * c by rw [Nat.succ_mul]; omega, List.take_add, List.drop_drop]
    rw [show (o + 1) * c = o * c + c by rw [Nat.succ_mul]] at b
    exact all2_append (by simpa using a) b
theorem leaves_ok : ∀ (n : Nat) {t : TypeId} {ks : List Leaf} {fuel : Nat} {cs : List Value} {x : DataW H × List MemPlace}, leaves P n t = some ks → DataW.trod enc P w 0 (fun _ => true) true fuel t cs = some x → all2 (leafOk P w) ks cs
  | 0, _, _, _, _, _, h, _ => by simp [leaves] at h
  | n + 1, t, ks, fuel, cs, x, h, hx => by
    unfold leaves at h
    split at h
    · next k hu =>
      obtain ⟨m, rfl, rfl, hw⟩ := DataW.trod_int hu hx
      simp at h; subst h
      exact ⟨⟨m, rfl, hw⟩, trivial⟩
    · next hu =>
      cases fuel with
      | zero => simp [DataW.trod] at hx
      | succ f =>
        unfold DataW.trod at hx
        rw [hu] at hx
        split at hx <;> simp_all
        subst h
        exact ⟨⟨_, rfl⟩, trivial⟩
    · next hu =>
      obtain ⟨s, rfl, rfl, hw⟩ := DataW.trod_string hu hx
      simp at h; subst h
      exact ⟨⟨s, rfl, hw⟩, trivial⟩
    · next e hu =>
      simp at h; subst h
      rcases Deep.open_slice hu hx with ⟨rfl, _⟩ | ⟨a, len, cap, m, n', D, Pl, rfl, _⟩
      · exact ⟨⟨_, _, _, rfl, H, enc, fuel, x, hx⟩, trivial⟩
      · exact ⟨⟨_, _, _, rfl, H, enc, fuel, x, hx⟩, trivial⟩
    · next fs hu =>
      simp only [Option.bind_eq_some_iff] at h
      obtain ⟨k1, h1, h2⟩ := h
      split at h2
      · next hc =>
        simp at h2; subst h2
        obtain ⟨xs, m, rfl, rfl, hl, hn, hf⟩ := DataW.trod_struct hu hx
        have := leavesF_ok (fun t ks cs x a b => leaves_ok n a b) cs fs.toList 0 k1 h1 (fun f hf' => by
          obtain ⟨i, hi, hg⟩ := List.getElem_of_mem hf'
          have hg' : fs[i]? = some f := by simp at hi; simp at hg; simp [hi, hg]
          have := hf i f hg'
          simp at hi
          rw [this, List.getElem?_eq_getElem (by omega)]
          exact ⟨_, rfl⟩)
        rw [hc, ← hl] at this
        simpa using this
      · simp at h2
    · next m e hu =>
      simp only [Option.bind_eq_some_iff] at h
      obtain ⟨k1, h1, h2⟩ := h
      split at h2
      · next hc =>
        simp at h2; subst h2
        obtain ⟨xs, m', rfl, rfl, hl, hn, hf⟩ := DataW.trod_array hu hx
        have := rep_ok (P := P) (w := w) hc.1 cs m 0 (fun i hi => by
          have := hf i hi
          rw [List.getElem?_eq_getElem (by omega)] at this
          exact leaves_ok n h1 (by simpa using this))
        rw [hc.2, ← hl] at this
        simpa using this
      · simp at h2
    · simp at h

/-- An argument's value, by the leaves of its type: a cell, or a row of cells. -/
theorem open_leaf {n : Nat} {t : TypeId} {k : Leaf} {v : Value} {d : DataW H} {ps : List MemPlace} (hk : leaves P n t = some [k]) (hc : v.cells.toList = [v]) (h : DataW.Trod enc P w 0 (fun _ => true) true t v d ps) : leafOk P w k v := by
  obtain ⟨f, hf⟩ := h
  rw [hc] at hf
  exact (leaves_ok n hk hf).1
theorem open_row {n : Nat} {t : TypeId} {ks : List Leaf} {cs : Array Value} {d : DataW H} {ps : List MemPlace} (hk : leaves P n t = some ks) (h : DataW.Trod enc P w 0 (fun _ => true) true t (.agg cs) d ps) : all2 (leafOk P w) ks cs.toList := by
  obtain ⟨f, hf⟩ := h
  exact leaves_ok n hk hf
theorem all2_cons {α β : Type} {R : α → β → Prop} {k : α} {ks : List α} {l : List β} (h : all2 R (k :: ks) l) : ∃ c l', l = c :: l' ∧ R k c ∧ all2 R ks l' := by
  cases l with
  | nil => exact h.elim
  | cons c l' => exact ⟨c, l', rfl, h.1, h.2⟩
theorem all2_nil {α β : Type} {R : α → β → Prop} {l : List β} (h : all2 R [] l) : l = [] := by
  cases l with
  | nil => rfl
  | cons c l' => exact h.elim
theorem okWide_agg {r : Reach} {b0 : Nat} {t : TypeId} {v : Value} (ht : (match P.underlying t with | some (.struct _) => true | some (.array _ _) => true | _ => false) = true) (h : Value.okWide P w r b0 t v) : ∃ l : List Value, v = .agg l.toArray := by
  unfold Value.okWide at h
  split at h
  · obtain ⟨cs, rfl, _⟩ := h; exact ⟨cs.toList, by simp⟩
  · obtain ⟨cs, rfl, _⟩ := h; exact ⟨cs.toList, by simp⟩
  · next h1 h2 => split at ht <;> simp_all
theorem open_list {n : Nat} {t : TypeId} {ks : List Leaf} {l : List Value} {d : DataW H} {ps : List MemPlace} (hk : leaves P n t = some ks) (h : DataW.Trod enc P w 0 (fun _ => true) true t (.agg l.toArray) d ps) : all2 (leafOk P w) ks l := by
  simpa using open_row hk h

/-- A slice that came in: nil, or a row of elements, each by the leaves of its type. -/
theorem Reads.slice {t e : TypeId} {a : Option Addr} {len cap n : Nat} {ks : List Leaf} (ht : P.underlying t = some (.slice e)) (hk : leaves P n e = some ks) (h : Reads P w t (.slice a len cap)) :
    (a = none ∧ len = 0 ∧ cap = 0) ∨ ∃ b off sp, a = some ⟨b, off, sp⟩ ∧ len ≤ cap ∧ cap ≤ maxLen ∧ (0 < cap → 0 < P.cellsOf e → sp = none) ∧ ∀ i, i < cap → ∃ l, all2 (leafOk P w) ks l ∧ l.length = P.cellsOf e ∧ ∀ j v, l[j]? = some v → w.cell? ⟨b, off + (i * P.cellsOf e + j), none⟩ = some v := by
  obtain ⟨H, enc, fuel, y, hy⟩ := h
  rcases Deep.open_slice ht hy with ⟨h0, _⟩ | ⟨x, l', c', m, n', D, Pl, hc, _, hl, hm, hmm, _, hel⟩
  · simp at h0; exact .inl h0
  · simp at hc
    obtain ⟨rfl, rfl, rfl⟩ := hc
    simp at hmm
    subst hmm
    obtain ⟨b, off, sp⟩ := x
    have key : ∀ i, i < m → ∃ l, all2 (leafOk P w) ks l ∧ l.length = P.cellsOf e ∧ ∀ j, j < P.cellsOf e → w.cell? ((Addr.mk b off sp).add (i * P.cellsOf e + j)) = l[j]? := by
      intro i hi
      obtain ⟨l, h1, h2⟩ := hel i hi
      simp only [World.cells?] at h1
      split at h1
      · refine ⟨l, leaves_ok n hk h2, by simpa using mapM_some_length h1, fun j hj => ?_⟩
        have := mapM_some_get h1 j j (by simp [hj])
        rwa [Deep.add_add] at this
      · simp at h1
    have hsp : 0 < m → 0 < P.cellsOf e → sp = none := by
      intro hm0 hc0
      obtain ⟨l, _, h2, h3⟩ := key 0 hm0
      have := h3 0 hc0
      rw [List.getElem?_eq_getElem (by omega)] at this
      simpa [Addr.add] using World.cell?_spot this
    refine .inr ⟨b, off, sp, rfl, hl, hm, hsp, fun i hi => ?_⟩
    obtain ⟨l, h1, h2, h3⟩ := key i hi
    refine ⟨l, h1, h2, fun j v hj => ?_⟩
    have hjl : j < l.length := by
      rcases Nat.lt_or_ge j l.length with h | h
      · exact h
      · rw [List.getElem?_eq_none h] at hj; simp at hj
    obtain rfl := hsp (by omega) (by omega)
    have := h3 j (by omega)
    rw [hj] at this
    rw [← this]
    congr 1
    unfold Addr.add
    split
    · simp_all
    · rfl
end
end Go.Proofs.YtmjklkcjinfmaaaDoor
