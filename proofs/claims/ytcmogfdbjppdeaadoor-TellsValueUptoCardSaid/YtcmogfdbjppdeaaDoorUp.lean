/- What is read is of little bulk: then so is each string in it. -/
import Derived.Test.YtcmogfdbjppdeaaDoorRows
import Derived.Test.YtcmogfdbjppdeaaDoorOpen
namespace Go.Proofs.YtcmogfdbjppdeaaDoor
open Go.ChangeShapes Go.WideShapes Go.ChangeAt Go.RowKit
set_option linter.unusedVariables false
section
variable {H : Type} {enc : TypeId × Value → H} {P : Program} {w : World}
/-- No string of these cells is longer than this. -/
def StrsTo (B : Nat) (l : List Value) : Prop := ∀ s : ByteArray, Value.string s ∈ l → s.size ≤ B
theorem StrsTo.append {B : Nat} {a b : List Value} (h1 : StrsTo B a) (h2 : StrsTo B b) : StrsTo B (a ++ b) := fun s hs => (List.mem_append.mp hs).elim (h1 s) (h2 s)
theorem bulk_mem : ∀ {ds : List (DataW H)} {d : DataW H}, d ∈ ds → Rows.uptoBulk d ≤ Rows.uptoBulkAll ds
  | e :: ds, d, h => by
    simp only [Rows.uptoBulkAll]
    rcases List.mem_cons.mp h with rfl | h
    · omega
    · have := bulk_mem h; omega
theorem leavesF_strs {n B : Nat} (cs : List Value) : ∀ (fs : List Field) (o : Nat) (ks : List Leaf), leavesF P (leaves P n) fs o = some ks →
      (∀ f ∈ fs, ∀ k1, leaves P n f.type = some k1 → StrsTo B ((cs.drop f.offset).take (P.cellsOf f.type))) → StrsTo B ((cs.drop o).take ks.length)
  | [], o, ks, h, _ => by simp [leavesF] at h; subst h; intro s hs; simp at hs
  | f :: fs, o, ks, h, hf => by
    simp only [leavesF, Option.bind_eq_some_iff] at h
    obtain ⟨k1, h1, h2⟩ := h
    split at h2
    · next hc =>
      obtain ⟨ho, hl⟩ := hc
      simp only [Option.map_eq_some_iff] at h2
      obtain ⟨k2, h3, rfl⟩ := h2
      have a := hf f (by simp) k1 h1
      have b := leavesF_strs cs fs _ _ h3 (fun g hg => hf g (by simp [hg]))
      rw [ho, ← hl] at a
      rw [List.length_append, List.take_add, List.drop_drop]
      exact a.append b
    · simp at h2
theorem rep_strs {B c : Nat} (cs : List Value) : ∀ (m o : Nat), (∀ i, i < m → StrsTo B ((cs.drop ((o + i) * c)).take c)) → StrsTo B ((cs.drop (o * c)).take (m * c))
  | 0, o, _ => by intro s hs; simp at hs
  | m + 1, o, h => by
    have a := h 0 (by omega)
    have b := rep_strs cs m (o + 1) (fun i hi => by have := h (i + 1) (by omega); rwa [show o + (i + 1) = o + 1 + i by omega] at this)
    rw [show (m + 1) * c = c + m * c by rw [Nat.succ_mul]; omega, List.take_add, List.drop_drop]
    rw [show (o + 1) * c = o * c + c by rw [Nat.succ_mul]] at b
    exact StrsTo.append (by simpa using a) b
theorem leaves_strs : ∀ (n : Nat) {t : TypeId} {ks : List Leaf} {fuel : Nat} {cs : List Value} {x : DataW H × List MemPlace}, leaves P n t = some ks → DataW.trod enc P w 0 (fun _ => true) true fuel t cs = some x → StrsTo (Rows.uptoBulk x.1) cs
  | 0, _, _, _, _, _, h, _ => by simp [leaves] at h
  | n + 1, t, ks, fuel, cs, x, h, hx => by
    unfold leaves at h
    split at h
    · next k hu =>
      obtain ⟨m, rfl, rfl, hw⟩ := DataW.trod_int hu hx
      intro s hs; simp at hs
    · next hu =>
      cases fuel with
      | zero => simp [DataW.trod] at hx
      | succ f =>
        unfold DataW.trod at hx
        rw [hu] at hx
        split at hx <;> simp_all
        intro s hs; simp at hs
    · next hu =>
      obtain ⟨s, rfl, rfl, hw⟩ := DataW.trod_string hu hx
      intro s' hs
      simp at hs
      subst hs
      simp only [Rows.uptoBulk]
      have e : s'.data.toList.length = s'.size := by rw [Array.length_toList]; rfl
      omega
    · next e hu =>
      rcases Deep.open_slice hu hx with ⟨rfl, _⟩ | ⟨a, len, cap, m, n', D, Pl, rfl, _⟩
      · intro s hs; simp at hs
      · intro s hs; simp at hs
    · next fs hu =>
      simp only [Option.bind_eq_some_iff] at h
      obtain ⟨k1, h1, h2⟩ := h
      split at h2
      · next hc =>
        obtain ⟨xs, m, rfl, rfl, hl, hn, hf⟩ := DataW.trod_struct hu hx
        have := leavesF_strs (P := P) (B := Rows.uptoBulkAll (xs.map (·.1))) cs fs.toList 0 k1 h1 (fun f hf' k2 hk2 => by
          obtain ⟨i, hi, hg⟩ := List.getElem_of_mem hf'
          have hg' : fs[i]? = some f := by simp at hi; simp at hg; simp [hi, hg]
          have := hf i f hg'
          simp at hi
          rw [List.getElem?_eq_getElem (by omega)] at this
          intro s hs
          exact Nat.le_trans (leaves_strs n hk2 this s hs) (bulk_mem (List.mem_map_of_mem (List.getElem_mem _))))
        rw [hc, ← hl] at this
        intro s hs
        have := this s (by simpa using hs)
        simp only [Rows.uptoBulk]
        omega
      · simp at h2
    · next m e hu =>
      simp only [Option.bind_eq_some_iff] at h
      obtain ⟨k1, h1, h2⟩ := h
      split at h2
      · next hc =>
        obtain ⟨xs, m', rfl, rfl, hl, hn, hf⟩ := DataW.trod_array hu hx
        have := rep_strs (B := Rows.uptoBulkAll (xs.map (·.1))) (c := P.cellsOf e) cs m 0 (fun i hi => by
          have := hf i hi
          rw [List.getElem?_eq_getElem (by omega)] at this
          intro s hs
          exact Nat.le_trans (leaves_strs n h1 (by simpa using this) s hs) (bulk_mem (List.mem_map_of_mem (List.getElem_mem _))))
        rw [hc.2, ← hl] at this
        intro s hs
        have := this s (by simpa using hs)
        simp only [Rows.uptoBulk]
        omega
      · simp at h2
    · simp at h
theorem open_strs {n : Nat} {t : TypeId} {ks : List Leaf} {l : List Value} {d : DataW H} {ps : List MemPlace} (hk : leaves P n t = some ks) (h : DataW.Trod enc P w 0 (fun _ => true) true t (.agg l.toArray) d ps) : StrsTo (Rows.uptoBulk d) l := by
  obtain ⟨f, hf⟩ := h
  exact leaves_strs n hk (by simpa using hf)
end
end Go.Proofs.YtcmogfdbjppdeaaDoor
