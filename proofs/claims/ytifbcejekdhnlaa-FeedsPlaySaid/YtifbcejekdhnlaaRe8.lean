/- Chunks of bytes: arguments opened; how many bytes there are. -/
import Derived.Test.YtifbcejekdhnlaaGRe
namespace Go.Proofs.Ytifbcejekdhnlaa
open Go.RowKit Go.Maps
set_option linter.unusedVariables false

/-- Chunks: what is read at each place. -/
def ChAt (w : World) (g off : Nat) (Ls : List (List UInt8)) : Prop := ∀ i x, Ls[i]? = some x → ∃ A c, w.cell? ⟨g, off + i, none⟩ = some (.slice A x.length c) ∧ x.length ≤ c ∧ c ≤ maxLen ∧ (A = none → c = 0) ∧ Rd w w.heap.size A x
theorem open_bys {P : Program} {w : World} {t e tb eb : TypeId} {a : Option Addr} {n c : Nat} (ht : P.underlying t = some (.slice e)) (hk : leaves P 9 e = some [.inr (.inr tb)]) (hc : P.cellsOf e = 1)
    (htb : P.underlying tb = some (.slice eb)) (hkb : leaves P 9 eb = some [.inl .u8]) (hcb : P.cellsOf eb = 1) (h : Reads P w t (.slice a n c)) :
    ∃ Ls : List (List UInt8), Ls.length = n ∧ n ≤ c ∧ c ≤ maxLen ∧ (0 < n → ∃ g off, a = some ⟨g, off, none⟩ ∧ g < w.heap.size ∧ ChAt w g off Ls) := by
  rcases Reads.slice ht hk h with ⟨rfl, rfl, rfl⟩ | ⟨b, off, sp, rfl, h1, h2, h3, h4⟩
  · exact ⟨[], rfl, Nat.le_refl _, by simp [maxLen], fun h => absurd h (by omega)⟩
  · have hcell : ∀ i, i < n → ∃ x : List UInt8, ∃ A c, w.cell? ⟨b, off + i, none⟩ = some (.slice A x.length c) ∧ x.length ≤ c ∧ c ≤ maxLen ∧ (A = none → c = 0) ∧ Rd w w.heap.size A x := by
      intro i hi
      obtain ⟨l, hl, hll, hx⟩ := h4 i (by omega)
      obtain ⟨v, l', rfl, ⟨ab, nb, cb, rfl, hb⟩, _⟩ := all2_cons hl
      have h := hx 0 (.slice ab nb cb) rfl
      rw [hc] at h
      obtain ⟨x, rfl, k1, k2, k3, k4⟩ := open_by htb hkb hcb hb
      exact ⟨x, ab, cb, by simpa using h, k1, k2, k3, k4⟩
    obtain ⟨f, hf⟩ : ∃ f : Nat → List UInt8, ∀ i, i < n → ∃ A c, w.cell? ⟨b, off + i, none⟩ = some (.slice A (f i).length c) ∧ (f i).length ≤ c ∧ c ≤ maxLen ∧ (A = none → c = 0) ∧ Rd w w.heap.size A (f i) :=
      ⟨fun i => if h : i < n then Classical.choose (hcell i h) else [], fun i h => by simp only [dif_pos h]; exact Classical.choose_spec (hcell i h)⟩
    refine ⟨(List.range n).map f, by simp, h1, h2, fun hn => ?_⟩
    have hsp : sp = none := h3 (by omega) (by omega)
    subst hsp
    obtain ⟨A, c', h0, _⟩ := hf 0 hn
    refine ⟨b, off, rfl, World.block_lt_of_cell? _ _ h0, fun i x hx => ?_⟩
    have hi : i < n := by have := (List.getElem?_eq_some_iff.mp hx).1; simpa using this
    have : x = f i := by
      rw [List.getElem?_map, List.getElem?_range hi] at hx
      simpa using hx.symm
    subst this
    exact hf i hi
/-- How many bytes there are; no chunk counts more than 9001. -/
def totF : List (List UInt8) → Nat
  | [] => 0
  | x :: l => min x.length 9001 + totF l
theorem totF_app : ∀ l m : List (List UInt8), totF (l ++ m) = totF l + totF m
  | [], m => by simp [totF]
  | x :: l, m => by
    show min x.length 9001 + totF (l ++ m) = (min x.length 9001 + totF l) + totF m
    rw [totF_app l m]; omega
theorem totF_next {Ls : List (List UInt8)} {k : Nat} {x : List UInt8} (h : Ls[k]? = some x) : totF (Ls.take (k + 1)) = totF (Ls.take k) + min x.length 9001 := by
  obtain ⟨hk, rfl⟩ := List.getElem?_eq_some_iff.mp h
  rw [List.take_succ_eq_append_getElem hk, totF_app]
  simp [totF]
theorem totF_flat : ∀ l : List (List UInt8), totF l ≤ 9000 → l.flatten.length ≤ 9000
  | l, h => by
    have : ∀ l : List (List UInt8), totF l ≤ 9000 → l.flatten.length = totF l := by
      intro l
      induction l with
      | nil => intro _; rfl
      | cons x l ih =>
        intro h
        have h2 : min x.length 9001 + totF l ≤ 9000 := h
        have h3 := ih (by omega)
        rw [List.flatten_cons, List.length_append, h3]
        show _ = min x.length 9001 + totF l
        omega
    rw [this l h]
    exact h
theorem flat_next {Ls : List (List UInt8)} {k : Nat} {x : List UInt8} (h : Ls[k]? = some x) : (Ls.take (k + 1)).flatten = (Ls.take k).flatten ++ x := by
  obtain ⟨hk, rfl⟩ := List.getElem?_eq_some_iff.mp h
  rw [List.take_succ_eq_append_getElem hk, List.flatten_append, List.flatten_cons, List.flatten_nil, List.append_nil]
theorem flat_len (Ls : List (List UInt8)) (k : Nat) : (Ls.take k).flatten.length ≤ Ls.flatten.length := by
  have : Ls.flatten = (Ls.take k).flatten ++ (Ls.drop k).flatten := by rw [← List.flatten_append, List.take_append_drop]
  rw [this, List.length_append]
  omega
end Go.Proofs.Ytifbcejekdhnlaa
