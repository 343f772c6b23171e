/- Slices of a call's own, as they stay. -/
import Derived.Test.YthlebfiedejhhaaGreatStW
namespace Go.Proofs.YthlebfiedejhhaaGreat
open Go.RowKit Go.Maps
set_option linter.unusedVariables false
theorem reads_placesX {w : World} {a : Option Addr} {len cap : Nat} (h : Reads Tryz.prog w 73 (.slice a len cap)) : (a = none → len = 0 ∧ cap = 0) ∧ len ≤ cap ∧ cap ≤ maxLen ∧ ∃ L, LayP w a len cap L := by
  rcases Reads.slice (n := 9) (e := 41) (ks := [.inl .i64, .inl .i64]) Tryz.underlying73 (by kernel_rfl) h with ⟨rfl, rfl, rfl⟩ | ⟨b, off, sp, rfl, h1, h2, h3, h4⟩
  · exact ⟨fun _ => ⟨rfl, rfl⟩, Nat.le_refl _, by unfold maxLen; omega, [], rfl, fun i b k hx => by simp at hx⟩
  · refine ⟨fun h => by simp at h, h1, h2, ?_⟩
    have hcc : Tryz.prog.cellsOf 41 = 2 := by kernel_rfl
    have hex : ∀ m, m ≤ len → ∃ L : List Pv, L.length = m ∧ ∀ i b' k, L[i]? = some (b', k) → w.cell? ⟨b, off + i * 2, none⟩ = some (.int .i64 b') ∧ w.cell? ⟨b, off + i * 2 + 1, none⟩ = some (.int .i64 k) := by
      intro m
      induction m with
      | zero => exact fun _ => ⟨[], rfl, fun i b k hx => by simp at hx⟩
      | succ m ih =>
        intro hm
        obtain ⟨L, hL, hc⟩ := ih (by omega)
        obtain ⟨l, hl, hll, hx⟩ := h4 m (by omega)
        obtain ⟨_, _, rfl, ⟨x, rfl, wx⟩, g1⟩ := all2_cons hl
        obtain ⟨_, _, rfl, ⟨y, rfl, wy⟩, g2⟩ := all2_cons g1
        obtain rfl := all2_nil g2
        rw [hcc] at hx
        refine ⟨L ++ [(x, y)], by simp [hL], fun i b' k hi => ?_⟩
        by_cases e : i < m
        · exact hc i b' k (by rw [List.getElem?_append_left (by omega)] at hi; exact hi)
        · have hi' : i = m := by
            rcases Nat.lt_or_ge i (m + 1) with h | h
            · omega
            · rw [List.getElem?_eq_none (by simp; omega)] at hi; simp at hi
          subst hi'
          rw [List.getElem?_append_right (by omega), hL, Nat.sub_self] at hi
          simp at hi
          obtain ⟨rfl, rfl⟩ := hi
          exact ⟨hx 0 _ rfl, hx 1 _ rfl⟩
    obtain ⟨L, hL, hc⟩ := hex len (Nat.le_refl _)
    refine ⟨L, hL, fun i b' k hi => ?_⟩
    have hil : i < L.length := by
      rcases Nat.lt_or_ge i L.length with h | h
      · exact h
      · rw [List.getElem?_eq_none h] at hi; simp at hi
    rw [h3 (by omega) (by omega)]
    exact ⟨b, off, rfl, h1, hc i b' k hi⟩
theorem uVersX (b k : Int) : isU (versf b k) := by
  unfold versf isU
  split
  · next h =>
    have := strf_range h
    omega
  · omega
theorem strsF_uTX (L : List Pv) : ∀ k, ∀ x, x ∈ strsF (L.take k) → isU x
  | 0, x, h => by simp [strsF] at h
  | k + 1, x, h => by
    rcases Nat.lt_or_ge k L.length with hk | hk
    · rw [strsF_snoc (List.getElem?_eq_getElem hk)] at h
      unfold addS at h
      split at h
      · exact strsF_uTX L k x h
      · rcases List.mem_append.1 h with h | h
        · exact strsF_uTX L k x h
        · simp at h
          subst h
          exact uVersX _ _
    · rw [List.take_of_length_le (by omega)] at h
      have := strsF_uTX L k x
      rw [List.take_of_length_le hk] at this
      exact this h
theorem strsF_uX {L : List Pv} : ∀ x, x ∈ strsF L → isU x := fun x h => strsF_uTX L L.length x (by rw [List.take_length]; exact h)
theorem WL.form {w : World} {B : Nat} {v : Value} {L : List (Int × Int)} (h : WL w B v L) : ∃ aw, v = .slice aw L.length L.length ∧ L.length ≤ maxLen ∧ ∃ g, ∀ i x, L[i]? = some x → aw = some ⟨g, 0, none⟩ ∧ B ≤ g ∧ g < w.heap.size ∧ w.cell? ⟨g, i * 2, none⟩ = some (.int .u64 x.1) ∧ w.cell? ⟨g, i * 2 + 1, none⟩ = some (.int .u64 x.2) := by
  rcases h with ⟨rfl, a, rfl⟩ | ⟨g, rfl, h1, h2, h3, h4⟩
  · exact ⟨a, rfl, by simp, 0, fun i x hx => by simp at hx⟩
  · refine ⟨_, rfl, h3, g, fun i x hx => ⟨rfl, h1, h2, (h4 i x hx).1.1, (h4 i x hx).2.1⟩⟩
theorem lst_own {w : World} {B size n : Nat} {a : Option Addr} {xs : List Value} (h : Lst w B size (.slice a n n) n xs) : (0 < n → ∃ g, a = some ⟨g, 0, none⟩ ∧ B ≤ g ∧ g < w.heap.size) ∧ LieG w a n n xs := by
  obtain ⟨a', c', e, -, -, -, hl⟩ := LieG.of h
  injection e with e1 e2 e3
  subst e1
  subst e3
  refine ⟨fun hn => ?_, hl⟩
  obtain ⟨_, ⟨e, h0⟩ | ⟨g, cap, e, hB, hg, -⟩⟩ := h
  · omega
  · injection e with e1
    exact ⟨g, e1, hB, hg⟩
theorem LieG.keepS {w W : World} {U : Nat → Prop} {a : Option Addr} {cap n : Nat} {xs : List Value} (h : LieG w a cap n xs) (hk : Keeps U w W) (hU : ∀ g, 0 < n → a = some ⟨g, 0, none⟩ → ¬ U g) : LieG W a cap n xs := by
  intro hn
  obtain ⟨g, h1, h2, h3, h4⟩ := h hn
  exact ⟨g, h1, Nat.lt_of_lt_of_le h2 hk.size, h3, fun j u hj => hk.cell (p := ⟨g, j, none⟩) (hU g hn h1) (h4 j u hj)⟩
theorem WdG.more {G G' : Nat → Prop} {w : World} {A : Ad} {V : Wv} (h : WdG G w A V) (hG : ∀ k, G' k → G k) : WdG G' w A V := by
  obtain ⟨S, h1, h2, h3⟩ := h
  exact ⟨S, h1, fun k g => h2 k (hG k g), fun k g => h3 k (hG k g)⟩
theorem pair_w (p r : Nat) (w : World) : (Instr.field 34 (.agg #[.pointer (some ⟨p, 0, none⟩), .pointer (some ⟨r, 0, none⟩)]) 0).run Tryz.prog w = .ok (.pointer (some ⟨p, 0, none⟩)) w := by kernel_rfl
end Go.Proofs.YthlebfiedejhhaaGreat
