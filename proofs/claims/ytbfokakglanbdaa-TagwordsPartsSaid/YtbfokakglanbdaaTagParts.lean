/- Slots of all tags: how often each was seen. -/
import Derived.Test.YtbfokakglanbdaaTagLow
import Derived.Test.YtbfokakglanbdaaTagSame
import Derived.Test.YtbfokakglanbdaaTagPut
namespace Go.Proofs.Ytbfokakglanbdaa
open Go.RowKit
set_option linter.unusedVariables false

/-- Seen by the tags below t. -/
def sn (x t s : Int) : Int := if 1 ≤ tagf x s ∧ tagf x s < t then 1 else 0
def mid (x t : Int) (I : List Int) (s : Int) : Int := sn x t s + if s ∈ I then 1 else 0
theorem sn_range (x t s : Int) : 0 ≤ sn x t s ∧ sn x t s ≤ 1 := by unfold sn; split <;> omega
theorem mid_range (x t : Int) (I : List Int) (s : Int) : 0 ≤ mid x t I s ∧ mid x t I s ≤ 2 := by
  have := sn_range x t s
  unfold mid; split <;> omega
theorem hasl_mem (x t : Int) : ∀ (k : Nat) (z : Int), z ∈ hasl x t k ↔ ∃ m : Nat, z = m ∧ m < k ∧ tagf x m = t
  | 0, z => by simp [hasl]
  | k + 1, z => by
    have ih := hasl_mem x t k z
    unfold hasl
    rw [List.mem_append, ih]
    constructor
    · rintro (⟨m, h1, h2, h3⟩ | h)
      · exact ⟨m, h1, by omega, h3⟩
      · split at h
        · next hk => simp at h; exact ⟨k, h, by omega, hk⟩
        · simp at h
    · rintro ⟨m, h1, h2, h3⟩
      by_cases e : m = k
      · subst e; right; rw [if_pos h3]; simp [h1]
      · left; exact ⟨m, h1, by omega, h3⟩
theorem hasl_rise (x t : Int) : ∀ k, (hasl x t k).Pairwise (· < ·)
  | 0 => by simp [hasl]
  | k + 1 => by
    unfold hasl
    rw [List.pairwise_append]
    refine ⟨hasl_rise x t k, by split <;> simp, ?_⟩
    intro a ha b hb
    obtain ⟨m, rfl, hm, _⟩ := (hasl_mem x t k a).mp ha
    split at hb
    · simp at hb; subst hb; omega
    · simp at hb
/-- The element at a place: a slot that has the tag, above those ahead of it. -/
theorem hasl_at {x t : Int} {i : Nat} (hi : i < (hasl x t 4).length) : ∃ m : Nat, (hasl x t 4)[i] = (m : Int) ∧ m < 4 ∧ tagf x m = t := by
  obtain ⟨m, h1, h2, h3⟩ := (hasl_mem x t 4 _).mp (List.getElem_mem hi)
  exact ⟨m, h1, h2, h3⟩
theorem hasl_lt {x t : Int} {i j : Nat} (hj : j < i) (hi : i < (hasl x t 4).length) : (hasl x t 4)[j] < (hasl x t 4)[i] := List.pairwise_iff_getElem.mp (hasl_rise x t 4) j i (by omega) hi hj
theorem mid_nil (x t s : Int) : mid x t [] s = sn x t s := by simp [mid]
theorem mid_step {x t : Int} {i : Nat} (hi : i < (hasl x t 4).length) (s : Int) : mid x t ((hasl x t 4).take (i + 1)) s = if s = (hasl x t 4)[i] then mid x t ((hasl x t 4).take i) s + 1 else mid x t ((hasl x t 4).take i) s := by
  have hn : (hasl x t 4)[i] ∉ (hasl x t 4).take i := by
    intro h
    obtain ⟨j, hj, e⟩ := List.getElem_of_mem h
    rw [List.getElem_take] at e
    have := hasl_lt (x := x) (t := t) (j := j) (i := i) (by simp at hj; omega) hi
    omega
  rw [List.take_succ_eq_append_getElem hi]
  unfold mid
  by_cases e : s = (hasl x t 4)[i]
  · rw [if_pos e, if_pos (by rw [List.mem_append]; right; simp [e]), if_neg (by rw [e]; exact hn)]
    omega
  · rw [if_neg e]
    by_cases h : s ∈ (hasl x t 4).take i
    · rw [if_pos h, if_pos (by rw [List.mem_append]; left; exact h)]
    · rw [if_neg h, if_neg (by rw [List.mem_append]; rintro (h' | h'); exact h h'; simp at h'; exact e h')]
theorem mid_end {x t : Int} (ht : 1 ≤ t) {s : Nat} (hs : s < 4) : mid x t (hasl x t 4) s = sn x (t + 1) s := by
  unfold mid sn
  have hm := hasl_mem x t 4 (s : Int)
  by_cases h : tagf x s = t
  · rw [if_pos (hm.mpr ⟨s, rfl, hs, h⟩), if_neg (by omega), if_pos (by omega)]; rfl
  · have hn : ¬ ((s : Int) ∈ hasl x t 4) := fun e => by obtain ⟨m, h1, _, h3⟩ := hm.mp e; exact h (by rw [h1]; exact h3)
    rw [if_neg hn]
    by_cases h2 : 1 ≤ tagf x s ∧ tagf x s < t
    · rw [if_pos h2, if_pos (by omega)]; rfl
    · rw [if_neg h2, if_neg (by omega)]; rfl
theorem sn_one (x s : Int) : sn x 1 s = 0 := by unfold sn; rw [if_neg (by omega)]
theorem sn_all (x s : Int) : sn x 256 s = if tagf x s = 0 then 0 else 1 := by
  have := tagf_range x s
  unfold sn
  by_cases h : tagf x s = 0
  · rw [if_pos h, if_neg (by omega)]
  · rw [if_neg h, if_pos (by omega)]
/-- How many of the upper d slots are not free; the lowest free one of them. -/
def cD (x : Int) : Nat → Int
  | 0 => 0
  | d + 1 => cD x d + if tagf x (3 - d : Int) = 0 then 0 else 1
def lD (x : Int) : Nat → Int
  | 0 => -1
  | d + 1 => if tagf x (3 - d : Int) = 0 then (3 - d : Int) else lD x d
theorem cD_all (x : Int) : cD x 4 = cntk x 4 := by
  simp [cD, cntk]; omega
theorem lD_all (x : Int) : lD x 4 = fr4 x := by
  simp [lD, fr4]
theorem cD_range (x : Int) : ∀ d, 0 ≤ cD x d ∧ cD x d ≤ d
  | 0 => by simp [cD]
  | d + 1 => by have := cD_range x d; unfold cD; split <;> omega
/-- The four cells of an array. -/
def Cells4 (w : World) (P : Nat) (f : Int → Int) : Prop := ∀ s : Nat, s < 4 → w.cell? ⟨P, s, none⟩ = some (.int .i64 (f s)) ∧ w.frozen? ⟨P, s, none⟩ = false
theorem Cells4.below {w w' : World} {P B : Nat} {f : Int → Int} (h : Cells4 w P f) (hb : Below B w w') (hP : P < B) : Cells4 w' P f := fun s hs => by
  have := h s hs
  exact ⟨(hb.cell (p := ⟨P, s, none⟩) hP).trans this.1, (hb.frozen (p := ⟨P, s, none⟩) hP).trans this.2⟩
theorem Cells4.set {w : World} {P m : Nat} {f g : Int → Int} {z : Int} (h : Cells4 w P f) (hm : m < 4) (hg : ∀ s : Nat, s < 4 → g s = if s = m then z else f s) : Cells4 (w.setCell ⟨P, m, none⟩ (.int .i64 z)) P g := fun s hs => by
  obtain ⟨h1, h2⟩ := h s hs
  refine ⟨?_, by simpa using h2⟩
  rw [hg s hs]
  by_cases e : s = m
  · subst e; rw [if_pos rfl]; exact World.cell?_setCell_same _ _ _ h1
  · rw [if_neg e]
    rw [World.cell?_setCell_other _ _ _ _ (by intro h; injection h with _ h; omega)]
    exact h1
theorem Cells4.congr {w : World} {P : Nat} {f g : Int → Int} (h : Cells4 w P f) (hg : ∀ s : Nat, s < 4 → g s = f s) : Cells4 w P g := fun s hs => by rw [hg s hs]; exact h s hs
theorem fr4_is {x l : Int} (h : fr4 x = l) (hl : 0 ≤ l) : (l = 0 ∨ l = 1 ∨ l = 2 ∨ l = 3) ∧ tagf x l = 0 := by
  unfold fr4 at h
  split at h
  · subst h; exact ⟨.inl rfl, by assumption⟩
  split at h
  · subst h; exact ⟨.inr (.inl rfl), by assumption⟩
  split at h
  · subst h; exact ⟨.inr (.inr (.inl rfl)), by assumption⟩
  split at h
  · subst h; exact ⟨.inr (.inr (.inr rfl)), by assumption⟩
  · omega
theorem cntk4 (x : Int) : cntk x 4 = (if tagf x 0 = 0 then 0 else 1) + (if tagf x 1 = 0 then 0 else 1) + (if tagf x 2 = 0 then 0 else 1) + (if tagf x 3 = 0 then 0 else 1) := by
  simp [cntk]
/-- A tag put at the lowest free slot. -/
theorem with_low {x T l : Int} (h1 : 0 ≤ x) (h2 : x < 18446744073709551616) (t1 : 1 ≤ T) (t2 : T ≤ 255) (hl : fr4 x = l) (hf : 0 ≤ l) : cntk (withf x l T) 4 = cntk x 4 + 1 ∧ fr4 (withf x l T) ≠ l := by
  obtain ⟨hc, hz⟩ := fr4_is hl hf
  have q0 := put_tag x l T h1 h2 (by omega) t2 0 hc (.inl rfl)
  have q1 := put_tag x l T h1 h2 (by omega) t2 1 hc (.inr (.inl rfl))
  have q2 := put_tag x l T h1 h2 (by omega) t2 2 hc (.inr (.inr (.inl rfl)))
  have q3 := put_tag x l T h1 h2 (by omega) t2 3 hc (.inr (.inr (.inr rfl)))
  have hT : ¬ T = 0 := by omega
  refine ⟨?_, ?_⟩
  · rw [cntk4, cntk4, q0, q1, q2, q3]
    rcases hc with rfl | rfl | rfl | rfl <;> simp [hz, hT] <;> omega
  · intro e
    obtain ⟨_, h⟩ := fr4_is e hf
    have hq := put_tag x l T h1 h2 (by omega) t2 l hc hc
    rw [h, if_pos rfl] at hq
    omega
end Go.Proofs.Ytbfokakglanbdaa
