/- What a key's places are like. -/
import Derived.Test.YtepkpbhhiianpaaGPs
import Derived.Test.YtepkpbhhiianpaaOth
namespace Go.Proofs.Ytepkpbhhiianpaa
open Go.RowKit
set_option linter.unusedVariables false

theorem placesF_eq (h x : Int) {o m k k' l l' : Int} (ho : asO x = o) (hm : asN x = m) (hom : m ≠ o) (hk : bkt h o = k) (hk' : othf k (tagF h) o = k') (hl : bkt h m = l) (hl' : othf l (tagF h) m = l') :
    placesF h x = (if k = k' then [(o, k)] else [(o, k), (o, k')]) ++ (if m = 0 then [] else if l = l' then [(m, l)] else [(m, l), (m, l')]) := by
  have e : placesL h x = if m = 0 then [(o, k), (o, k')] else [(o, k), (o, k'), (m, l), (m, l')] := by
    unfold placesL bothP; rw [ho, hm]; simp only [hk, hk', hl, hl']
  unfold placesF dedP
  rw [e]
  have hom' : (m = o) = False := by simp [hom]
  have A : addP (addP [] (o, k)) (o, k') = if k = k' then [(o, k)] else [(o, k), (o, k')] := by
    by_cases h1 : k = k'
    · rw [if_pos h1, h1]; simp [addP]
    · rw [if_neg h1]
      have : (k' = k) = False := by simp [Ne.symm h1]
      simp [addP, this]
  have hmem : ∀ D : List Pv, (∀ p ∈ D, p.1 = o) → ∀ q, addP (addP D (m, q)) (m, l') = D ++ (if q = l' then [(m, q)] else [(m, q), (m, l')]) := by
    intro D hD q
    have h0 : ∀ z, (m, z) ∉ D := fun z hz => hom (hD _ hz)
    have e1 : addP D (m, q) = D ++ [(m, q)] := by unfold addP; rw [if_neg (h0 q)]
    rw [e1]
    by_cases h1 : q = l'
    · rw [if_pos h1, h1]; unfold addP; rw [if_pos (by simp)]
    · rw [if_neg h1]
      unfold addP
      rw [if_neg (by simp [h0, Ne.symm h1]), List.append_assoc]
      rfl
  by_cases h2 : m = 0
  · rw [if_pos h2, if_pos h2, List.append_nil]; exact A
  · rw [if_neg h2, if_neg h2]
    show addP (addP (addP (addP [] (o, k)) (o, k')) (m, l)) (m, l') = _
    rw [A]
    refine hmem _ ?_ l
    intro p hp
    split at hp <;> simp at hp
    · rw [hp]
    · rcases hp with hp | hp <;> rw [hp]
theorem tagF_range {h : Int} (h1 : 0 ≤ h) (h2 : h < 18446744073709551616) : 1 ≤ tagF h ∧ tagF h ≤ 255 := by unfold tagF; omega
theorem bkt_range {h b : Int} (hb : 1 ≤ b) (hb2 : b ≤ 12) : 0 ≤ bkt h b ∧ bkt h b < 2 ^ b.toNat := by
  have hp : (0 : Int) < 2 ^ b.toNat := Int.pow_pos (by omega)
  unfold bkt
  rw [if_pos ⟨hb, hb2⟩]
  exact ⟨Int.emod_nonneg _ (by omega), Int.emod_lt_of_pos _ hp⟩
theorem othf_back {a t b : Int} (hb : 1 ≤ b) (hb2 : b ≤ 12) (ha : 0 ≤ a) (ha2 : a < 2 ^ b.toNat) (ht : 1 ≤ t) (ht2 : t ≤ 255) : othf (othf a t b) t b = a ∧ 0 ≤ othf a t b ∧ othf a t b < 2 ^ b.toNat := by
  obtain ⟨s1, s2, s3⟩ := oth_spec a t b ht ha ha2 hb hb2
  have e : othf a t b = oth a t b := by unfold othf; rw [if_pos ⟨hb, hb2, ha, ha2, ht, ht2⟩]
  rw [e]
  refine ⟨?_, s1, s2⟩
  unfold othf
  rw [if_pos ⟨hb, hb2, s1, s2, ht, ht2⟩]
  exact s3
structure Found (h x : Int) (L : List Pv) : Prop where
  le : L.length ≤ 4
  two : asN x = 0 → L.length ≤ 2
  more : asN x ≠ 0 → 2 ≤ L.length
  back : ∀ b k, (b, k) ∈ L → (b, othf k (tagF h) b) ∈ L
  rise : ∀ (i : Nat) p q, L[i]? = some p → L[i + 1]? = some q → p.1 ≤ q.1
  first : L[0]? = some (asO x, bkt h (asO x))
theorem places_found (h x : Int) (h1 : 0 ≤ h) (h2 : h < 18446744073709551616) : Found h x (placesF h x) := by
  obtain ⟨t1, t2⟩ := tagF_range h1 h2
  obtain ⟨r1, r2, r3⟩ := as_range x
  obtain ⟨o, ho⟩ : ∃ o, asO x = o := ⟨_, rfl⟩
  obtain ⟨m, hm⟩ : ∃ m, asN x = m := ⟨_, rfl⟩
  rw [ho, hm] at r3
  rw [ho] at r1 r2
  have hom : m ≠ o := by omega
  obtain ⟨k1, k2⟩ := bkt_range (h := h) r1 r2
  obtain ⟨b1, b2, b3⟩ := othf_back r1 r2 k1 k2 t1 t2
  obtain ⟨k, hk⟩ : ∃ k, bkt h o = k := ⟨_, rfl⟩
  rw [hk] at k1 k2 b1 b2 b3
  obtain ⟨k', hk'⟩ : ∃ k', othf k (tagF h) o = k' := ⟨_, rfl⟩
  rw [hk'] at b1 b2 b3
  obtain ⟨l, hl⟩ : ∃ l, bkt h m = l := ⟨_, rfl⟩
  obtain ⟨l', hl'⟩ : ∃ l', othf l (tagF h) m = l' := ⟨_, rfl⟩
  have d1 : m ≠ 0 → othf l' (tagF h) m = l := by
    intro h0
    have m1 : 1 ≤ m := by omega
    have m2 : m ≤ 12 := by omega
    obtain ⟨l1, l2⟩ := bkt_range (h := h) m1 m2
    rw [hl] at l1 l2
    have := (othf_back m1 m2 l1 l2 t1 t2).1
    rwa [hl'] at this
  have e := placesF_eq h x ho hm hom hk hk' hl hl'
  rw [e]
  constructor
  · split <;> split <;> (try split) <;> simp
  · intro h0; rw [hm] at h0; rw [if_pos h0]; split <;> simp
  · intro h0; rw [hm] at h0; rw [if_neg h0]; split <;> split <;> simp
  · intro b c hbc
    generalize tagF h = t at *
    by_cases c1 : k = k' <;> by_cases c2 : m = 0 <;> by_cases c3 : l = l'
    all_goals
      simp only [c1, c2, c3, if_true, if_false, List.append_nil, List.cons_append, List.nil_append, List.mem_cons, List.not_mem_nil, or_false, Prod.mk.injEq] at hbc ⊢
      rcases hbc with hbc | hbc | hbc | hbc
    all_goals (try (obtain ⟨rfl, rfl⟩ := hbc))
    all_goals simp_all
  · intro i p q hp hq
    by_cases c1 : k = k' <;> by_cases c2 : m = 0 <;> by_cases c3 : l = l'
    all_goals
      simp only [c1, c2, c3, if_true, if_false, List.append_nil, List.cons_append, List.nil_append] at hp hq
      match i, hp, hq with
      | 0, hp, hq => simp at hp hq; try (subst hp; subst hq; simp; try omega)
      | 1, hp, hq => simp at hp hq; try (subst hp; subst hq; simp; try omega)
      | 2, hp, hq => simp at hp hq; try (subst hp; subst hq; simp; try omega)
      | i + 3, hp, hq => simp at hq
  · rw [ho, hk]
    split <;> split <;> (try split) <;> simp
end Go.Proofs.Ytepkpbhhiianpaa
