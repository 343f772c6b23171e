/- The chapter's list of what stands: by rising addresses; a word put into it. -/
import Derived.Test.YtodppilfpemepaaGreatGCl
import Derived.Sort.Statements
namespace Go.Proofs.YtodppilfpemepaaGreat
open Go.RowKit
set_option linter.unusedVariables false

/-- What is left to be taken over, as a word is put: has it been put yet? -/
def goL (a v : Int) : Bool → List (Int × Int) → List (Int × Int)
  | d, [] => if d then [] else [(a, v)]
  | d, x :: r => if d = false ∧ a ≤ x.1 then (a, v) :: ((if x.1 = a then [] else [x]) ++ goL a v true r) else (if x.1 = a then [] else [x]) ++ goL a v d r
def putL (L : List (Int × Int)) (a v : Int) : List (Int × Int) := goL a v (v == 0) L
theorem goL_len (a v : Int) : ∀ (L : List (Int × Int)) (d : Bool), (goL a v d L).length ≤ L.length + 1
  | [], d => by unfold goL; cases d <;> simp
  | x :: r, d => by
    have h1 := goL_len a v r true
    have h2 := goL_len a v r d
    have h3 : (goL a v true r).length ≤ r.length := by
      clear h1 h2
      induction r with
      | nil => simp [goL]
      | cons y r ih => simp [goL]; split <;> simp <;> omega
    unfold goL
    split
    · split <;> simp <;> omega
    · split <;> simp <;> omega
theorem mem_goL (a v : Int) (y : Int × Int) : ∀ (L : List (Int × Int)) (d : Bool), y ∈ goL a v d L ↔ (y ∈ L ∧ y.1 ≠ a) ∨ (d = false ∧ y = (a, v))
  | [], d => by unfold goL; cases d <;> simp
  | x :: r, d => by
    unfold goL
    by_cases hd : d = false ∧ a ≤ x.1
    · rw [if_pos hd]
      by_cases hx : x.1 = a
      · rw [if_pos hx]
        simp only [List.nil_append, List.mem_cons, mem_goL a v y r true, hd.1]
        constructor
        · rintro (h | ⟨h, h2⟩ | h)
          · exact .inr ⟨by simp, h⟩
          · exact .inl ⟨.inr h, h2⟩
          · exact absurd h.1 (by decide)
        · rintro (⟨rfl | h, h2⟩ | ⟨_, h⟩)
          · exact absurd hx h2
          · exact .inr (.inl ⟨h, h2⟩)
          · exact .inl h
      · rw [if_neg hx]
        simp only [List.cons_append, List.nil_append, List.mem_cons, mem_goL a v y r true, hd.1]
        constructor
        · rintro (h | rfl | ⟨h, h2⟩ | h)
          · exact .inr ⟨by simp, h⟩
          · exact .inl ⟨.inl rfl, hx⟩
          · exact .inl ⟨.inr h, h2⟩
          · exact absurd h.1 (by decide)
        · rintro (⟨rfl | h, h2⟩ | ⟨_, h⟩)
          · exact .inr (.inl rfl)
          · exact .inr (.inr (.inl ⟨h, h2⟩))
          · exact .inl h
    · rw [if_neg hd]
      by_cases hx : x.1 = a
      · rw [if_pos hx]
        simp only [List.nil_append, List.mem_cons, mem_goL a v y r d]
        constructor
        · rintro (⟨h, h2⟩ | h)
          · exact .inl ⟨.inr h, h2⟩
          · exact .inr h
        · rintro (⟨rfl | h, h2⟩ | h)
          · exact absurd hx h2
          · exact .inl ⟨h, h2⟩
          · exact .inr h
      · rw [if_neg hx]
        simp only [List.cons_append, List.nil_append, List.mem_cons, mem_goL a v y r d]
        constructor
        · rintro (rfl | ⟨h, h2⟩ | h)
          · exact .inl ⟨.inl rfl, hx⟩
          · exact .inl ⟨.inr h, h2⟩
          · exact .inr h
        · rintro (⟨rfl | h, h2⟩ | h)
          · exact .inl rfl
          · exact .inr (.inl ⟨h, h2⟩)
          · exact .inr (.inr h)
/-- By rising addresses. -/
def Ris (L : List (Int × Int)) : Prop := L.Pairwise fun x y => x.1 < y.1
theorem ris_goL (a v : Int) : ∀ (L : List (Int × Int)) (d : Bool), Ris L → Ris (goL a v d L)
  | [], d, h => by unfold goL Ris; cases d <;> simp
  | x :: r, d, h => by
    obtain ⟨h1, h2⟩ := List.pairwise_cons.mp h
    unfold goL
    by_cases hd : d = false ∧ a ≤ x.1
    · rw [if_pos hd]
      have hr := ris_goL a v r true h2
      have hm := fun y => mem_goL a v y r true
      by_cases hx : x.1 = a
      · rw [if_pos hx]
        refine List.pairwise_cons.mpr ⟨fun y hy => ?_, hr⟩
        rcases (hm y).mp hy with ⟨hy, _⟩ | ⟨e, _⟩
        · have := h1 y hy
          show a < y.1
          omega
        · exact absurd e (by decide)
      · rw [if_neg hx]
        refine List.pairwise_cons.mpr ⟨fun y hy => ?_, List.pairwise_cons.mpr ⟨fun y hy => ?_, hr⟩⟩
        · rcases List.mem_cons.mp hy with rfl | hy
          · show a < y.1
            omega
          · rcases (hm y).mp hy with ⟨hy, _⟩ | ⟨e, _⟩
            · have := h1 y hy
              show a < y.1
              omega
            · exact absurd e (by decide)
        · rcases (hm y).mp hy with ⟨hy, _⟩ | ⟨e, _⟩
          · exact h1 y hy
          · exact absurd e (by decide)
    · rw [if_neg hd]
      have hr := ris_goL a v r d h2
      by_cases hx : x.1 = a
      · rw [if_pos hx]; exact hr
      · rw [if_neg hx]
        refine List.pairwise_cons.mpr ⟨fun y hy => ?_, hr⟩
        rcases (mem_goL a v y r d).mp hy with ⟨hy, _⟩ | ⟨e, rfl⟩
        · exact h1 y hy
        · have : ¬ a ≤ x.1 := fun h => hd ⟨e, h⟩
          show x.1 < a
          omega
/-- A list is what stands. -/
structure IsLs (L : List (Int × Int)) (f : Int → Int) : Prop where
  ris : Ris L
  at_ : ∀ x ∈ L, isU x.1 ∧ isU x.2 ∧ x.2 ≠ 0 ∧ f x.1 = x.2
  all : ∀ a, isU a → f a ≠ 0 → (a, f a) ∈ L
theorem IsLs.nil : IsLs [] fun _ => 0 := ⟨List.Pairwise.nil, fun x h => by simp at h, fun a _ h => absurd rfl h⟩
theorem IsLs.put {L : List (Int × Int)} {f : Int → Int} {a v : Int} (h : IsLs L f) (ha : isU a) (hv : isU v) : IsLs (putL L a v) (upd f a v) := by
  refine ⟨ris_goL a v L _ h.ris, fun x hx => ?_, fun b hb h0 => ?_⟩
  · rcases (mem_goL a v x L _).mp hx with ⟨hx, hn⟩ | ⟨e, rfl⟩
    · obtain ⟨h1, h2, h3, h4⟩ := h.at_ x hx
      exact ⟨h1, h2, h3, by rw [upd_other hn]; exact h4⟩
    · exact ⟨ha, hv, by simpa using e, upd_same _ _ _⟩
  · refine (mem_goL a v _ L _).mpr ?_
    by_cases e : b = a
    · subst e
      rw [upd_same] at h0 ⊢
      exact .inr ⟨by simpa using h0, rfl⟩
    · rw [upd_other e] at h0 ⊢
      exact .inl ⟨h.all b hb h0, e⟩
theorem ris_eq : ∀ {L M : List (Int × Int)}, Ris L → Ris M → (∀ x, x ∈ L ↔ x ∈ M) → L = M
  | [], [], _, _, _ => rfl
  | [], y :: M, _, _, h => absurd ((h y).mpr (by simp)) (by simp)
  | x :: L, [], _, _, h => absurd ((h x).mp (by simp)) (by simp)
  | x :: L, y :: M, hL, hM, h => by
    obtain ⟨l1, l2⟩ := List.pairwise_cons.mp hL
    obtain ⟨m1, m2⟩ := List.pairwise_cons.mp hM
    have hxy : x = y := by
      rcases List.mem_cons.mp ((h x).mp (by simp)) with e | hx
      · exact e
      · rcases List.mem_cons.mp ((h y).mpr (by simp)) with e | hy
        · exact e.symm
        · have := m1 x hx
          have := l1 y hy
          omega
    subst hxy
    rw [ris_eq l2 m2 (fun z => ?_)]
    constructor
    · intro hz
      rcases List.mem_cons.mp ((h z).mp (by simp [hz])) with rfl | hz'
      · have := l1 z hz; omega
      · exact hz'
    · intro hz
      rcases List.mem_cons.mp ((h z).mpr (by simp [hz])) with rfl | hz'
      · have := m1 z hz; omega
      · exact hz'
theorem IsLs.uniq {L M : List (Int × Int)} {f : Int → Int} (h : IsLs L f) (k : IsLs M f) : L = M := by
  refine ris_eq h.ris k.ris fun x => ⟨fun hx => ?_, fun hx => ?_⟩
  · obtain ⟨h1, h2, h3, h4⟩ := h.at_ x hx
    have := k.all x.1 h1 (by rw [h4]; exact h3)
    rwa [h4] at this
  · obtain ⟨h1, h2, h3, h4⟩ := k.at_ x hx
    have := h.all x.1 h1 (by rw [h4]; exact h3)
    rwa [h4] at this
/-- The first one of an address. -/
def peekL (L : List (Int × Int)) (a : Int) : Int := match L.find? (fun x => x.1 == a) with | some x => x.2 | none => 0
theorem IsLs.peek {L : List (Int × Int)} {f : Int → Int} {a : Int} (h : IsLs L f) (ha : isU a) : peekL L a = f a := by
  unfold peekL
  cases e : L.find? (fun x => x.1 == a) with
  | none =>
    by_cases h0 : f a = 0
    · exact h0.symm
    · have := List.find?_eq_none.mp e _ (h.all a ha h0)
      simp at this
  | some x =>
    have hx := List.mem_of_find?_eq_some e
    have hp := List.find?_some e
    have := (h.at_ x hx).2.2.2
    simp at hp
    rw [hp] at this
    exact this.symm
/-- A sorted list of what stands, out of the sort's words. -/
theorem isL_of_sort {d d' : Array (Int × Int)} {f : Int → Int} {cf : Int × Int → Int × Int → Int} (hcf : ∀ x y, (decide (cf x y < 0)) = decide (x.1 < y.1))
    (hp : Go.Sort.PermIn 0 d.size d d') (hs : Go.Sort.SortedIn (fun x y => decide (cf x y < 0)) 0 d.size d')
    (hnd : (d.toList.map (·.1)).Nodup) (hat : ∀ x ∈ d.toList, isU x.1 ∧ isU x.2 ∧ x.2 ≠ 0 ∧ f x.1 = x.2) (hall : ∀ a, isU a → f a ≠ 0 → (a, f a) ∈ d.toList) : IsLs d'.toList f := by
  obtain ⟨h1, h2, h3⟩ := hp
  have hperm : d'.toList.Perm d.toList := by
    rw [show d'.extract 0 d.size = d' by rw [← h1]; simp, show d.extract 0 d.size = d by simp] at h3
    exact h3
  have hnd' : (d'.toList.map (·.1)).Nodup := (hperm.map _).nodup_iff.mpr hnd
  refine ⟨?_, fun x hx => hat x (hperm.mem_iff.mp hx), fun a ha h0 => hperm.mem_iff.mpr (hall a ha h0)⟩
  unfold Ris
  rw [List.pairwise_iff_getElem]
  intro i j hi hj hij
  have hj' : j < d.size := by rw [← h1]; simpa using hj
  have := hs i j (Nat.zero_le _) hij hj'
  simp only [hcf] at this
  have ei : d'[i]! = d'.toList[i] := by rw [getElem!_pos d' i (by simpa using hi)]; simp
  have ej : d'[j]! = d'.toList[j] := by rw [getElem!_pos d' j (by simpa using hj)]; simp
  rw [ei, ej] at this
  simp only [decide_eq_false_iff_not] at this
  have hne : (d'.toList[i]).1 ≠ (d'.toList[j]).1 := by
    intro e
    have := List.pairwise_iff_getElem.mp hnd' i j (by simpa using hi) (by simpa using hj) hij
    simp at this
    apply this
    simpa using e
  omega
end Go.Proofs.YtodppilfpemepaaGreat
