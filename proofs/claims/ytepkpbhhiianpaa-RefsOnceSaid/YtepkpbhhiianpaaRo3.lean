/- A touch steps: ahead of it, and behind it. -/
import Derived.Test.YtepkpbhhiianpaaRo2
namespace Go.Proofs.Ytepkpbhhiianpaa
open Go.RowKit Go.Maps
set_option linter.unusedVariables false
/-- Ahead of a step of the touch in place k. -/
def RoT (G : Nat → Prop) (B : Nat) (W X : World) (A : Ad) (m : Int) (AL LO HA : Nat) (taken : Bool) (sets : Int) (i : Nat) (first : Int) (k q : Nat) (v : Int) (had : Bool) : Prop := ∃ (V : Wv) (qs : Nat → Option Nat) (wd lf : Nat → Int) (dn hs : Nat → Bool), RoS G X A V m AL LO HA qs wd lf dn hs ∧ qs k = some q ∧ (∀ j, j < 8 → j ≠ k → hs j = (qs j).isSome) ∧ V.cnt ≤ 10 + 3 * i ∧ Kp (fun k => k < B) W X ∧ V.f m = v ∧ hs k = had ∧
  ((had = false ∧ lf k = 3 ∧ dn k = false ∧ ∀ l, (l = 0 ∨ (l = 2 ∧ V.f m % 2 = 0)) → RoN V.f m qs (zput wd k (V.f m)) (zput lf k l) (bput dn k false) taken sets (i + 1) first) ∨
   (had = true ∧ (lf k = 1 ∨ lf k = 2) ∧ RoN V.f m qs wd lf dn taken sets i first))
/-- Behind it. -/
def RoU (G : Nat → Prop) (B : Nat) (W X : World) (A : Ad) (m : Int) (AL LO HA : Nat) (taken : Bool) (sets : Int) (i : Nat) (first : Int) (k q : Nat) (v : Int) (had over done : Bool) (ld aft : Int) : Prop := ∃ (V : Wv) (qs : Nat → Option Nat) (wd lf : Nat → Int) (dn hs : Nat → Bool), RoS G X A V m AL LO HA qs wd lf dn hs ∧ RoN V.f m qs wd lf dn taken (sets + if done then 1 else 0) (i + 1) first ∧ qs k = some q ∧ (∀ j, j < 8 → j ≠ k → hs j = (qs j).isSome) ∧ V.cnt ≤ 10 + 3 * (i + 1) ∧ Kp (fun k => k < B) W X ∧ hs k = had ∧ dn k = done ∧ wd k = ld ∧ V.f m = aft ∧
  (had = false → ld = v ∧ done = false ∧ over = (v % 2 == 1)) ∧ (done = true → over = true ∧ v = ld ∧ aft = v + 1 ∧ v % 2 = 0) ∧ (done = false → aft = v)
section
variable {G : Nat → Prop} {B : Nat} {W X Y : World} {A : Ad} {m : Int} {AL LO HA : Nat} {taken : Bool} {sets : Int} {i : Nat} {first : Int} {k q : Nat} {v : Int} {had : Bool}
theorem bput_same (g : Nat → Bool) (k : Nat) (b : Bool) : bput g k b k = b := by simp [bput]
theorem zput_same' (g : Nat → Int) (k : Nat) (b : Int) : zput g k b k = b := by simp [zput]
theorem bput_self {g : Nat → Bool} {k : Nat} {b : Bool} (h : g k = b) : bput g k b = g := by
  funext j; unfold bput; split
  · rename_i e; rw [e, h]
  · rfl
theorem zput_self {g : Nat → Int} {k : Nat} {b : Int} (h : g k = b) : zput g k b = g := by
  funext j; unfold zput; split
  · rename_i e; rw [e, h]
  · rfl
theorem RoT.step (h : RoT G B W X A m AL LO HA taken sets i first k q v had) (hm : isU m) (h5 : m ≠ 5) (hG : G AL ∧ G LO ∧ G HA) (hB : ∀ k, k < B → G k) (hi : i ≤ 1000) (hk8 : k < 8) (hf : first + i < 18446744073709551615) :
    Calls Try.prog 16 #[.pointer (some ⟨q, 0, none⟩), .pointer (some ⟨A.p, 0, none⟩)] X fun e w' => ∃ over done ld aft, e = .returned (.bool over) ∧ RoU G B W w' A m AL LO HA taken sets i first k q v had over done ld aft := by
  obtain ⟨V, qs, wd, lf, dn, hs, h1, hq, h3, h4, hKp, hv, hhs, h6⟩ := h
  have ho := (h1.tos k hk8 q hq).1
  have hGq := (h1.tos k hk8 q hq).2
  have hqT : (fun j => G j ∨ TsB qs j) q := .inr ⟨k, hk8, hq⟩
  have hK : ∀ Y, Kp (fun j => (G j ∨ TsB qs j) ∧ j ≠ q) X Y → Kp (fun j => j < B) W Y := fun Y hk => Kp.to hKp (hk.less (G' := fun j => j < B) (fun j g => ⟨.inl (hB j g), fun e => hGq (e ▸ hB j g)⟩))
  rcases h6 with ⟨g1, g2, g3, g4⟩ | ⟨g1, g2, g3⟩
  · rw [g2, g3] at ho
    by_cases hvm : V.f m % 2 = 1
    · refine (step_in (fun G t => step3m t hm (by omega) (by simp [hvm])) h1.wdg hqT ho).mono ?_
      rintro e w' ⟨rfl, hw, ho', hk⟩
      have hS := h1.step hG hk8 hq hk hw ho' (fun t => by rw [hhs, g1] at t; cases t)
      refine ⟨true, false, _, _, rfl, _, qs, _, _, _, hs, hS, ?_, hq, h3, ?_, hK _ hk, hhs, bput_same _ _ _, zput_same' _ _ _, rfl, fun _ => ⟨hv, rfl, ?_⟩, fun t => (by cases t), fun _ => hv⟩
      · have := g4 0 (.inl rfl)
        rw [show sets + (if false = true then 1 else 0) = sets by simp]
        exact this
      · show V.cnt + 1 ≤ _; omega
      · rw [← hv]; simp [hvm]
    · have hv0 : V.f m % 2 = 0 := by omega
      refine (step_in (fun G t => step3u t hm (by omega) (by simpa using hvm)) h1.wdg hqT ho).mono ?_
      rintro e w' ⟨rfl, hw, ho', hk⟩
      have hS := h1.step hG hk8 hq hk hw ho' (fun t => by rw [hhs, g1] at t; cases t)
      refine ⟨false, false, _, _, rfl, _, qs, _, _, _, hs, hS, ?_, hq, h3, ?_, hK _ hk, hhs, bput_same _ _ _, zput_same' _ _ _, rfl, fun _ => ⟨hv, rfl, ?_⟩, fun t => (by cases t), fun _ => hv⟩
      · have := g4 2 (.inr ⟨rfl, hv0⟩)
        rw [show sets + (if false = true then 1 else 0) = sets by simp]
        exact this
      · show V.cnt + 1 ≤ _; omega
      · rw [← hv]; simp [hv0]
  · have hT := g3.tos k q hk8 hq
    have hd0 : dn k = false := by
      rcases hT.2.2 with a | a
      · omega
      · exact a.2.2
    rw [hd0] at ho
    rcases g2 with g2 | g2
    · rw [g2] at ho
      obtain ⟨r, hr⟩ : ∃ r, (V.f m == wd k) = r := ⟨_, rfl⟩
      have hrng := g3.rng
      refine (step_in (fun G t => step1 t hm hT.1 (by omega) (by omega) hr) h1.wdg hqT ho).mono ?_
      rintro e w' ⟨rfl, hw, ho', hk⟩
      have hS := h1.step hG hk8 hq hk hw ho' (fun t => rfl)
      have hN := g3.stepC h5 hk8 hq g2 hr
      rw [zput_self rfl] at hS
      refine ⟨true, r, _, _, rfl, _, qs, _, _, _, hs, hS, hN, hq, h3, ?_, hK _ hk, hhs, bput_same _ _ _, rfl, rfl, fun t => (by rw [g1] at t; cases t), fun t => ?_, fun t => ?_⟩
      · show V.cnt + 1 ≤ _; omega
      · subst t
        have e := eq_of_beq hr
        rcases hT.2.2 with a | a
        · omega
        · refine ⟨rfl, by rw [← hv, e], ?_, by rw [← hv, e]; exact a.2.1⟩
          show upd V.f m (casI true (wd k + 1) (V.f m)) m = v + 1
          rw [upd_same, ← hv, e]; rfl
      · subst t
        show upd V.f m (casI false (wd k + 1) (V.f m)) m = v
        rw [upd_same, ← hv]; rfl
    · rw [g2] at ho
      have hsw := g3.sw
      by_cases hs0 : V.f 5 = 0
      · refine (step_in (fun G t => step2u t (by omega) (by simp [hs0])) h1.wdg hqT ho).mono ?_
        rintro e w' ⟨rfl, hw, ho', hk⟩
        have hS := h1.step hG hk8 hq hk hw ho' (fun t => rfl)
        have hN := g3.stepS (l := 1) hk8 hq g2 (by rw [if_pos hs0])
        rw [zput_self rfl, bput_self hd0] at hS
        refine ⟨false, false, _, _, rfl, _, qs, _, _, _, hs, hS, (by rw [show sets + (if false = true then 1 else 0) = sets by simp]; exact hN), hq, h3, ?_, hK _ hk, hhs, hd0, rfl, rfl, fun t => (by rw [g1] at t; cases t), fun t => (by cases t), fun _ => hv⟩
        show V.cnt + 1 ≤ _; omega
      · refine (step_in (fun G t => step2s t (by omega) (by simpa using hs0)) h1.wdg hqT ho).mono ?_
        rintro e w' ⟨rfl, hw, ho', hk⟩
        have hS := h1.step hG hk8 hq hk hw ho' (fun t => rfl)
        have hN := g3.stepS (l := 0) hk8 hq g2 (by rw [if_neg hs0])
        rw [zput_self rfl, bput_self hd0] at hS
        refine ⟨true, false, _, _, rfl, _, qs, _, _, _, hs, hS, (by rw [show sets + (if false = true then 1 else 0) = sets by simp]; exact hN), hq, h3, ?_, hK _ hk, hhs, hd0, rfl, rfl, fun t => (by rw [g1] at t; cases t), fun t => (by cases t), fun _ => hv⟩
        show V.cnt + 1 ≤ _; omega
end
end Go.Proofs.Ytepkpbhhiianpaa
