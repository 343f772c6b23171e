/- A touch steps: what the law reads of the tables. -/
import Derived.Test.YtepkpbhhiianpaaRo3
namespace Go.Proofs.Ytepkpbhhiianpaa
open Go.RowKit Go.Maps
set_option linter.unusedVariables false
section
variable {G : Nat → Prop} {B : Nat} {W X Y : World} {A : Ad} {m : Int} {AL LO HA : Nat} {taken : Bool} {sets : Int} {i : Nat} {first : Int} {k q : Nat} {v : Int} {had over done : Bool} {ld aft : Int}
/-- What stands in place k. -/
theorem RoV.at_ (h : RoV G B W X A m AL LO HA taken sets i first v) (hk8 : k < 8) : ∃ qo : Option Nat, X.cell? ⟨AL, k, none⟩ = some (.pointer (qo.map fun q => ⟨q, 0, none⟩)) ∧ X.frozen? ⟨AL, k, none⟩ = false ∧
    ∀ q, qo = some q → ∃ ov, (∀ Z, Below X.heap.size X Z → Calls Try.prog 14 #[.pointer (some ⟨q, 0, none⟩)] Z fun e w' => e = .returned (.bool ov) ∧ Z = w') ∧
      (ov = false → RoT G B W X A m AL LO HA taken sets i first k q v true) := by
  obtain ⟨V, qs, wd, lf, dn, hs, h1, h2, h3, h4, h5, hv⟩ := h
  refine ⟨qs k, (h1.al k hk8).1, (h1.al k hk8).2, fun q hq => ?_⟩
  have ho := (h1.tos k hk8 q hq).1
  have hT := h2.tos k q hk8 hq
  refine ⟨lf k == 0, fun Z hb => ?_, fun ov => ?_⟩
  · have ho' := ho.new hb
    by_cases e : lf k = 0
    · rw [show (lf k == 0) = true by simp [e]]
      exact overw (ob_toR ho') e
    · have e' : (lf k == 0) = false := by simpa using e
      rw [e']
      exact overn (ob_toR ho') e'
  · have e : lf k ≠ 0 := by simpa using ov
    refine ⟨V, qs, wd, lf, dn, hs, h1, hq, fun j hj _ => h3 j hj, h4, h5, hv, by rw [h3 k hk8, hq]; rfl, .inr ⟨rfl, ?_, h2⟩⟩
    rcases hT.2.2 with a | a
    · exact absurd a e
    · exact a.1
/-- A new touch in place k. -/
theorem RoV.fresh (h : RoV G B W X A m AL LO HA taken sets i first v) (hk8 : k < 8) (hme : m = 4294967299) (hG : G AL ∧ G LO ∧ G HA) (hd : AL ≠ LO ∧ AL ≠ HA ∧ LO ≠ HA ∧ B ≤ AL ∧ B ≤ LO ∧ B ≤ HA) (h0 : 0 ≤ first) :
    Calls Try.prog 15 #[.int .i64 3] X fun e w' => ∃ q, e = .returned (.pointer (some ⟨q, 0, none⟩)) ∧ (∃ o, w'.cell? ⟨AL, k, none⟩ = some o) ∧ w'.frozen? ⟨AL, k, none⟩ = false ∧ (∃ o, w'.cell? ⟨HA, k, none⟩ = some o) ∧ w'.frozen? ⟨HA, k, none⟩ = false ∧ (∃ o, (w'.setCell ⟨AL, k, none⟩ (.pointer (some ⟨q, 0, none⟩))).cell? ⟨HA, k, none⟩ = some o) ∧
      RoT G B W ((w'.setCell ⟨AL, k, none⟩ (.pointer (some ⟨q, 0, none⟩))).setCell ⟨HA, k, none⟩ (.bool false)) A m AL LO HA taken sets i first k q v false := by
  obtain ⟨V, qs, wd, lf, dn, hs, h1, h2, h3, h4, h5, hv⟩ := h
  refine (newTo h1.wdg 3 (by decide) (by decide)).mono ?_
  rintro e w' ⟨rfl, ht, hb⟩
  rw [show (4294967296 + 3 : Int) = m by omega] at ht
  have hY := h1.new hb
  have hN := h1.newq hG ⟨hd.1, hd.2.1, hd.2.2.1⟩ hk8 (Nat.le_refl _) hb ht
  have kA : Keeps (fun j => j = AL) w' (w'.setCell ⟨AL, k, none⟩ (.pointer (some ⟨X.heap.size, 0, none⟩))) := Keeps.setCell (S := fun j => j = AL) (Keeps.refl _ _) (p := ⟨AL, k, none⟩) (.inl rfl) _
  have kAH : Keeps (fun j => j = AL ∨ j = HA) w' ((w'.setCell ⟨AL, k, none⟩ (.pointer (some ⟨X.heap.size, 0, none⟩))).setCell ⟨HA, k, none⟩ (.bool false)) := Keeps.setCell (S := fun j => j = AL ∨ j = HA) (Keeps.setCell (S := fun j => j = AL ∨ j = HA) (Keeps.refl _ w') (p := ⟨AL, k, none⟩) (.inl (.inl rfl)) _) (p := ⟨HA, k, none⟩) (.inl (.inr rfl)) _
  refine ⟨X.heap.size, rfl, ⟨_, (hY.al k hk8).1⟩, (hY.al k hk8).2, ⟨_, (hY.ha k hk8).1⟩, (hY.ha k hk8).2, ⟨_, kA.cell (p := ⟨HA, k, none⟩) (fun e => hd.2.1 e.symm) (hY.ha k hk8).1⟩,
    ⟨V, _, _, _, _, _, hN, by simp [qput], fun j hj e => ?_, h4, ?_, hv, bput_same _ _ _, .inl ⟨rfl, zput_same' _ _ _, bput_same _ _ _, fun l hl => ?_⟩⟩⟩
  · simp only [bput, qput, if_neg e]
    exact h3 j hj
  · exact Kp.to h5 (Kp.to (Kp.of hb) (Keeps.mono kAH (fun k _ n g => by have : k < B := g; rcases n with n | n <;> omega)))
  · have := h2.stepL (k := k) (q := X.heap.size) h0 hl
    have e1 : zput (zput wd k 0) k (V.f m) = zput wd k (V.f m) := by funext j; simp only [zput]; split <;> rfl
    have e2 : zput (zput lf k 3) k l = zput lf k l := by funext j; simp only [zput]; split <;> rfl
    have e3 : bput (bput dn k false) k false = bput dn k false := by funext j; simp only [bput]; split <;> rfl
    rw [e1, e2, e3]
    exact this
/-- What the law reads ahead of the step. -/
theorem RoT.read (h : RoT G B W X A m AL LO HA taken sets i first k q v had) (hk8 : k < 8) : X.cell? ⟨AL, k, none⟩ = some (.pointer (some ⟨q, 0, none⟩)) ∧ X.cell? ⟨HA, k, none⟩ = some (.bool had) := by
  obtain ⟨V, qs, wd, lf, dn, hs, h1, h2, h3, h4, h5, h6, h7, h8⟩ := h
  have a := (h1.al k hk8).1
  have b := (h1.ha k hk8).1
  rw [h2] at a
  rw [h7] at b
  exact ⟨a, b⟩
/-- What the law reads behind it. -/
theorem RoU.read (h : RoU G B W X A m AL LO HA taken sets i first k q v had over done ld aft) (hk8 : k < 8) (hm : isU m) : X.cell? ⟨AL, k, none⟩ = some (.pointer (some ⟨q, 0, none⟩)) ∧ X.cell? ⟨HA, k, none⟩ = some (.bool had) ∧ X.frozen? ⟨HA, k, none⟩ = false ∧ X.frozen? ⟨LO, k, none⟩ = false ∧ (∃ o, X.cell? ⟨LO, k, none⟩ = some (.int .u64 o) ∧ (had = true → o = ld)) ∧ X.cell? ⟨A.p, 0, none⟩ = some (.pointer (some ⟨A.pc, 0, none⟩)) ∧ isU aft ∧
    (∀ Z, Below X.heap.size X Z → Calls Try.prog 12 #[.pointer (some ⟨A.pc, 0, none⟩), .int .u64 m] Z fun e w' => e = .returned (.int .u64 aft) ∧ Z = w') ∧
    (∀ Z, Below X.heap.size X Z → Calls Try.prog 17 #[.pointer (some ⟨q, 0, none⟩)] Z fun e w' => e = .returned (.bool done) ∧ Z = w') := by
  obtain ⟨V, qs, wd, lf, dn, hs, h1, h2, h3, h4, h5, h6, h7, h8, h9, h10, h11⟩ := h
  have a := (h1.al k hk8).1
  have b := (h1.ha k hk8).1
  rw [h3] at a
  rw [h7] at b
  obtain ⟨z, u, c, e⟩ := h1.lo k hk8
  refine ⟨a, b, (h1.ha k hk8).2, z, ⟨u, c, fun t => by rw [e (by rw [h7]; exact t), h9]⟩, h1.wdg.box.c0, h10 ▸ h1.wdg.rng hm, fun Z hb => h10 ▸ gpeek (h1.wdg.new hb) hm, fun Z hb => ?_⟩
  have ho := ((h1.tos k hk8 q h3).1).new hb
  rw [h8] at ho
  exact donew (ob_toR ho)
/-- Where it had been loaded already. -/
theorem RoU.back (h : RoU G B W X A m AL LO HA taken sets i first k q v true over done ld aft) (hk8 : k < 8) : RoR G B W X A m AL LO HA taken (sets + if done then 1 else 0) (i + 1) first := by
  obtain ⟨V, qs, wd, lf, dn, hs, h1, h2, h3, h4, h5, h6, h7, h8, h9, h10, h11⟩ := h
  refine ⟨V, qs, wd, lf, dn, hs, h1, h2, fun j hj => ?_, h5, h6⟩
  by_cases e : j = k
  · rw [e, h7, h3]; rfl
  · exact h4 j hj e
/-- Where it is the first step. -/
theorem RoU.mark (h : RoU G B W X A m AL LO HA taken sets i first k q v false over done ld aft) (hk8 : k < 8) (hG : G AL ∧ G LO ∧ G HA) (hd : AL ≠ LO ∧ AL ≠ HA ∧ LO ≠ HA ∧ B ≤ AL ∧ B ≤ LO ∧ B ≤ HA) :
    RoU G B W ((X.setCell ⟨LO, k, none⟩ (.int .u64 v)).setCell ⟨HA, k, none⟩ (.bool true)) A m AL LO HA taken sets i first k q v true over done ld aft := by
  obtain ⟨V, qs, wd, lf, dn, hs, h1, h2, h3, h4, h5, h6, h7, h8, h9, h10, h11, h12, h13⟩ := h
  have e := h11 rfl
  have k1 : Keeps (fun j => j = LO ∨ j = HA) X ((X.setCell ⟨LO, k, none⟩ (.int .u64 v)).setCell ⟨HA, k, none⟩ (.bool true)) := Keeps.setCell (S := fun j => j = LO ∨ j = HA) (Keeps.setCell (S := fun j => j = LO ∨ j = HA) (Keeps.refl _ X) (p := ⟨LO, k, none⟩) (.inl (.inl rfl)) _) (p := ⟨HA, k, none⟩) (.inl (.inr rfl)) _
  refine ⟨V, qs, wd, lf, dn, _, h1.mark hG ⟨hd.1, hd.2.1, hd.2.2.1⟩ hk8 (v := v) (by rw [h9]; exact e.1.symm), h2, h3, fun j hj e => ?_, h5, Kp.to h6 (Keeps.mono k1 (fun k _ n g => by have : k < B := g; rcases n with n | n <;> omega)), bput_same _ _ _, h8, h9, h10, fun t => (by cases t), h12, h13⟩
  simp only [bput, if_neg e]
  exact h4 j hj e
theorem RoU.say (h : RoU G B W X A m AL LO HA taken sets i first k q v had over done ld aft) : (had = false → ld = v ∧ done = false ∧ over = (v % 2 == 1)) ∧ (done = true → over = true ∧ v = ld ∧ aft = v + 1 ∧ v % 2 = 0) ∧ (done = false → aft = v) := by
  obtain ⟨V, qs, wd, lf, dn, hs, h1, h2, h3, h4, h5, h6, h7, h8, h9, h10, h11⟩ := h
  exact h11
theorem RoT.kp (h : RoT G B W X A m AL LO HA taken sets i first k q v had) : Kp (fun k => k < B) W X := by
  obtain ⟨V, qs, wd, lf, dn, hs, h1, h2, h3, h4, h5, h6⟩ := h
  exact h5
end
end Go.Proofs.Ytepkpbhhiianpaa
