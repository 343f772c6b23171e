/- The law's spoil: rows that were handed out are written over. -/
import Derived.Test.YteofbgbjibbdaacNrT3
import Derived.LoopTactic
namespace Go.Proofs.Yteofbgbjibbdaac
open Go.RowKit
set_option linter.unusedVariables false

/-- The first N cells of a block are there, and may be written. -/
def Open8 (w : World) (g N : Nat) : Prop := ∀ j, j < N → (∃ u, w.cell? ⟨g, j, none⟩ = some u) ∧ w.frozen? ⟨g, j, none⟩ = false
theorem Open8.set {w : World} {g N i : Nat} (h : Open8 w g N) (hi : i < N) (u : Value) : Open8 (w.setCell ⟨g, i, none⟩ u) g N := by
  intro j hj
  refine ⟨?_, by rw [World.frozen?_setCell]; exact (h j hj).2⟩
  by_cases e : j = i
  · subst e
    obtain ⟨x, hx⟩ := (h j hj).1
    exact ⟨u, World.cell?_setCell_same _ _ _ hx⟩
  · obtain ⟨x, hx⟩ := (h j hj).1
    exact ⟨x, (World.cell?_setCell_other w ⟨g, i, none⟩ ⟨g, j, none⟩ u (by intro e'; injection e' with _ e'; exact e e'.symm)).trans hx⟩
set_option maxHeartbeats 2000000 in
set_option maxRecDepth 100000 in
theorem spoilw {w : World} {g n cap : Nat} (hM : n ≤ 1000000) (hnc : n ≤ cap) (h : Open8 w g (n * 8)) :
    Calls Try.prog 64 #[.slice (some ⟨g, 0, none⟩) n cap] w fun e w' => e = .returned (.tuple #[]) ∧ Keeps (fun k => k = g) w w' := by
  have HH := Lib.hid h
  clear h
  go_enter Try.func64, Try.ntmps64
  go_wp2_with fail
  go_loopw [2] (fun i wr => ∃ k : Nat, k ≤ n ∧ i = .int .i64 k ∧ Open8 wr g (n * 8) ∧ Keeps (fun k => k = g) w wr) (fun i _ => n - (intOf i).toNat)
  case atStart => exact ⟨0, Nat.zero_le _, rfl, HH.out, Keeps.refl _ _⟩
  case round =>
    obtain ⟨k, hk, rfl, ho, hkp⟩ := hrel
    by_cases hlt : k < n
    · obtain ⟨⟨u0, c0⟩, f0⟩ := ho (k * 8) (by omega)
      obtain ⟨⟨u1, c1⟩, f1⟩ := ho (k * 8 + 1) (by omega)
      obtain ⟨⟨u2, c2⟩, f2⟩ := ho (k * 8 + 2) (by omega)
      obtain ⟨⟨u3, c3⟩, f3⟩ := ho (k * 8 + 3) (by omega)
      obtain ⟨⟨u4, c4⟩, f4⟩ := ho (k * 8 + 4) (by omega)
      obtain ⟨⟨u5, c5⟩, f5⟩ := ho (k * 8 + 5) (by omega)
      obtain ⟨⟨u6, c6⟩, f6⟩ := ho (k * 8 + 6) (by omega)
      obtain ⟨⟨u7, c7⟩, f7⟩ := ho (k * 8 + 7) (by omega)
      have HO := Lib.hid ho
      have HKP := Lib.hid hkp
      have j0 : (0 : Int) ≤ (k : Int) := by omega
      have j1 : (k : Int) < (n : Int) := by omega
      clear ho hkp
      go_wp2_with fail
      go_roundw
      case rel => exact ⟨k + 1, by omega, by go_num, (((((((HO.out.set (i := k * 8) (by omega) _).set (i := k * 8 + 1) (by omega) _).set (i := k * 8 + 2) (by omega) _).set (i := k * 8 + 3) (by omega) _).set (i := k * 8 + 4) (by omega) _).set (i := k * 8 + 5) (by omega) _).set (i := k * 8 + 6) (by omega) _).set (i := k * 8 + 7) (by omega) _, (((((((HKP.out.setCell (p := ⟨g, k * 8, none⟩) (.inl rfl) _).setCell (p := ⟨g, k * 8 + 1, none⟩) (.inl rfl) _).setCell (p := ⟨g, k * 8 + 2, none⟩) (.inl rfl) _).setCell (p := ⟨g, k * 8 + 3, none⟩) (.inl rfl) _).setCell (p := ⟨g, k * 8 + 4, none⟩) (.inl rfl) _).setCell (p := ⟨g, k * 8 + 5, none⟩) (.inl rfl) _).setCell (p := ⟨g, k * 8 + 6, none⟩) (.inl rfl) _).setCell (p := ⟨g, k * 8 + 7, none⟩) (.inl rfl) _⟩
      case measure => simp [intOf]; omega
    · obtain rfl : n = k := by omega
      go_wp2_with fail
      go_end0
      exact ⟨rfl, hkp⟩
end Go.Proofs.Yteofbgbjibbdaac
