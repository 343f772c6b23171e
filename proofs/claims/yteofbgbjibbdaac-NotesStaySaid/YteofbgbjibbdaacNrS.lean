/- The law's Same, of notes and the chapter's, as many as there are. -/
import Derived.Test.YteofbgbjibbdaacNrT3
import Derived.Test.YteofbgbjibbdaacNlE
import Derived.Deep.RegionHeld3
import Derived.LoopTactic
namespace Go.Proofs.Yteofbgbjibbdaac
open Go.RowKit
set_option linter.unusedVariables false

/-- These values lie in a slice's block. -/
def Lies (w : World) (a : Option Addr) (cap n : Nat) (xs : List Value) : Prop := 0 < n → ∃ g, a = some ⟨g, 0, none⟩ ∧ g < w.heap.size ∧ n ≤ cap ∧ ∀ j u, xs[j]? = some u → w.cell? ⟨g, j, none⟩ = some u
set_option maxHeartbeats 4000000 in
set_option maxRecDepth 100000 in
theorem same_many {w : World} {L : List Nv} {a b : Option Addr} {n ca cb : Nat} (hn : L.length = n) (hM : n ≤ 1048576) (hk : ∀ x ∈ L, 0 ≤ x.k ∧ x.k ≤ 255) (ha : Lies w a ca n (rowsN L)) (hb : Lies w b cb n (rowsR L)) :
    Calls Try.prog 61 #[.slice a n ca, .slice b n cb] w fun e w' => e = .returned (.bool true) ∧ Below w.heap.size w w' := by
  have HA := Lib.hid ha
  have HB := Lib.hid hb
  have HK := Lib.hid hk
  have HN := Lib.hid hn
  clear ha hb hk hn
  go_enter Try.func61, Try.ntmps61
  go_wp2_with fail
  go_loopw [5] (fun i wr => ∃ k0 : Nat, k0 ≤ n ∧ i = .int .i64 k0 ∧ Below w.heap.size w wr) (fun i _ => n - (intOf i).toNat)
  case atStart => exact ⟨0, Nat.zero_le _, rfl, Below.refl _ _⟩
  case round =>
    obtain ⟨k0, hk0, rfl, hbel⟩ := hrel
    by_cases hlt : k0 < n
    · obtain ⟨ga, rfl, la, na, ha⟩ := HA.out (by omega)
      obtain ⟨gb, rfl, lb, nb, hb⟩ := HB.out (by omega)
      have hkL : k0 < L.length := by have := HN.out; omega
      have hra := fun j (hj : j < 8) => rowsN_at L k0 j hkL hj
      have hrb := fun j (hj : j < 8) => rowsR_at L k0 j hkL hj
      have hkk := HK.out L[k0] (List.getElem_mem hkL)
      generalize L[k0] = x at hra hrb hkk
      obtain ⟨xs, xth, xk, xr, xb, xc, xd, xv⟩ := x
      change 0 ≤ xk ∧ xk ≤ 255 at hkk
      replace ha : ∀ j u, j < 8 → (Nv.cells (xs, xth, xk, xr, xb, xc, xd, xv))[j]? = some u → w.cell? ⟨ga, k0 * 8 + j, none⟩ = some u := fun j u hj hu => ha _ _ ((hra j hj).trans hu)
      replace hb : ∀ j u, j < 8 → (Nv.rcells (xs, xth, xk, xr, xb, xc, xd, xv))[j]? = some u → w.cell? ⟨gb, k0 * 8 + j, none⟩ = some u := fun j u hj hu => hb _ _ ((hrb j hj).trans hu)
      have a0 : wr.cell? ⟨ga, k0 * 8, none⟩ = some (.int .i64 xs) := (hbel.cell (p := ⟨ga, k0 * 8, none⟩) la).trans (ha 0 _ (by omega) rfl)
      have a1 : wr.cell? ⟨ga, k0 * 8 + 1, none⟩ = some (.int .i64 xth) := (hbel.cell (p := ⟨ga, k0 * 8 + 1, none⟩) la).trans (ha 1 _ (by omega) rfl)
      have a2 : wr.cell? ⟨ga, k0 * 8 + 2, none⟩ = some (.int .u8 xk) := (hbel.cell (p := ⟨ga, k0 * 8 + 2, none⟩) la).trans (ha 2 _ (by omega) rfl)
      have a3 : wr.cell? ⟨ga, k0 * 8 + 3, none⟩ = some (.int .i64 xr) := (hbel.cell (p := ⟨ga, k0 * 8 + 3, none⟩) la).trans (ha 3 _ (by omega) rfl)
      have a4 : wr.cell? ⟨ga, k0 * 8 + 4, none⟩ = some (.int .i64 xb) := (hbel.cell (p := ⟨ga, k0 * 8 + 4, none⟩) la).trans (ha 4 _ (by omega) rfl)
      have a5 : wr.cell? ⟨ga, k0 * 8 + 5, none⟩ = some (.int .i64 xc) := (hbel.cell (p := ⟨ga, k0 * 8 + 5, none⟩) la).trans (ha 5 _ (by omega) rfl)
      have a6 : wr.cell? ⟨ga, k0 * 8 + 6, none⟩ = some (.int .i64 xd) := (hbel.cell (p := ⟨ga, k0 * 8 + 6, none⟩) la).trans (ha 6 _ (by omega) rfl)
      have a7 : wr.cell? ⟨ga, k0 * 8 + 7, none⟩ = some (.int .i64 xv) := (hbel.cell (p := ⟨ga, k0 * 8 + 7, none⟩) la).trans (ha 7 _ (by omega) rfl)
      have b0 : wr.cell? ⟨gb, k0 * 8, none⟩ = some (.int .i64 xs) := (hbel.cell (p := ⟨gb, k0 * 8, none⟩) lb).trans (hb 0 _ (by omega) rfl)
      have b1 : wr.cell? ⟨gb, k0 * 8 + 1, none⟩ = some (.int .i64 xth) := (hbel.cell (p := ⟨gb, k0 * 8 + 1, none⟩) lb).trans (hb 1 _ (by omega) rfl)
      have b2 : wr.cell? ⟨gb, k0 * 8 + 2, none⟩ = some (.int .i64 xk) := (hbel.cell (p := ⟨gb, k0 * 8 + 2, none⟩) lb).trans (hb 2 _ (by omega) rfl)
      have b3 : wr.cell? ⟨gb, k0 * 8 + 3, none⟩ = some (.int .i64 xr) := (hbel.cell (p := ⟨gb, k0 * 8 + 3, none⟩) lb).trans (hb 3 _ (by omega) rfl)
      have b4 : wr.cell? ⟨gb, k0 * 8 + 4, none⟩ = some (.int .i64 xb) := (hbel.cell (p := ⟨gb, k0 * 8 + 4, none⟩) lb).trans (hb 4 _ (by omega) rfl)
      have b5 : wr.cell? ⟨gb, k0 * 8 + 5, none⟩ = some (.int .i64 xc) := (hbel.cell (p := ⟨gb, k0 * 8 + 5, none⟩) lb).trans (hb 5 _ (by omega) rfl)
      have b6 : wr.cell? ⟨gb, k0 * 8 + 6, none⟩ = some (.int .i64 xd) := (hbel.cell (p := ⟨gb, k0 * 8 + 6, none⟩) lb).trans (hb 6 _ (by omega) rfl)
      have b7 : wr.cell? ⟨gb, k0 * 8 + 7, none⟩ = some (.int .i64 xv) := (hbel.cell (p := ⟨gb, k0 * 8 + 7, none⟩) lb).trans (hb 7 _ (by omega) rfl)
      have hca : k0 < ca := by omega
      have hcb : k0 < cb := by omega
      have j0 : (0 : Int) ≤ (k0 : Int) := by omega
      have j1 : (k0 : Int) < (n : Int) := by omega
      have hlr := hbel.size
      have la' : ga < wr.heap.size := by omega
      have lb' : gb < wr.heap.size := by omega
      have hB0 : Below wr.heap.size wr wr.drew := (Below.refl _ _).drew
      have hN : wr.heap.size ≤ wr.heap.size := Nat.le_refl _
      have HBE := Lib.hid hbel
      clear ha hb hra hrb hbel
      go_wp2_with fail
      go_region_held3 (fun w' => w'.cell? ⟨ga, k0 * 8, none⟩ = some (.int .i64 xs) ∧ w'.cell? ⟨ga, k0 * 8 + 1, none⟩ = some (.int .i64 xth) ∧ w'.cell? ⟨ga, k0 * 8 + 2, none⟩ = some (.int .u8 xk) ∧ w'.cell? ⟨ga, k0 * 8 + 3, none⟩ = some (.int .i64 xr) ∧ w'.cell? ⟨ga, k0 * 8 + 4, none⟩ = some (.int .i64 xb) ∧ w'.cell? ⟨ga, k0 * 8 + 5, none⟩ = some (.int .i64 xc) ∧ w'.cell? ⟨ga, k0 * 8 + 6, none⟩ = some (.int .i64 xd) ∧ w'.cell? ⟨ga, k0 * 8 + 7, none⟩ = some (.int .i64 xv) ∧ w'.cell? ⟨gb, k0 * 8, none⟩ = some (.int .i64 xs) ∧ w'.cell? ⟨gb, k0 * 8 + 1, none⟩ = some (.int .i64 xth) ∧ w'.cell? ⟨gb, k0 * 8 + 2, none⟩ = some (.int .i64 xk) ∧ w'.cell? ⟨gb, k0 * 8 + 3, none⟩ = some (.int .i64 xr) ∧ w'.cell? ⟨gb, k0 * 8 + 4, none⟩ = some (.int .i64 xb) ∧ w'.cell? ⟨gb, k0 * 8 + 5, none⟩ = some (.int .i64 xc) ∧ w'.cell? ⟨gb, k0 * 8 + 6, none⟩ = some (.int .i64 xd) ∧ w'.cell? ⟨gb, k0 * 8 + 7, none⟩ = some (.int .i64 xv))
        (first
          | exact ⟨box_cell (by assumption) la' a0, box_cell (by assumption) la' a1, box_cell (by assumption) la' a2, box_cell (by assumption) la' a3, box_cell (by assumption) la' a4, box_cell (by assumption) la' a5, box_cell (by assumption) la' a6, box_cell (by assumption) la' a7, box_cell (by assumption) lb' b0, box_cell (by assumption) lb' b1, box_cell (by assumption) lb' b2, box_cell (by assumption) lb' b3, box_cell (by assumption) lb' b4, box_cell (by assumption) lb' b5, box_cell (by assumption) lb' b6, box_cell (by assumption) lb' b7⟩)
        (first
          | (go_at_call 56; refine (otherw _ _ _ _ _ _ _ _ _ hkk.1 hkk.2).mono ?_; rintro e w' ⟨rfl, hk⟩; have hq := box_then (by assumption) hN hk; clear hk))
      go_wp2_with fail
      go_roundw
      case rel => exact ⟨k0 + 1, by omega, by go_num, HBE.out.trans (hq.mono hlr)⟩
      case measure => simp [intOf]; omega
    · obtain rfl : n = k0 := by omega
      go_wp2_with fail
      go_ret
      exact ⟨rfl, hbel⟩
end Go.Proofs.Yteofbgbjibbdaac
