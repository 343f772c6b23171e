/- The law ItemsFull. -/
import Derived.Test.YteofbgbjibbdaabArI
namespace Go.Proofs.Yteofbgbjibbdaab
open Go.RowKit
set_option linter.unusedVariables false
def idx (i : Nat) : It := (⟨#[]⟩, ⟨#[]⟩, 0, ((i : Int) + 1), 0, 0)
def idL (k : Nat) : List It := (List.range k).map idx
theorem idL_len (k : Nat) : (idL k).length = k := by simp [idL]
theorem idL_succ (k : Nat) : idL (k + 1) = idL k ++ [idx k] := by simp [idL, List.range_succ]
theorem idL_at {k i : Nat} (h : i < k) {z : Int} (hz : z = (i : Int) + 1) : (idL k)[i]? = some (⟨#[]⟩, ⟨#[]⟩, 0, z, 0, 0) := by
  subst hz
  simp [idL, h, idx]
def FRel (N : Nat) (w : World) (k : Nat) (wr : World) : Prop := ∃ S, Ars wr N (idL k) S ∧ (∀ j, S j → N ≤ j) ∧ Below N w wr
theorem FRel.add {N : Nat} {w : World} {k : Nat} {wr : World} (h : FRel N w k wr) (hN : N ≤ wr.heap.size) (hk : k < 1048576) :
    Calls Try.prog 30 #[.pointer (some ⟨N, 0, none⟩), .agg #[.string ⟨#[]⟩, .string ⟨#[]⟩, .int .u32 0, .int .u64 ((k : Int) + 1), .int .i64 0, .int .i64 0]] wr fun e w' => e = .returned (.tuple #[.int .i64 ((k : Int) + 1), .int .i64 0]) ∧ FRel N w (k + 1) w' := by
  obtain ⟨S, h1, h2, h3⟩ := h
  refine (iadd_any h1 (by rw [idL_len]; exact hk) _ _ _ _ _ _ (n := (k : Int) + 1) (by rw [idL_len])).mono ?_
  rintro e w' ⟨rfl, S', t, q⟩
  obtain ⟨b1, b2⟩ := t.to_below h2 hN
  exact ⟨rfl, S', by rw [idL_succ]; exact q, b2, h3.trans b1⟩
set_option maxHeartbeats 4000000 in
set_option maxRecDepth 100000 in
theorem walk_ItemsFull (w : World) :
    Calls Try.prog 10 #[] w fun e w' => e = .returned (.bool true) ∧ Below w.heap.size w w' := by
  obtain ⟨N, hN⟩ : ∃ N, N = w.heap.size := ⟨_, rfl⟩
  obtain ⟨M, hM⟩ : ∃ M : Nat, M = 1048576 := ⟨_, rfl⟩
  have HN := Lib.hid hN
  have HM := Lib.hid hM
  clear hN hM
  go_enter Try.func10, Try.ntmps10
  go_wp2_with (go_at_call 29; refine (inew _).mono ?_; rintro e w1 ⟨rfl, rfl⟩)
  have hr0 : FRel N w 0 (w.alloc (.cells #[.slice none 0 0, .int .i64 0] 71)) := by
    rw [HN.out]
    exact ⟨_, ars_made w _, fun j e => by omega, (Below.refl _ _).alloc (Nat.le_refl _) _⟩
  rw [show w.heap.size = N from HN.out.symm]
  generalize World.alloc _ _ = W at hr0 ⊢
  go_loopw [2] (fun i wr => ∃ k : Nat, Hid (k ≤ M) ∧ i = .int .i64 ((k : Int) + 1) ∧ FRel N w k wr) (fun i _ => M + 1 - (intOf i).toNat)
  case atStart => exact ⟨0, Nat.zero_le _, rfl, hr0⟩
  case round =>
    obtain ⟨k, hk, rfl, hR⟩ := hrel
    clear hr0
    have hsz : N ≤ wr.heap.size := by have := hR; obtain ⟨S, _, _, hb⟩ := this; have := hb.size; rw [← HN.out] at this; exact this
    have HSZ := Lib.hid hsz
    clear hsz
    by_cases hlt : k < M
    · have HLT := Lib.hid hlt
      have d1 : decide ((k : Int) + 1 ≤ 1048576) = true := decide_eq_true (by have := HM.out; omega)
      have y1 : IntKind.u64.wrap ((k : Int) + 1) = (k : Int) + 1 := IntWalk.u64_in _ (by have := HM.out; omega)
      have y2 : IntKind.i64.wrap ((k : Int) + 1 + 1) = (k : Int) + 1 + 1 := IntWalk.i64_in _ (by have := HM.out; omega)
      have y3 : ((k : Int) + 1 != (k : Int) + 1) = false := by simp
      have C1 := Lib.hid (hR.add HSZ.out (by have := HM.out; omega))
      clear hlt hR
      go_wp2_with (go_at_call 30; ((with_reducible refine C1.out.mono ?_); rintro e w2 ⟨rfl, hR2⟩; have HR2 := Lib.hid hR2; clear hR2))
      go_roundw
      case rel => exact ⟨k + 1, by show _ ≤ _; have := HLT.out; omega, by go_num, HR2.out⟩
      case measure => have := HLT.out; simp [intOf]; omega
    · obtain rfl : M = k := by have := hk.out; omega
      have d1 : decide ((M : Int) + 1 ≤ 1048576) = false := decide_eq_false (by have := HM.out; omega)
      obtain ⟨S, hq, hS, hbel⟩ := hR
      have HB := Lib.hid hbel
      have HQ := Lib.hid hq
      have hc1 := hq.c1
      rw [idL_len] at hc1
      have C0 := Lib.hid (iadd_full (M : Int) N ⟨#[]⟩ ⟨#[]⟩ 0 7 0 0 wr hc1 (decide_eq_true (by have := HM.out; omega)))
      clear hbel hq hS hc1 hk
      go_wp2_with fail
      refine C0.out.mono ?_
      rintro e w2 ⟨rfl, k2⟩
      have q2 := HQ.out.new k2
      have K2 := Lib.hid k2
      have C1 := Lib.hid (iat_any q2 0 (by decide) (idL_at (z := 1) (by have := HM.out; omega) rfl) (r := 1) rfl)
      have HQ2 := Lib.hid q2
      clear k2 q2 HQ C0 d1
      go_wp2_with fail
      refine C1.out.mono ?_
      rintro e w3 ⟨rfl, k3⟩
      go_wp2_with fail
      generalize hX : World.alloc _ _ = X3
      have kx : Below w3.heap.size w3 X3 := by rw [← hX]; exact (Below.refl _ _).alloc (Nat.le_refl _) _
      have x3 : X3.cell? ⟨w3.heap.size, 3, none⟩ = some (.int .u64 1) := by rw [← hX]; simp
      have k3' := below_then k3 kx
      have q3 := HQ2.out.new k3'
      have K3 := Lib.hid (below_then K2.out k3')
      have C2 := Lib.hid (iat_any q3 1048575 (by decide) (idL_at (z := 1048576) (by have := HM.out; omega) (by decide)) (r := 1048576) (by decide))
      have HQ3 := Lib.hid q3
      clear hX kx k3 k3' q3 C1 HQ2
      refine C2.out.mono ?_
      rintro e w4 ⟨rfl, k4⟩
      go_wp2_with fail
      generalize hX : World.alloc _ _ = X4
      have kx : Below w4.heap.size w4 X4 := by rw [← hX]; exact (Below.refl _ _).alloc (Nat.le_refl _) _
      have y3 : X4.cell? ⟨w4.heap.size, 3, none⟩ = some (.int .u64 1048576) := by rw [← hX]; simp
      have k4' := below_then k4 kx
      have lt3 := World.block_lt_of_cell? _ _ x3
      replace x3 := (k4'.cell (p := ⟨w3.heap.size, 3, none⟩) lt3).trans x3
      have q4 := HQ3.out.new k4'
      have K4 := Lib.hid (below_then K3.out k4')
      have C3 := Lib.hid (iat_no q4 1048577 (.inr (by rw [idL_len]; have := HM.out; omega)))
      have HQ4 := Lib.hid q4
      clear hX kx k4 k4' q4 C2 HQ3 lt3
      refine C3.out.mono ?_
      rintro e w5 ⟨rfl, k5⟩
      have lt3 := World.block_lt_of_cell? _ _ x3
      have lt4 := World.block_lt_of_cell? _ _ y3
      replace x3 := (k5.cell (p := ⟨w3.heap.size, 3, none⟩) lt3).trans x3
      replace y3 := (k5.cell (p := ⟨w4.heap.size, 3, none⟩) lt4).trans y3
      have lt3' := World.block_lt_of_cell? _ _ x3
      have lt4' := World.block_lt_of_cell? _ _ y3
      have s0 := fun o => (World.cell?_alloc_lt w5 o ⟨w3.heap.size, 3, none⟩ lt3').trans x3
      have s1 := fun o => (World.cell?_alloc_lt w5 o ⟨w4.heap.size, 3, none⟩ lt4').trans y3
      have q5 := HQ4.out.new k5
      have K5 := Lib.hid (below_then K4.out k5)
      have C4 := fun o => Lib.hid (icount_any (q5.new ((Below.refl _ _).alloc (Nat.le_refl _) o)) (n := 1048576) (by rw [idL_len]; have := HM.out; omega))
      clear k5 lt3 lt4 lt3' lt4' x3 y3 q5 C3 HQ4
      go_wp2_with (first
        | (go_at_call 32; ((with_reducible refine (C4 _).out.mono ?_); rintro e w9 ⟨rfl, rfl⟩))
        | (go_at_call 28; refine (lives06 _).mono ?_; rintro e w6 ⟨rfl, k6⟩))
      go_ret
      have hbb := HB.out
      rw [HN.out] at hbb
      exact ⟨rfl, below_then hbb (below_then (K5.out.alloc (by have := K5.out.size; omega) _) k6)⟩
end Go.Proofs.Yteofbgbjibbdaab
