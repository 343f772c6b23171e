/- The examples of chapter 7; what is stored, and so many ticks later. -/
import Derived.Test.YteofbgbjibbdaacEpMath
import Derived.Deep.RegionHeld3
namespace Go.Proofs.Yteofbgbjibbdaac
open Go.RowKit
set_option linter.unusedVariables false

theorem laterw (x : Int) (n : Nat) (w : World) (h1 : 0 ≤ x) (h2 : x < 18446744073709551616) (hn : n < 1000000) :
    Calls Try.prog 22 #[.int .u64 x, .int .i64 n] w fun e w' => e = .returned (.int .u64 (ticks x n)) ∧ Below w.heap.size w w' := by
  have hN : w.heap.size ≤ w.heap.size := Nat.le_refl _
  go_enter Try.func22, Try.ntmps22
  go_wp2_with fail
  go_loopw [0, 5] (fun v i wr => ∃ (k : Nat) (y : Int), k ≤ n ∧ i = .int .i64 k ∧ v = .int .u64 y ∧ 0 ≤ y ∧ y < 18446744073709551616 ∧ Hid (y = ticks x k) ∧ Below w.heap.size w wr) (fun _ i _ => n - (intOf i).toNat)
  case atStart => exact ⟨0, x, by omega, rfl, rfl, h1, h2, rfl, Below.refl _ _⟩
  case round =>
    obtain ⟨k, y, hk, rfl, rfl, y1, y2, hy, hb⟩ := hrel
    by_cases hlt : k < n
    · go_wp2_with fail
      refine (tickw _ _ y1 y2).mono ?_
      rintro e w2 ⟨rfl, hk2⟩
      have hr := tickf_range y
      have hb2 := box_then hb hN hk2
      have HY : Hid (tickf y = ticks x (k + 1)) := by show tickf y = _; rw [hy.out]; rfl
      obtain ⟨r1, r2⟩ := hr
      clear hy
      go_wp2_with fail
      go_roundw
      case rel => exact ⟨k + 1, _, by omega, by go_num, rfl, r1, r2, HY, hb2⟩
      case measure => simp [intOf]; omega
    · obtain rfl : k = n := by omega
      go_wp2_with fail
      go_ret
      exact ⟨ret_u64 hy.out, hb⟩
theorem ex07 : flushf 5 0 = 281474976710661 ∧ flushes 5 = true ∧ flushf 5 3 = 134217733 ∧ ticks 134217733 3 = 281474976710664 ∧ putf 5 0 0 = 5 ∧ tickf 5 = 6 ∧ genf 281474976710661 = 1 ∧ atf 134217733 = 8 ∧ nowf 281474976710664 = 8 ∧ atf 281474976710664 = 0 ∧ genf 281474976710664 = 1 := by decide
theorem ex07b : diesf 5 0 = -1 ∧ diesf 5 (-1) = 5 ∧ diesf 5 10 = 15 ∧ diesf 5 2592001 = 2592001 ∧ alivef 0 9 8 = true ∧ alivef 0 9 9 = false ∧ putf 8 0 1 = 281474976710664 ∧ alivef 0 9 281474976710664 = false := by decide
set_option maxHeartbeats 40000000 in
set_option maxRecDepth 100000 in
theorem lives07 (w : World) : Calls Try.prog 18 #[] w fun e w' => e = .returned (.bool true) ∧ Below w.heap.size w w' := by
  obtain ⟨x1, x2, x3, x4, x5, x6, x7, x8, x9, x10, x11⟩ := ex07
  obtain ⟨y1, y2, y3, y4, y5, y6, y7, y8⟩ := ex07b
  go_enter Try.func18, Try.ntmps18
  go_wp2_with fail
  refine (flushw _ _ _ (by omega) (by omega)).mono ?_
  rintro e w1 ⟨rfl, hk1⟩
  go_wp2_with fail
  refine (flushw _ _ _ (by omega) (by omega)).mono ?_
  rintro e w2 ⟨rfl, hk2⟩
  go_wp2_with fail
  refine (laterw _ 3 _ (by omega) (by omega) (by omega)).mono ?_
  rintro e w3 ⟨rfl, hk3⟩
  have hw3 := below_then (below_then hk1 hk2) hk3
  obtain ⟨n, hn⟩ : ∃ n, n = w3.heap.size + 1 := ⟨_, rfl⟩
  have hB : Below n (w3.alloc (.cells #[.string ⟨#[]⟩, .string ⟨#[]⟩, .int .u32 0, .int .u64 0, .int .i64 9, .int .i64 0] 25)) (w3.alloc (.cells #[.string ⟨#[]⟩, .string ⟨#[]⟩, .int .u32 0, .int .u64 0, .int .i64 9, .int .i64 0] 25)).drew := (Below.refl _ _).drew
  have hN : n ≤ (w3.alloc (.cells #[.string ⟨#[]⟩, .string ⟨#[]⟩, .int .u32 0, .int .u64 0, .int .i64 9, .int .i64 0] 25)).heap.size := by simp [hn]
  have hlt : w3.heap.size < n := by omega
  have HN := Lib.hid hn
  clear hn hk1 hk2 hk3
  go_wp2_with fail
  simp only [List.append_eq, List.cons_append, List.nil_append]
  go_region_held3 (fun w' => w'.cell? ⟨w3.heap.size, 0, none⟩ = some (.string ⟨#[]⟩) ∧ w'.cell? ⟨w3.heap.size, 1, none⟩ = some (.string ⟨#[]⟩) ∧ w'.cell? ⟨w3.heap.size, 2, none⟩ = some (.int .u32 0) ∧ w'.cell? ⟨w3.heap.size, 3, none⟩ = some (.int .u64 0) ∧ w'.cell? ⟨w3.heap.size, 4, none⟩ = some (.int .i64 9) ∧ w'.cell? ⟨w3.heap.size, 5, none⟩ = some (.int .i64 0))
    (first
      | exact ⟨by simp, by simp, by simp, by simp, by simp, by simp⟩
      | exact ⟨box_cell (by assumption) hlt (by simp), box_cell (by assumption) hlt (by simp), box_cell (by assumption) hlt (by simp), box_cell (by assumption) hlt (by simp), box_cell (by assumption) hlt (by simp), box_cell (by assumption) hlt (by simp)⟩)
    (first
      | (go_at_call 19; refine (putw _ _ _ _).mono ?_; rintro e w' ⟨rfl, rfl⟩)
      | (go_at_call 74; refine (tickw _ _ (by omega) (by omega)).mono ?_; rintro e w' ⟨rfl, hk⟩; have hq := box_then (by assumption) hN hk; clear hk)
      | (go_at_call 69; refine (genw _ _ (by omega) (by omega)).mono ?_; rintro e w' ⟨rfl, hk⟩; have hq := box_then (by assumption) hN hk; clear hk)
      | (go_at_call 21; refine (atw _ _ (by omega) (by omega)).mono ?_; rintro e w' ⟨rfl, hk⟩; have hq := box_then (by assumption) hN hk; clear hk)
      | (go_at_call 16; refine (noww _ _ (by omega) (by omega)).mono ?_; rintro e w' ⟨rfl, hk⟩; have hq := box_then (by assumption) hN hk; clear hk)
      | (go_at_call 70; refine (diesw _ _ _ (by omega) (by omega) (by omega)).mono ?_; rintro e w' ⟨rfl, hk⟩; have hq := box_then (by assumption) hN hk; clear hk)
      | (go_at_call 17; refine (alivew _ _ _ _ _ _ _ _ (by omega) (by omega)).mono ?_; rintro e w' ⟨rfl, hk⟩; have hq := box_then (by assumption) hN hk; clear hk))
  go_wp2
  go_ret
  exact ⟨rfl, hw3.trans (Below.mono (box_out HN.out (by assumption)) hw3.size)⟩
end Go.Proofs.Yteofbgbjibbdaac
