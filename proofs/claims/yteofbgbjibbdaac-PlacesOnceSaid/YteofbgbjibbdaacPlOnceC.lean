/- Law PlacesOnce, case by case: C -/
import Derived.Test.YteofbgbjibbdaacPlLives
import Derived.Deep.RegionHeld3
namespace Go.Proofs.Yteofbgbjibbdaac
open Go.RowKit
set_option linter.unusedVariables false
theorem belowNC {B : Nat} {a w : World} (h : Below B a w) (n : Nat) : Below B a (w.drewN n) := by
  induction n with
  | zero => exact h
  | succ n ih => exact ih.drew

set_option maxHeartbeats 8000000 in
theorem once_so (x m n s O N V ip im i k ki si Z sk : Int) (w : World) (l0 : 0 ≤ x) (u0 : x < 18446744073709551616) (l1 : 0 ≤ m) (u1 : m ≤ 65535) (l2 : 0 ≤ n) (u2 : n ≤ 65535) (s1 : 8 ≤ s) (s2 : s ≤ 32768) (hi : m % s = i) (hk : n % s = k) (i1 : 0 ≤ i) (i2 : i < s) (k1 : 0 ≤ k) (k2 : k < s)
    (T1 : decide (si < 0) = false) (T2 : decide (4 ≤ si) = false) (T3 : decide (ki < 0) = false) (T4 : decide (Z ≤ ki) = false) (hZ : szf O = Z) (d0 : (i == k) = false) (d1 : decide (i = k) = false) (e1 : (si == sk) = false) (e2 : decide (si = sk) = false)
    (o1 : 1 ≤ O) (o2 : O ≤ 12) (n1 : 0 ≤ N) (n2 : N ≤ 12)
    (A : Hid (∀ w, Calls Try.prog 32 #[.int .u64 x] w fun e w' => e = .returned (.tuple #[.int .i64 O, .int .i64 N]) ∧ Below w.heap.size w w'))
    (B : Hid (∀ w, Calls Try.prog 36 #[.int .u64 x] w fun e w' => e = .returned (.int .i64 s) ∧ Below w.heap.size w w'))
    (C : Hid (∀ w, Calls Try.prog 38 #[.int .u64 x, .int .i64 i] w fun e w' => e = .returned (.agg #[.int .i64 O, .int .i64 ki, .int .i64 si]) ∧ Below w.heap.size w w'))
    (D : Hid (∀ w, Calls Try.prog 38 #[.int .u64 x, .int .i64 k] w fun e w' => e = .returned (.agg #[.int .i64 O, .int .i64 ki, .int .i64 sk]) ∧ Below w.heap.size w w'))
    (H : Hid (∀ j w, (j = ip ∨ j = im) → Calls Try.prog 38 #[.int .u64 x, .int .i64 j] w fun e w' => e = .returned (.agg #[.int .i64 O, .int .i64 ki, .int .i64 si]) ∧ Below w.heap.size w w'))
    (p7 : wordf O N = V) (v1 : 0 ≤ V) (v2 : V ≤ 65535) (y1 : IntKind.i64.wrap (i + s) = ip) (y2 : IntKind.i64.wrap (i - s) = im) (y3 : IntKind.i64.wrap (256 * N) = 256 * N) (y4 : IntKind.i64.wrap (O + 256 * N) = V) (y5 : IntKind.u64.wrap V = V) (y6 : V.tmod 65536 = V) :
    Calls Try.prog 9 #[.int .u64 x, .int .u16 m, .int .u16 n] w fun e w' => e = .returned (.bool true) ∧ Below w.heap.size w w' := by
  go_enter Try.func9, Try.ntmps9
  go_wp2_with fail
  refine (A.out _).mono ?_
  rintro e w1 ⟨rfl, hb1⟩
  go_wp2_with fail
  refine (B.out _).mono ?_
  rintro e w2 ⟨rfl, hb2⟩
  go_wp2_with fail
  refine (C.out _).mono ?_
  rintro e w3 ⟨rfl, hb3⟩
  go_wp2_with fail
  refine (D.out _).mono ?_
  rintro e w4 ⟨rfl, hb4⟩
  go_wp2_with fail
  have hb0 := Lib.hid (below_then hb1 (below_then hb2 hb3))
  generalize hW : w4.alloc _ = W
  have hN : w3.heap.size + 1 ≤ (w3.alloc (.cells #[.int .i64 O, .int .i64 ki, .int .i64 si] 41)).heap.size := by simp
  have hlt : w3.heap.size < w3.heap.size + 1 := by omega
  have hB : Below (w3.heap.size + 1) (w3.alloc (.cells #[.int .i64 O, .int .i64 ki, .int .i64 si] 41)) W := by
    rw [← hW]; exact (hb4.mono hN).alloc (Nat.le_trans hN hb4.size) _
  have hBd := hB.drew
  have ca0 : W.cell? ⟨w3.heap.size, 0, none⟩ = some (.int .i64 O) := box_cell hB hlt (by simp)
  have ca1 : W.cell? ⟨w3.heap.size, 1, none⟩ = some (.int .i64 ki) := box_cell hB hlt (by simp)
  have ca2 : W.cell? ⟨w3.heap.size, 2, none⟩ = some (.int .i64 si) := box_cell hB hlt (by simp)
  have cb0 : W.cell? ⟨w4.heap.size, 0, none⟩ = some (.int .i64 O) := by rw [← hW]; simp
  have cb1 : W.cell? ⟨w4.heap.size, 1, none⟩ = some (.int .i64 ki) := by rw [← hW]; simp
  have cb2 : W.cell? ⟨w4.heap.size, 2, none⟩ = some (.int .i64 sk) := by rw [← hW]; simp
  clear hW hb4 hb1 hb2 hb3
  go_quiet ((go_at_call 47; exact quiet_left (size_any _ _)))
  go_wp2
  have hB2 : Below (w3.heap.size + 1) (w3.alloc (.cells #[.int .i64 O, .int .i64 ki, .int .i64 si] 41)) (W.drewN nq) := belowNC hB nq
  generalize W.drewN nq = W2 at hB2 ⊢
  clear ca0 ca1 ca2 cb0 cb1 cb2 hBd hB A B C D T1 T2 T3 T4 hi hk
  have hBd := hB2.drew
  go_region_held3 (fun w' => w'.cell? ⟨w3.heap.size, 0, none⟩ = some (.int .i64 O) ∧ w'.cell? ⟨w3.heap.size, 1, none⟩ = some (.int .i64 ki) ∧ w'.cell? ⟨w3.heap.size, 2, none⟩ = some (.int .i64 si))
    (first
      | exact ⟨box_cell (by assumption) hlt (by simp), box_cell (by assumption) hlt (by simp), box_cell (by assumption) hlt (by simp)⟩)
    (first
      | (go_at_call 38; refine (H.out _ _ (by first | exact .inl rfl | exact .inr rfl)).mono ?_; rintro e w' ⟨rfl, hk⟩; have hq := box_then (by assumption) hN hk; clear hk)
      | (go_at_call 40; refine (wordw8 _ _ _).mono ?_; rintro e w' ⟨rfl, rfl⟩)
      | (go_at_call 31; refine (lives08 _).mono ?_; rintro e w' ⟨rfl, hk⟩; have hq := box_then (by assumption) hN hk; clear hk))
  go_wp2
  go_ret
  exact ⟨rfl, below_then hb0.out (box_out rfl (by assumption))⟩
set_option maxHeartbeats 8000000 in
theorem once_sn (x m n s O N V ip im i k ki si Z sk : Int) (w : World) (l0 : 0 ≤ x) (u0 : x < 18446744073709551616) (l1 : 0 ≤ m) (u1 : m ≤ 65535) (l2 : 0 ≤ n) (u2 : n ≤ 65535) (s1 : 8 ≤ s) (s2 : s ≤ 32768) (hi : m % s = i) (hk : n % s = k) (i1 : 0 ≤ i) (i2 : i < s) (k1 : 0 ≤ k) (k2 : k < s)
    (T1 : decide (si < 0) = false) (T2 : decide (4 ≤ si) = false) (T3 : decide (ki < 0) = false) (T4 : decide (Z ≤ ki) = false) (hZ : szf N = Z) (d0 : (i == k) = false) (d1 : decide (i = k) = false) (d2 : (N == O) = false) (d3 : decide (N = O) = false) (d4 : (N != O) = true) (d5 : O < N) (e1 : (si == sk) = false) (e2 : decide (si = sk) = false)
    (o1 : 1 ≤ O) (o2 : O ≤ 12) (n1 : 0 ≤ N) (n2 : N ≤ 12)
    (A : Hid (∀ w, Calls Try.prog 32 #[.int .u64 x] w fun e w' => e = .returned (.tuple #[.int .i64 O, .int .i64 N]) ∧ Below w.heap.size w w'))
    (B : Hid (∀ w, Calls Try.prog 36 #[.int .u64 x] w fun e w' => e = .returned (.int .i64 s) ∧ Below w.heap.size w w'))
    (C : Hid (∀ w, Calls Try.prog 38 #[.int .u64 x, .int .i64 i] w fun e w' => e = .returned (.agg #[.int .i64 N, .int .i64 ki, .int .i64 si]) ∧ Below w.heap.size w w'))
    (D : Hid (∀ w, Calls Try.prog 38 #[.int .u64 x, .int .i64 k] w fun e w' => e = .returned (.agg #[.int .i64 N, .int .i64 ki, .int .i64 sk]) ∧ Below w.heap.size w w'))
    (H : Hid (∀ j w, (j = ip ∨ j = im) → Calls Try.prog 38 #[.int .u64 x, .int .i64 j] w fun e w' => e = .returned (.agg #[.int .i64 N, .int .i64 ki, .int .i64 si]) ∧ Below w.heap.size w w'))
    (p7 : wordf O N = V) (v1 : 0 ≤ V) (v2 : V ≤ 65535) (y1 : IntKind.i64.wrap (i + s) = ip) (y2 : IntKind.i64.wrap (i - s) = im) (y3 : IntKind.i64.wrap (256 * N) = 256 * N) (y4 : IntKind.i64.wrap (O + 256 * N) = V) (y5 : IntKind.u64.wrap V = V) (y6 : V.tmod 65536 = V) :
    Calls Try.prog 9 #[.int .u64 x, .int .u16 m, .int .u16 n] w fun e w' => e = .returned (.bool true) ∧ Below w.heap.size w w' := by
  go_enter Try.func9, Try.ntmps9
  go_wp2_with fail
  refine (A.out _).mono ?_
  rintro e w1 ⟨rfl, hb1⟩
  go_wp2_with fail
  refine (B.out _).mono ?_
  rintro e w2 ⟨rfl, hb2⟩
  go_wp2_with fail
  refine (C.out _).mono ?_
  rintro e w3 ⟨rfl, hb3⟩
  go_wp2_with fail
  refine (D.out _).mono ?_
  rintro e w4 ⟨rfl, hb4⟩
  go_wp2_with fail
  have hb0 := Lib.hid (below_then hb1 (below_then hb2 hb3))
  generalize hW : w4.alloc _ = W
  have hN : w3.heap.size + 1 ≤ (w3.alloc (.cells #[.int .i64 N, .int .i64 ki, .int .i64 si] 41)).heap.size := by simp
  have hlt : w3.heap.size < w3.heap.size + 1 := by omega
  have hB : Below (w3.heap.size + 1) (w3.alloc (.cells #[.int .i64 N, .int .i64 ki, .int .i64 si] 41)) W := by
    rw [← hW]; exact (hb4.mono hN).alloc (Nat.le_trans hN hb4.size) _
  have hBd := hB.drew
  have ca0 : W.cell? ⟨w3.heap.size, 0, none⟩ = some (.int .i64 N) := box_cell hB hlt (by simp)
  have ca1 : W.cell? ⟨w3.heap.size, 1, none⟩ = some (.int .i64 ki) := box_cell hB hlt (by simp)
  have ca2 : W.cell? ⟨w3.heap.size, 2, none⟩ = some (.int .i64 si) := box_cell hB hlt (by simp)
  have cb0 : W.cell? ⟨w4.heap.size, 0, none⟩ = some (.int .i64 N) := by rw [← hW]; simp
  have cb1 : W.cell? ⟨w4.heap.size, 1, none⟩ = some (.int .i64 ki) := by rw [← hW]; simp
  have cb2 : W.cell? ⟨w4.heap.size, 2, none⟩ = some (.int .i64 sk) := by rw [← hW]; simp
  clear hW hb4 hb1 hb2 hb3
  go_quiet ((go_at_call 47; exact quiet_left (size_any _ _)))
  go_wp2
  have hB2 : Below (w3.heap.size + 1) (w3.alloc (.cells #[.int .i64 N, .int .i64 ki, .int .i64 si] 41)) (W.drewN nq) := belowNC hB nq
  generalize W.drewN nq = W2 at hB2 ⊢
  clear ca0 ca1 ca2 cb0 cb1 cb2 hBd hB A B C D T1 T2 T3 T4 hi hk
  have hBd := hB2.drew
  go_region_held3 (fun w' => w'.cell? ⟨w3.heap.size, 0, none⟩ = some (.int .i64 N) ∧ w'.cell? ⟨w3.heap.size, 1, none⟩ = some (.int .i64 ki) ∧ w'.cell? ⟨w3.heap.size, 2, none⟩ = some (.int .i64 si))
    (first
      | exact ⟨box_cell (by assumption) hlt (by simp), box_cell (by assumption) hlt (by simp), box_cell (by assumption) hlt (by simp)⟩)
    (first
      | (go_at_call 38; refine (H.out _ _ (by first | exact .inl rfl | exact .inr rfl)).mono ?_; rintro e w' ⟨rfl, hk⟩; have hq := box_then (by assumption) hN hk; clear hk)
      | (go_at_call 40; refine (wordw8 _ _ _).mono ?_; rintro e w' ⟨rfl, rfl⟩)
      | (go_at_call 31; refine (lives08 _).mono ?_; rintro e w' ⟨rfl, hk⟩; have hq := box_then (by assumption) hN hk; clear hk))
  go_wp2
  go_ret
  exact ⟨rfl, below_then hb0.out (box_out rfl (by assumption))⟩
end Go.Proofs.Yteofbgbjibbdaac
