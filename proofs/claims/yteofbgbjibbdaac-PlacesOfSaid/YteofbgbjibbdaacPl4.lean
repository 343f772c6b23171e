/- Contracts of package places' chapter: its answers for the spot of a number and for growth. -/
import Derived.Test.YteofbgbjibbdaacPl3
namespace Go.Proofs.Yteofbgbjibbdaac
open Go.RowKit
set_option linter.unusedVariables false

theorem rat_00 (x n r k o z s : Int) (w : World) (h1 : 0 ≤ x) (h2 : x < 18446744073709551616) (hs : spotsf x = s) (hr : n.tmod s = r) (ho : asO x = o) (hz : szf o = z) (z1 : 0 ≤ z) (z2 : z ≤ 4096) (s1 : 8 ≤ s) (s2 : s ≤ 32768) (k1 : 0 ≤ k) (k2 : k ≤ 32768) (cr : 0 ≤ r) (hk : r = k) (c : k < 4 * z) :
    Calls Try.prog 39 #[.int .u64 x, .int .i64 n] w fun e w' => e = .returned (.agg #[.int .i64 o, .int .i64 (k / 4), .int .i64 (k % 4)]) ∧ Below w.heap.size w w' := by
  have A := Lib.hid (ras x · h1 h2)
  have B := Lib.hid (rspots x · h1 h2)
  subst hk
  go_enter Try.func39, Try.ntmps39
  go_wp2_with fail
  refine (A.out _).mono ?_
  rintro e w1 ⟨rfl, rfl⟩
  go_wp2_with fail
  refine (B.out _).mono ?_
  rintro e w2 ⟨rfl, hb2⟩
  have hb := hb2
  have hlt : w.heap.size < (w.alloc (Obj.cells #[Value.int IntKind.i64 0, Value.int IntKind.i64 0, Value.int IntKind.i64 0] 41)).heap.size := by simp
  have c0 : w2.cell? { block := w.heap.size, off := 0 } = some (.int .i64 0) := (hb.cell (p := { block := w.heap.size, off := 0 }) hlt).trans (by simp)
  have c1 : w2.cell? { block := w.heap.size, off := 1 } = some (.int .i64 0) := (hb.cell (p := { block := w.heap.size, off := 1 }) hlt).trans (by simp)
  have c2 : w2.cell? { block := w.heap.size, off := 2 } = some (.int .i64 0) := (hb.cell (p := { block := w.heap.size, off := 2 }) hlt).trans (by simp)
  have f0 : w2.frozen? { block := w.heap.size, off := 0 } = false := (hb.frozen (p := { block := w.heap.size, off := 0 }) hlt).trans (by simp)
  have f1 : w2.frozen? { block := w.heap.size, off := 1 } = false := (hb.frozen (p := { block := w.heap.size, off := 1 }) hlt).trans (by simp)
  have f2 : w2.frozen? { block := w.heap.size, off := 2 } = false := (hb.frozen (p := { block := w.heap.size, off := 2 }) hlt).trans (by simp)
  go_wp2_with (go_at_call 79; refine (refsize_any _ _).mono ?_; rintro e w3 ⟨rfl, rfl⟩)
  refine bodyPost_ret (v := .agg #[.int .i64 o, .int .i64 (r / 4), .int .i64 (r % 4)]) (by simp [results, Try.results39, go_sem, c0, c1, c2]) rfl ⟨rfl, ?_⟩
  exact (box_out (by simp) hb |>.trans (Below.refl _ _)).setCell (Nat.le_refl _) _ |>.setCell (Nat.le_refl _) _ |>.setCell (Nat.le_refl _) _
theorem rat_01 (x n r k o z s : Int) (w : World) (h1 : 0 ≤ x) (h2 : x < 18446744073709551616) (hs : spotsf x = s) (hr : n.tmod s = r) (ho : asO x = o) (hz : szf o = z) (z1 : 0 ≤ z) (z2 : z ≤ 4096) (s1 : 8 ≤ s) (s2 : s ≤ 32768) (k1 : 0 ≤ k) (k2 : k ≤ 32768) (cr : 0 ≤ r) (hk : r = k) (c : 4 * z ≤ k) :
    Calls Try.prog 39 #[.int .u64 x, .int .i64 n] w fun e w' => e = .returned (.agg #[.int .i64 (asN x), .int .i64 ((k - 4 * z) / 4), .int .i64 ((k - 4 * z) % 4)]) ∧ Below w.heap.size w w' := by
  have A := Lib.hid (ras x · h1 h2)
  have B := Lib.hid (rspots x · h1 h2)
  subst hk
  go_enter Try.func39, Try.ntmps39
  go_wp2_with fail
  refine (A.out _).mono ?_
  rintro e w1 ⟨rfl, rfl⟩
  go_wp2_with fail
  refine (B.out _).mono ?_
  rintro e w2 ⟨rfl, hb2⟩
  have hb := hb2
  have hlt : w.heap.size < (w.alloc (Obj.cells #[Value.int IntKind.i64 0, Value.int IntKind.i64 0, Value.int IntKind.i64 0] 41)).heap.size := by simp
  have c0 : w2.cell? { block := w.heap.size, off := 0 } = some (.int .i64 0) := (hb.cell (p := { block := w.heap.size, off := 0 }) hlt).trans (by simp)
  have c1 : w2.cell? { block := w.heap.size, off := 1 } = some (.int .i64 0) := (hb.cell (p := { block := w.heap.size, off := 1 }) hlt).trans (by simp)
  have c2 : w2.cell? { block := w.heap.size, off := 2 } = some (.int .i64 0) := (hb.cell (p := { block := w.heap.size, off := 2 }) hlt).trans (by simp)
  have f0 : w2.frozen? { block := w.heap.size, off := 0 } = false := (hb.frozen (p := { block := w.heap.size, off := 0 }) hlt).trans (by simp)
  have f1 : w2.frozen? { block := w.heap.size, off := 1 } = false := (hb.frozen (p := { block := w.heap.size, off := 1 }) hlt).trans (by simp)
  have f2 : w2.frozen? { block := w.heap.size, off := 2 } = false := (hb.frozen (p := { block := w.heap.size, off := 2 }) hlt).trans (by simp)
  go_wp2_with (go_at_call 79; refine (refsize_any _ _).mono ?_; rintro e w3 ⟨rfl, rfl⟩)
  refine bodyPost_ret (v := .agg #[.int .i64 (asN x), .int .i64 ((r - 4 * z) / 4), .int .i64 ((r - 4 * z) % 4)]) (by simp [results, Try.results39, go_sem, c0, c1, c2]) rfl ⟨rfl, ?_⟩
  exact (box_out (by simp) hb |>.trans (Below.refl _ _)).setCell (Nat.le_refl _) _ |>.setCell (Nat.le_refl _) _ |>.setCell (Nat.le_refl _) _
theorem rat_10 (x n r k o z s : Int) (w : World) (h1 : 0 ≤ x) (h2 : x < 18446744073709551616) (hs : spotsf x = s) (hr : n.tmod s = r) (ho : asO x = o) (hz : szf o = z) (z1 : 0 ≤ z) (z2 : z ≤ 4096) (s1 : 8 ≤ s) (s2 : s ≤ 32768) (k1 : 0 ≤ k) (k2 : k ≤ 32768) (cr : r < 0) (hk : r + s = k) (c : k < 4 * z) :
    Calls Try.prog 39 #[.int .u64 x, .int .i64 n] w fun e w' => e = .returned (.agg #[.int .i64 o, .int .i64 (k / 4), .int .i64 (k % 4)]) ∧ Below w.heap.size w w' := by
  have A := Lib.hid (ras x · h1 h2)
  have B := Lib.hid (rspots x · h1 h2)
  
  go_enter Try.func39, Try.ntmps39
  go_wp2_with fail
  refine (A.out _).mono ?_
  rintro e w1 ⟨rfl, rfl⟩
  go_wp2_with fail
  refine (B.out _).mono ?_
  rintro e w2 ⟨rfl, hb2⟩
  go_wp2_with fail
  refine (B.out _).mono ?_
  rintro e w3 ⟨rfl, hb3⟩
  have hb := hb2.trans (hb3.mono hb2.size)
  have hlt : w.heap.size < (w.alloc (Obj.cells #[Value.int IntKind.i64 0, Value.int IntKind.i64 0, Value.int IntKind.i64 0] 41)).heap.size := by simp
  have c0 : w3.cell? { block := w.heap.size, off := 0 } = some (.int .i64 0) := (hb.cell (p := { block := w.heap.size, off := 0 }) hlt).trans (by simp)
  have c1 : w3.cell? { block := w.heap.size, off := 1 } = some (.int .i64 0) := (hb.cell (p := { block := w.heap.size, off := 1 }) hlt).trans (by simp)
  have c2 : w3.cell? { block := w.heap.size, off := 2 } = some (.int .i64 0) := (hb.cell (p := { block := w.heap.size, off := 2 }) hlt).trans (by simp)
  have f0 : w3.frozen? { block := w.heap.size, off := 0 } = false := (hb.frozen (p := { block := w.heap.size, off := 0 }) hlt).trans (by simp)
  have f1 : w3.frozen? { block := w.heap.size, off := 1 } = false := (hb.frozen (p := { block := w.heap.size, off := 1 }) hlt).trans (by simp)
  have f2 : w3.frozen? { block := w.heap.size, off := 2 } = false := (hb.frozen (p := { block := w.heap.size, off := 2 }) hlt).trans (by simp)
  go_wp2_with (go_at_call 79; refine (refsize_any _ _).mono ?_; rintro e w3 ⟨rfl, rfl⟩)
  refine bodyPost_ret (v := .agg #[.int .i64 o, .int .i64 (k / 4), .int .i64 (k % 4)]) (by simp [results, Try.results39, go_sem, c0, c1, c2]) rfl ⟨rfl, ?_⟩
  exact (box_out (by simp) hb |>.trans (Below.refl _ _)).setCell (Nat.le_refl _) _ |>.setCell (Nat.le_refl _) _ |>.setCell (Nat.le_refl _) _
theorem rat_11 (x n r k o z s : Int) (w : World) (h1 : 0 ≤ x) (h2 : x < 18446744073709551616) (hs : spotsf x = s) (hr : n.tmod s = r) (ho : asO x = o) (hz : szf o = z) (z1 : 0 ≤ z) (z2 : z ≤ 4096) (s1 : 8 ≤ s) (s2 : s ≤ 32768) (k1 : 0 ≤ k) (k2 : k ≤ 32768) (cr : r < 0) (hk : r + s = k) (c : 4 * z ≤ k) :
    Calls Try.prog 39 #[.int .u64 x, .int .i64 n] w fun e w' => e = .returned (.agg #[.int .i64 (asN x), .int .i64 ((k - 4 * z) / 4), .int .i64 ((k - 4 * z) % 4)]) ∧ Below w.heap.size w w' := by
  have A := Lib.hid (ras x · h1 h2)
  have B := Lib.hid (rspots x · h1 h2)
  
  go_enter Try.func39, Try.ntmps39
  go_wp2_with fail
  refine (A.out _).mono ?_
  rintro e w1 ⟨rfl, rfl⟩
  go_wp2_with fail
  refine (B.out _).mono ?_
  rintro e w2 ⟨rfl, hb2⟩
  go_wp2_with fail
  refine (B.out _).mono ?_
  rintro e w3 ⟨rfl, hb3⟩
  have hb := hb2.trans (hb3.mono hb2.size)
  have hlt : w.heap.size < (w.alloc (Obj.cells #[Value.int IntKind.i64 0, Value.int IntKind.i64 0, Value.int IntKind.i64 0] 41)).heap.size := by simp
  have c0 : w3.cell? { block := w.heap.size, off := 0 } = some (.int .i64 0) := (hb.cell (p := { block := w.heap.size, off := 0 }) hlt).trans (by simp)
  have c1 : w3.cell? { block := w.heap.size, off := 1 } = some (.int .i64 0) := (hb.cell (p := { block := w.heap.size, off := 1 }) hlt).trans (by simp)
  have c2 : w3.cell? { block := w.heap.size, off := 2 } = some (.int .i64 0) := (hb.cell (p := { block := w.heap.size, off := 2 }) hlt).trans (by simp)
  have f0 : w3.frozen? { block := w.heap.size, off := 0 } = false := (hb.frozen (p := { block := w.heap.size, off := 0 }) hlt).trans (by simp)
  have f1 : w3.frozen? { block := w.heap.size, off := 1 } = false := (hb.frozen (p := { block := w.heap.size, off := 1 }) hlt).trans (by simp)
  have f2 : w3.frozen? { block := w.heap.size, off := 2 } = false := (hb.frozen (p := { block := w.heap.size, off := 2 }) hlt).trans (by simp)
  go_wp2_with (go_at_call 79; refine (refsize_any _ _).mono ?_; rintro e w3 ⟨rfl, rfl⟩)
  refine bodyPost_ret (v := .agg #[.int .i64 (asN x), .int .i64 ((k - 4 * z) / 4), .int .i64 ((k - 4 * z) % 4)]) (by simp [results, Try.results39, go_sem, c0, c1, c2]) rfl ⟨rfl, ?_⟩
  exact (box_out (by simp) hb |>.trans (Below.refl _ _)).setCell (Nat.le_refl _) _ |>.setCell (Nat.le_refl _) _ |>.setCell (Nat.le_refl _) _
theorem rat (x n : Int) (w : World) (h1 : 0 ≤ x) (h2 : x < 18446744073709551616) :
    Calls Try.prog 39 #[.int .u64 x, .int .i64 n] w fun e w' => e = .returned (.agg #[.int .i64 (aB x n), .int .i64 (aK x n), .int .i64 (aS x n)]) ∧ Below w.heap.size w w' := by
  obtain ⟨s1, s2⟩ := spotsf_range x
  obtain ⟨z1, z2⟩ := szf_range (asO x)
  obtain ⟨k1, k2⟩ := kf_range x n
  have h := Int.mul_tdiv_add_tmod n (spotsf x)
  have r1 := Int.tmod_lt_of_pos n (show 0 < spotsf x by omega)
  have r2 : -spotsf x < n.tmod (spotsf x) := by
    have := Int.tmod_lt_of_pos (-n) (show 0 < spotsf x by omega)
    rw [Int.neg_tmod] at this; omega
  have hm : kf x n = n.tmod (spotsf x) % spotsf x := by
    unfold kf
    conv => lhs; rw [← h]
    rw [Int.add_comm, Int.add_mul_emod_self_left]
  by_cases cr : n.tmod (spotsf x) < 0
  · have hk : n.tmod (spotsf x) + spotsf x = kf x n := by
      rw [hm, ← Int.add_emod_right, Int.emod_eq_of_lt (by omega) (by omega)]
    by_cases c : 4 * szf (asO x) ≤ kf x n
    · unfold aB aK aS
      rw [if_pos c, if_pos c]
      exact rat_11 x n _ (kf x n) _ _ _ w h1 h2 rfl rfl rfl rfl z1 z2 s1 s2 k1 (by omega) cr hk c
    · unfold aB aK aS
      rw [if_neg c, if_neg c]
      exact rat_10 x n _ (kf x n) _ _ _ w h1 h2 rfl rfl rfl rfl z1 z2 s1 s2 k1 (by omega) cr hk (by omega)
  · have hk : n.tmod (spotsf x) = kf x n := by
      rw [hm, Int.emod_eq_of_lt (by omega) (by omega)]
    by_cases c : 4 * szf (asO x) ≤ kf x n
    · unfold aB aK aS
      rw [if_pos c, if_pos c]
      exact rat_01 x n _ (kf x n) _ _ _ w h1 h2 rfl rfl rfl rfl z1 z2 s1 s2 k1 (by omega) (by omega) hk c
    · unfold aB aK aS
      rw [if_neg c, if_neg c]
      exact rat_00 x n _ (kf x n) _ _ _ w h1 h2 rfl rfl rfl rfl z1 z2 s1 s2 k1 (by omega) (by omega) hk (by omega)
theorem rmay_f1 (f g b : Int) (w : World) (c1 : f < 1) :
    Calls Try.prog 43 #[.int .i64 f, .int .i64 g, .int .i64 b] w fun e w' => e = .returned (.bool false) ∧ w = w' := by
  go_enter Try.func43, Try.ntmps43
  go_wp2_with fail
  go_ret
  exact ⟨rfl, rfl⟩
theorem rmay_f2 (f g b : Int) (w : World) (c1 : ¬ f < 1) (c2 : 12 < f) :
    Calls Try.prog 43 #[.int .i64 f, .int .i64 g, .int .i64 b] w fun e w' => e = .returned (.bool false) ∧ w = w' := by
  go_enter Try.func43, Try.ntmps43
  go_wp2_with fail
  go_ret
  exact ⟨rfl, rfl⟩
theorem rmay_b1 (f g b : Int) (w : World) (c1 : ¬ f < 1) (c2 : f ≤ 12) (c3 : b < 1) :
    Calls Try.prog 43 #[.int .i64 f, .int .i64 g, .int .i64 b] w fun e w' => e = .returned (.bool false) ∧ w = w' := by
  go_enter Try.func43, Try.ntmps43
  go_wp2_with fail
  go_ret
  exact ⟨rfl, rfl⟩
theorem rmay_b2 (f g b : Int) (w : World) (c1 : ¬ f < 1) (c2 : f ≤ 12) (c3 : ¬ b < 1) (c4 : 11 < b) :
    Calls Try.prog 43 #[.int .i64 f, .int .i64 g, .int .i64 b] w fun e w' => e = .returned (.bool false) ∧ w = w' := by
  go_enter Try.func43, Try.ntmps43
  go_wp2_with fail
  go_ret
  exact ⟨rfl, rfl⟩
theorem rmay_a (f g b : Int) (r : Bool) (w : World) (R : Hid (mayf f g b = r)) (E : Hid (mayf f g b = decide (4 * szf b + 4 * szf (b + 1) ≤ 8 * max (min g 65536) (4 * szf f)))) (c1 : 1 ≤ f) (c2 : f ≤ 12) (c3 : 1 ≤ b) (c4 : b ≤ 11) (s1 : 0 ≤ szf f) (s2 : szf f ≤ 4096) (s3 : 0 ≤ szf b) (s4 : szf b ≤ 4096) (s5 : 0 ≤ szf (b + 1)) (s6 : szf (b + 1) ≤ 4096) (m1 : 65536 < g) (m2 : 4 * szf f < 65536) :
    Calls Try.prog 43 #[.int .i64 f, .int .i64 g, .int .i64 b] w fun e w' => e = .returned (.bool r) ∧ w = w' := by
  go_enter Try.func43, Try.ntmps43
  go_wp2_with (go_at_call 79; refine (refsize_any _ _).mono ?_; rintro e w3 ⟨rfl, rfl⟩)
  go_ret
  exact ⟨ret_bool (by rw [← R.out, E.out, decide_eq_decide]; omega), rfl⟩
theorem rmay_c (f g b : Int) (r : Bool) (w : World) (R : Hid (mayf f g b = r)) (E : Hid (mayf f g b = decide (4 * szf b + 4 * szf (b + 1) ≤ 8 * max (min g 65536) (4 * szf f)))) (c1 : 1 ≤ f) (c2 : f ≤ 12) (c3 : 1 ≤ b) (c4 : b ≤ 11) (s1 : 0 ≤ szf f) (s2 : szf f ≤ 4096) (s3 : 0 ≤ szf b) (s4 : szf b ≤ 4096) (s5 : 0 ≤ szf (b + 1)) (s6 : szf (b + 1) ≤ 4096) (m1 : g ≤ 65536) (m2 : 4 * szf f < g) :
    Calls Try.prog 43 #[.int .i64 f, .int .i64 g, .int .i64 b] w fun e w' => e = .returned (.bool r) ∧ w = w' := by
  go_enter Try.func43, Try.ntmps43
  go_wp2_with (go_at_call 79; refine (refsize_any _ _).mono ?_; rintro e w3 ⟨rfl, rfl⟩)
  go_ret
  exact ⟨ret_bool (by rw [← R.out, E.out, decide_eq_decide]; omega), rfl⟩
theorem rmay_d (f g b : Int) (r : Bool) (w : World) (R : Hid (mayf f g b = r)) (E : Hid (mayf f g b = decide (4 * szf b + 4 * szf (b + 1) ≤ 8 * max (min g 65536) (4 * szf f)))) (c1 : 1 ≤ f) (c2 : f ≤ 12) (c3 : 1 ≤ b) (c4 : b ≤ 11) (s1 : 0 ≤ szf f) (s2 : szf f ≤ 4096) (s3 : 0 ≤ szf b) (s4 : szf b ≤ 4096) (s5 : 0 ≤ szf (b + 1)) (s6 : szf (b + 1) ≤ 4096) (m1 : g ≤ 65536) (m2 : g ≤ 4 * szf f) :
    Calls Try.prog 43 #[.int .i64 f, .int .i64 g, .int .i64 b] w fun e w' => e = .returned (.bool r) ∧ w = w' := by
  go_enter Try.func43, Try.ntmps43
  go_wp2_with (go_at_call 79; refine (refsize_any _ _).mono ?_; rintro e w3 ⟨rfl, rfl⟩)
  go_ret
  exact ⟨ret_bool (by rw [← R.out, E.out, decide_eq_decide]; omega), rfl⟩
theorem rmay (f g b : Int) (w : World) :
    Calls Try.prog 43 #[.int .i64 f, .int .i64 g, .int .i64 b] w fun e w' => e = .returned (.bool (mayf f g b)) ∧ w = w' := by
  obtain ⟨s1, s2⟩ := szf_range f
  obtain ⟨s3, s4⟩ := szf_range b
  obtain ⟨s5, s6⟩ := szf_range (b + 1)
  by_cases a : 1 ≤ f ∧ f ≤ 12 ∧ 1 ≤ b ∧ b ≤ 11
  · have e : mayf f g b = decide (4 * szf b + 4 * szf (b + 1) ≤ 8 * max (min g 65536) (4 * szf f)) := by
      unfold mayf
      rw [decide_eq_decide]
      exact ⟨fun h => h.2.2.2.2, fun h => ⟨a.1, a.2.1, a.2.2.1, a.2.2.2, h⟩⟩
    obtain ⟨c1, c2, c3, c4⟩ := a
    by_cases m1 : 65536 < g
    · by_cases m2 : 4 * szf f < 65536
      · exact rmay_a f g b _ w (Lib.hid rfl) (Lib.hid e) c1 c2 c3 c4 s1 s2 s3 s4 s5 s6 m1 m2
      · exact absurd m2 (by omega)
    · by_cases m2 : 4 * szf f < g
      · exact rmay_c f g b _ w (Lib.hid rfl) (Lib.hid e) c1 c2 c3 c4 s1 s2 s3 s4 s5 s6 (by omega) m2
      · exact rmay_d f g b _ w (Lib.hid rfl) (Lib.hid e) c1 c2 c3 c4 s1 s2 s3 s4 s5 s6 (by omega) (by omega)
  · have e : mayf f g b = false := by unfold mayf; rw [decide_eq_false_iff_not]; exact fun h => a ⟨h.1, h.2.1, h.2.2.1, h.2.2.2.1⟩
    rw [e]
    by_cases c1 : f < 1
    · exact rmay_f1 f g b w c1
    by_cases c2 : 12 < f
    · exact rmay_f2 f g b w c1 c2
    by_cases c3 : b < 1
    · exact rmay_b1 f g b w c1 (by omega) c3
    · exact rmay_b2 f g b w c1 (by omega) c3 (by omega)
end Go.Proofs.Yteofbgbjibbdaac
