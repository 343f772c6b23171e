/- Contracts of package places and of its chapter's answers: words put together, spots by number, whether a table may grow. -/
import Derived.Test.YteofbgbjibbdaacPl2
namespace Go.Proofs.Yteofbgbjibbdaac
open Go.RowKit
set_option linter.unusedVariables false

theorem word_bits (o n : Int) (h1 : 0 ≤ o) (h2 : o < 256) (h3 : 0 ≤ n) (h4 : n < 256) : bits .or .u64 o (n * 256) = o + n * 256 := by
  obtain ⟨o, rfl⟩ := Int.eq_ofNat_of_zero_le h1
  obtain ⟨n, rfl⟩ := Int.eq_ofNat_of_zero_le h3
  have h := (bits_nat .u64 64 (by decide) (fun n a b => by rw [IntKind.wrap_u64]; omega) o (n * 256) (by omega) (by omega)).2
  have e : ((n * 256 : Nat) : Int) = (n : Int) * 256 := by simp
  rw [e] at h
  rw [h, Nat.or_comm]
  have := Nat.two_pow_add_eq_or_of_lt (i := 8) (show o < 2 ^ 8 by omega) n
  rw [show n * 256 = 2 ^ 8 * n by omega, ← this]
  omega
theorem wordw8 (o n : Int) (w : World) :
    Calls Try.prog 40 #[.int .i64 o, .int .i64 n] w fun e w' => e = .returned (.int .u64 (wordf o n)) ∧ w = w' := by
  obtain ⟨p, ep⟩ : ∃ p, o % 256 = p := ⟨_, rfl⟩
  obtain ⟨q, eq⟩ : ∃ p, n % 256 = p := ⟨_, rfl⟩
  have m1 : bits .and .u64 (IntKind.u64.wrap o) 255 = p := by rw [IntKind.wrap_u64, and255 _ (by omega) (by omega)]; omega
  have m2 : bits .and .u64 (IntKind.u64.wrap n) 255 = q := by rw [IntKind.wrap_u64, and255 _ (by omega) (by omega)]; omega
  have b1 : 0 ≤ p := by omega
  have b2 : p < 256 := by omega
  have b3 : 0 ≤ q := by omega
  have b4 : q < 256 := by omega
  have wb := word_bits p q b1 b2 b3 b4
  have ef : wordf o n = p + q * 256 := by unfold wordf; rw [ep, eq]
  have EF := Lib.hid ef
  clear ef ep eq
  go_enter Try.func40, Try.ntmps40
  go_wp2_with fail
  go_ret
  exact ⟨ret_u64' EF.out.symm, rfl⟩
theorem rword (o n : Int) (w : World) :
    Calls Try.prog 41 #[.int .i64 o, .int .i64 n] w fun e w' => e = .returned (.int .u64 (wordf o n)) ∧ w = w' := by
  obtain ⟨p, ep⟩ : ∃ p, o % 256 = p := ⟨_, rfl⟩
  obtain ⟨q, eq⟩ : ∃ p, n % 256 = p := ⟨_, rfl⟩
  have m1 : IntKind.u64.wrap o % 256 = p := by rw [IntKind.wrap_u64]; omega
  have m2 : IntKind.u64.wrap n % 256 = q := by rw [IntKind.wrap_u64]; omega
  have z1 : 0 ≤ IntKind.u64.wrap o := by rw [IntKind.wrap_u64]; omega
  have z2 : 0 ≤ IntKind.u64.wrap n := by rw [IntKind.wrap_u64]; omega
  have b1 : 0 ≤ p := by omega
  have b2 : p < 256 := by omega
  have b3 : 0 ≤ q := by omega
  have b4 : q < 256 := by omega
  have ef : wordf o n = p + q * 256 := by unfold wordf; rw [ep, eq]
  have EF := Lib.hid ef
  clear ef ep eq
  go_enter Try.func41, Try.ntmps41
  go_wp2_with fail
  go_ret
  exact ⟨ret_u64' EF.out.symm, rfl⟩
def mayf (f g b : Int) : Bool := decide (1 ≤ f ∧ f ≤ 12 ∧ 1 ≤ b ∧ b ≤ 11 ∧ 4 * szf b + 4 * szf (b + 1) ≤ 8 * max (min g 65536) (4 * szf f))
theorem szf_zero (b : Int) : (szf b == 0) = !(decide (1 ≤ b) && decide (b ≤ 12)) := by
  unfold szf
  by_cases c : 1 ≤ b ∧ b ≤ 12
  · have := pow_le b c.1 c.2
    rw [if_pos c]; simp [c]; omega
  · rw [if_neg c]; simp; omega
theorem mayw (f g b : Int) (w : World) :
    Calls Try.prog 42 #[.int .i64 f, .int .i64 g, .int .i64 b] w fun e w' => e = .returned (.bool (mayf f g b)) ∧ w = w' := by
  have z1 := szf_zero f
  have z2 := szf_zero b
  obtain ⟨s1, s2⟩ := szf_range f
  obtain ⟨s3, s4⟩ := szf_range b
  obtain ⟨s5, s6⟩ := szf_range (b + 1)
  by_cases cf : 1 ≤ f ∧ f ≤ 12
  · rw [show (decide (1 ≤ f) && decide (f ≤ 12)) = true by simp [cf]] at z1
    simp only [Bool.not_true] at z1
    by_cases cb : 1 ≤ b ∧ b ≤ 12
    · rw [show (decide (1 ≤ b) && decide (b ≤ 12)) = true by simp [cb]] at z2
      simp only [Bool.not_true] at z2
      by_cases c12 : 12 ≤ b
      · have e : mayf f g b = false := by unfold mayf; simp; omega
        rw [e]
        clear e cf cb
        go_enter Try.func42, Try.ntmps42
        go_wp2_with (go_at_call 47; refine (size_any _ _).mono ?_; rintro e w2 ⟨rfl, rfl⟩)
        go_ret
        exact ⟨rfl, rfl⟩
      · have e : mayf f g b = decide (4 * szf b + 4 * szf (b + 1) ≤ 8 * max (min g 65536) (4 * szf f)) := by
          unfold mayf
          rw [decide_eq_decide]
          exact ⟨fun h => h.2.2.2.2, fun h => ⟨cf.1, cf.2, cb.1, by omega, h⟩⟩
        obtain ⟨b1, b2⟩ := cb
        have hm : (g < 65536 ∨ 65536 ≤ g) := by omega
        have E := Lib.hid e
        obtain ⟨r, hr⟩ : ∃ r, mayf f g b = r := ⟨_, rfl⟩
        have R := Lib.hid hr
        rw [hr]
        clear e cf hr
        by_cases m1 : 65536 < g
        case' neg => by_cases m2 : g < 4 * szf f
        all_goals
          go_enter Try.func42, Try.ntmps42
          go_wp2_with (first | (go_at_call 47; refine (size_any _ _).mono ?_; rintro e w2 ⟨rfl, rfl⟩) | (go_at_call 82; refine (slotsw _ _).mono ?_; rintro e w2 ⟨rfl, rfl⟩))
        all_goals go_ret
        all_goals exact ⟨ret_bool (by rw [← R.out, E.out, decide_eq_decide]; omega), rfl⟩
    · rw [show (decide (1 ≤ b) && decide (b ≤ 12)) = false by simp; omega] at z2
      simp only [Bool.not_false] at z2
      have e : mayf f g b = false := by unfold mayf; simp; omega
      rw [e]
      clear e cf cb
      go_enter Try.func42, Try.ntmps42
      go_wp2_with (go_at_call 47; refine (size_any _ _).mono ?_; rintro e w2 ⟨rfl, rfl⟩)
      go_ret
      exact ⟨rfl, rfl⟩
  · rw [show (decide (1 ≤ f) && decide (f ≤ 12)) = false by simp; omega] at z1
    simp only [Bool.not_false] at z1
    have e : mayf f g b = false := by unfold mayf; simp; omega
    rw [e]
    clear e cf z2
    go_enter Try.func42, Try.ntmps42
    go_wp2_with (go_at_call 47; refine (size_any _ _).mono ?_; rintro e w2 ⟨rfl, rfl⟩)
    go_ret
    exact ⟨rfl, rfl⟩
theorem spotsf_range (x : Int) : 8 ≤ spotsf x ∧ spotsf x ≤ 32768 := by
  have a := as_range x
  have b := szf_range (asN x)
  have c := pow_le (asO x) a.1 a.2.1
  have d : szf (asO x) = 2 ^ (asO x).toNat := by unfold szf; rw [if_pos ⟨a.1, a.2.1⟩]
  unfold spotsf
  omega
theorem turn_eq (n s : Int) (l1 : -9223372036854775808 ≤ n) (u1 : n ≤ 9223372036854775807) (s1 : 0 < s) (s2 : s ≤ 32768) : (wrap64 (n.tmod s + s)).tmod s = n % s := by
  have h := Int.mul_tdiv_add_tmod n s
  have r1 := Int.tmod_lt_of_pos n s1
  have r2 : -s < n.tmod s := by
    have := Int.tmod_lt_of_pos (-n) s1
    rw [Int.neg_tmod] at this; omega
  have e : wrap64 (n.tmod s + s) = n.tmod s + s := by
    unfold wrap64; omega
  rw [e, Int.tmod_eq_emod_of_nonneg (by omega), Int.add_emod_right]
  conv => rhs; rw [← h]
  rw [Int.add_comm, Int.add_mul_emod_self_left]
/-- The spot of a number, in numbers. -/
def kf (x n : Int) : Int := n % spotsf x
def aB (x n : Int) : Int := if 4 * szf (asO x) ≤ kf x n then asN x else asO x
def aK (x n : Int) : Int := (if 4 * szf (asO x) ≤ kf x n then kf x n - 4 * szf (asO x) else kf x n) / 4
def aS (x n : Int) : Int := (if 4 * szf (asO x) ≤ kf x n then kf x n - 4 * szf (asO x) else kf x n) % 4
theorem kf_range (x n : Int) : 0 ≤ kf x n ∧ kf x n < spotsf x := by
  have := spotsf_range x
  exact ⟨Int.emod_nonneg _ (by omega), Int.emod_lt_of_pos _ (by omega)⟩
theorem atw8_a (x n k o z s : Int) (w : World) (h1 : 0 ≤ x) (h2 : x < 18446744073709551616) (hs : spotsf x = s) (hk : (wrap64 (n.tmod s + s)).tmod s = k) (ho : asO x = o) (hz : szf o = z) (z1 : 0 ≤ z) (z2 : z ≤ 4096) (s1 : 8 ≤ s) (k1 : 0 ≤ k) (k2 : k ≤ 32768) (c : 4 * z ≤ k) :
    Calls Try.prog 38 #[.int .u64 x, .int .i64 n] w fun e w' => e = .returned (.agg #[.int .i64 (asN x), .int .i64 ((k - 4 * z) / 4), .int .i64 ((k - 4 * z) % 4)]) ∧ Below w.heap.size w w' := by
  have A := Lib.hid (asw x · h1 h2)
  have B := Lib.hid (spotsw x · h1 h2)
  go_enter Try.func38, Try.ntmps38
  go_wp2_with fail
  refine (A.out _).mono ?_
  rintro e w1 ⟨rfl, hb1⟩
  go_wp2_with fail
  refine (B.out _).mono ?_
  rintro e w2 ⟨rfl, hb2⟩
  have hb := hb1.trans (hb2.mono hb1.size)
  have hlt : w.heap.size < (w.alloc (Obj.cells #[Value.int IntKind.i64 0, Value.int IntKind.i64 0, Value.int IntKind.i64 0] 41)).heap.size := by simp
  have c0 : w2.cell? { block := w.heap.size, off := 0 } = some (.int .i64 0) := (hb.cell (p := { block := w.heap.size, off := 0 }) hlt).trans (by simp)
  have c1 : w2.cell? { block := w.heap.size, off := 1 } = some (.int .i64 0) := (hb.cell (p := { block := w.heap.size, off := 1 }) hlt).trans (by simp)
  have c2 : w2.cell? { block := w.heap.size, off := 2 } = some (.int .i64 0) := (hb.cell (p := { block := w.heap.size, off := 2 }) hlt).trans (by simp)
  have f0 : w2.frozen? { block := w.heap.size, off := 0 } = false := (hb.frozen (p := { block := w.heap.size, off := 0 }) hlt).trans (by simp)
  have f1 : w2.frozen? { block := w.heap.size, off := 1 } = false := (hb.frozen (p := { block := w.heap.size, off := 1 }) hlt).trans (by simp)
  have f2 : w2.frozen? { block := w.heap.size, off := 2 } = false := (hb.frozen (p := { block := w.heap.size, off := 2 }) hlt).trans (by simp)
  go_wp2_with (go_at_call 82; refine (slotsw _ _).mono ?_; rintro e w3 ⟨rfl, rfl⟩)
  refine bodyPost_ret (v := .agg #[.int .i64 (asN x), .int .i64 ((k - 4 * z) / 4), .int .i64 ((k - 4 * z) % 4)]) (by simp [results, Try.results38, go_sem, c0, c1, c2]) rfl ⟨rfl, ?_⟩
  exact (box_out (by simp) hb |>.trans (Below.refl _ _)).setCell (Nat.le_refl _) _ |>.setCell (Nat.le_refl _) _ |>.setCell (Nat.le_refl _) _
theorem atw8_b (x n k o z s : Int) (w : World) (h1 : 0 ≤ x) (h2 : x < 18446744073709551616) (hs : spotsf x = s) (hk : (wrap64 (n.tmod s + s)).tmod s = k) (ho : asO x = o) (hz : szf o = z) (z1 : 0 ≤ z) (z2 : z ≤ 4096) (s1 : 8 ≤ s) (k1 : 0 ≤ k) (k2 : k ≤ 32768) (c : k < 4 * z) :
    Calls Try.prog 38 #[.int .u64 x, .int .i64 n] w fun e w' => e = .returned (.agg #[.int .i64 o, .int .i64 (k / 4), .int .i64 (k % 4)]) ∧ Below w.heap.size w w' := by
  have A := Lib.hid (asw x · h1 h2)
  have B := Lib.hid (spotsw x · h1 h2)
  go_enter Try.func38, Try.ntmps38
  go_wp2_with fail
  refine (A.out _).mono ?_
  rintro e w1 ⟨rfl, hb1⟩
  go_wp2_with fail
  refine (B.out _).mono ?_
  rintro e w2 ⟨rfl, hb2⟩
  have hb := hb1.trans (hb2.mono hb1.size)
  have hlt : w.heap.size < (w.alloc (Obj.cells #[Value.int IntKind.i64 0, Value.int IntKind.i64 0, Value.int IntKind.i64 0] 41)).heap.size := by simp
  have c0 : w2.cell? { block := w.heap.size, off := 0 } = some (.int .i64 0) := (hb.cell (p := { block := w.heap.size, off := 0 }) hlt).trans (by simp)
  have c1 : w2.cell? { block := w.heap.size, off := 1 } = some (.int .i64 0) := (hb.cell (p := { block := w.heap.size, off := 1 }) hlt).trans (by simp)
  have c2 : w2.cell? { block := w.heap.size, off := 2 } = some (.int .i64 0) := (hb.cell (p := { block := w.heap.size, off := 2 }) hlt).trans (by simp)
  have f0 : w2.frozen? { block := w.heap.size, off := 0 } = false := (hb.frozen (p := { block := w.heap.size, off := 0 }) hlt).trans (by simp)
  have f1 : w2.frozen? { block := w.heap.size, off := 1 } = false := (hb.frozen (p := { block := w.heap.size, off := 1 }) hlt).trans (by simp)
  have f2 : w2.frozen? { block := w.heap.size, off := 2 } = false := (hb.frozen (p := { block := w.heap.size, off := 2 }) hlt).trans (by simp)
  go_wp2_with (go_at_call 82; refine (slotsw _ _).mono ?_; rintro e w3 ⟨rfl, rfl⟩)
  refine bodyPost_ret (v := .agg #[.int .i64 o, .int .i64 (k / 4), .int .i64 (k % 4)]) (by simp [results, Try.results38, go_sem, c0, c1, c2]) rfl ⟨rfl, ?_⟩
  exact (box_out (by simp) hb |>.trans (Below.refl _ _)).setCell (Nat.le_refl _) _ |>.setCell (Nat.le_refl _) _ |>.setCell (Nat.le_refl _) _
theorem atw8 (x n : Int) (w : World) (h1 : 0 ≤ x) (h2 : x < 18446744073709551616) (l1 : -9223372036854775808 ≤ n) (u1 : n ≤ 9223372036854775807) :
    Calls Try.prog 38 #[.int .u64 x, .int .i64 n] w fun e w' => e = .returned (.agg #[.int .i64 (aB x n), .int .i64 (aK x n), .int .i64 (aS x n)]) ∧ Below w.heap.size w w' := by
  obtain ⟨s1, s2⟩ := spotsf_range x
  obtain ⟨z1, z2⟩ := szf_range (asO x)
  obtain ⟨k1, k2⟩ := kf_range x n
  have hk := turn_eq n (spotsf x) l1 u1 (by omega) s2
  by_cases c : 4 * szf (asO x) ≤ kf x n
  · unfold aB aK aS
    rw [if_pos c, if_pos c]
    exact atw8_a x n (kf x n) _ _ _ w h1 h2 rfl hk rfl rfl z1 z2 s1 k1 (by omega) c
  · unfold aB aK aS
    rw [if_neg c, if_neg c]
    exact atw8_b x n (kf x n) _ _ _ w h1 h2 rfl hk rfl rfl z1 z2 s1 k1 (by omega) (by omega)
end Go.Proofs.Yteofbgbjibbdaac
