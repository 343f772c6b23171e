/- Contracts of package places and of its chapter's answers: words of tables. -/
import Derived.Test.YtmdofhdjikapgaaPl
namespace Go.Proofs.Ytmdofhdjikapgaa
open Go.RowKit
set_option linter.unusedVariables false

def wordf (o n : Int) : Int := o % 256 + n % 256 * 256
def asO (x : Int) : Int := if 1 ≤ x % 256 ∧ x % 256 ≤ 12 then x % 256 else 1
def asN (x : Int) : Int := if x / 256 % 256 = asO x + 1 ∧ x / 256 % 256 ≤ 12 then x / 256 % 256 else 0
theorem as_range (x : Int) : 1 ≤ asO x ∧ asO x ≤ 12 ∧ (asN x = 0 ∨ (asN x = asO x + 1 ∧ asN x ≤ 12)) := by
  unfold asN
  have : 1 ≤ asO x ∧ asO x ≤ 12 := by unfold asO; split <;> omega
  refine ⟨this.1, this.2, ?_⟩
  split <;> omega
theorem asw (x : Int) (w : World) (h1 : 0 ≤ x) (h2 : x < 18446744073709551616) :
    Calls Try.prog 58 #[.int .u64 x] w fun e w' => e = .returned (.tuple #[.int .i64 (asO x), .int .i64 (asN x)]) ∧ Below w.heap.size w w' := by
  have m1 := and255 x h1 h2
  have m2 := and255 (x / 256) (by omega) (by omega)
  obtain ⟨o, ho⟩ : ∃ o, x % 256 = o := ⟨_, rfl⟩
  obtain ⟨n, hn⟩ : ∃ n, x / 256 % 256 = n := ⟨_, rfl⟩
  rw [ho] at m1
  rw [hn] at m2
  have o1 : 0 ≤ o := by omega
  have o2 : o ≤ 255 := by omega
  have n1 : 0 ≤ n := by omega
  have n2 : n ≤ 255 := by omega
  have eO : asO x = if 1 ≤ o ∧ o ≤ 12 then o else 1 := by unfold asO; rw [ho]
  have eN : asN x = if n = asO x + 1 ∧ n ≤ 12 then n else 0 := by unfold asN; rw [hn]
  have hc : (1 ≤ o ∧ o ≤ 12 ∧ (szf o == 0) = false ∧ asO x = o ∧ n = o + 1 ∧ n ≤ 12 ∧ asN x = n) ∨ (1 ≤ o ∧ o ≤ 12 ∧ (szf o == 0) = false ∧ asO x = o ∧ n = o + 1 ∧ 12 < n ∧ asN x = 0) ∨ (1 ≤ o ∧ o ≤ 12 ∧ (szf o == 0) = false ∧ asO x = o ∧ n ≠ o + 1 ∧ asN x = 0) ∨ ((szf o == 0) = true ∧ asO x = 1 ∧ n = 2 ∧ n ≤ 12 ∧ asN x = 2) ∨ ((szf o == 0) = true ∧ asO x = 1 ∧ n ≠ 2 ∧ asN x = 0) := by
    by_cases c : 1 ≤ o ∧ o ≤ 12
    · have p := pow_le o c.1 c.2
      have s : (szf o == 0) = false := by rw [beq_eq_false_iff_ne]; unfold szf; rw [if_pos c]; omega
      rw [if_pos c] at eO
      rw [eO] at eN
      by_cases d : n = o + 1
      · by_cases e : n ≤ 12
        · exact .inl ⟨c.1, c.2, s, eO, d, e, by rw [eN, if_pos ⟨d, e⟩]⟩
        · exact .inr (.inl ⟨c.1, c.2, s, eO, d, by omega, by rw [eN, if_neg (by omega)]⟩)
      · exact .inr (.inr (.inl ⟨c.1, c.2, s, eO, d, by rw [eN, if_neg (by omega)]⟩))
    · have s : (szf o == 0) = true := by unfold szf; rw [if_neg c]; rfl
      rw [if_neg c] at eO
      rw [eO] at eN
      by_cases d : n = 2
      · exact .inr (.inr (.inr (.inl ⟨s, eO, d, by omega, by rw [eN, if_pos (by omega)]; exact d⟩)))
      · exact .inr (.inr (.inr (.inr ⟨s, eO, d, by rw [eN, if_neg (by omega)]⟩)))
  obtain ⟨rO, hO⟩ : ∃ r, asO x = r := ⟨_, rfl⟩
  obtain ⟨rN, hN⟩ : ∃ r, asN x = r := ⟨_, rfl⟩
  rw [hO, hN]
  simp only [hO, hN] at hc
  clear eO eN hO hN
  rcases hc with ⟨c1, c2, c3, rfl, d, e, rfl⟩ | ⟨c1, c2, c3, rfl, d, e, rfl⟩ | ⟨c1, c2, c3, rfl, d, rfl⟩ | ⟨c3, rfl, d, d2, rfl⟩ | ⟨c3, rfl, d, rfl⟩
  case' inl => have db : (rN != rO + 1) = false := by simpa using d
  case' inr.inl => have db : (n != rO + 1) = false := by simpa using d
  case' inr.inr.inl => have db : (n != rO + 1) = true := by simpa using d
  case' inr.inr.inr.inl => have db : (n != 2) = false := by simpa using d
  case' inr.inr.inr.inr => have db : (n != 2) = true := by simpa using d
  all_goals
    have D := Lib.hid d
    clear d
    go_enter Try.func58, Try.ntmps58
    go_wp2_with fail
    refine (size_any _ _).mono ?_
    rintro e w1 ⟨rfl, rfl⟩
    go_wp2_with fail
    go_ret2
    exact ⟨by first | rfl | (have := D.out; simp [this]), Below.refl _ _⟩
theorem as_eq (x o n : Int) (ho : x % 256 = o) (hn : x / 256 % 256 = n) : asO x = (if 1 ≤ o ∧ o ≤ 12 then o else 1) ∧ asN x = (if n = asO x + 1 ∧ n ≤ 12 then n else 0) := by
  unfold asN asO; rw [ho, hn]; exact ⟨rfl, rfl⟩
theorem ras_a (x o n : Int) (w : World) (h1 : 0 ≤ x) (h2 : x < 18446744073709551616) (ho : x % 256 = o) (hn : x / 256 % 256 = n) (o1 : 0 ≤ o) (o2 : o ≤ 255) (n1 : 0 ≤ n) (n2 : n ≤ 255) (c0 : 1 ≤ o) (c1 : o ≤ 12) (d : n = o + 1) (e : n ≤ 12) (db : (n != o + 1) = false) :
    Calls Try.prog 60 #[.int .u64 x] w fun e w' => e = .returned (.tuple #[.int .i64 o, .int .i64 n]) ∧ w = w' := by
  have D := Lib.hid d
  clear d
  go_enter Try.func60, Try.ntmps60
  go_wp2_with fail
  go_ret2
  exact ⟨by first | rfl | (have := D.out; simp [this]), rfl⟩
theorem ras_b (x o n : Int) (w : World) (h1 : 0 ≤ x) (h2 : x < 18446744073709551616) (ho : x % 256 = o) (hn : x / 256 % 256 = n) (o1 : 0 ≤ o) (o2 : o ≤ 255) (n1 : 0 ≤ n) (n2 : n ≤ 255) (c0 : 1 ≤ o) (c1 : o ≤ 12) (d : n = o + 1) (e : 12 < n) (db : (n != o + 1) = false) :
    Calls Try.prog 60 #[.int .u64 x] w fun e w' => e = .returned (.tuple #[.int .i64 o, .int .i64 0]) ∧ w = w' := by
  have D := Lib.hid d
  clear d
  go_enter Try.func60, Try.ntmps60
  go_wp2_with fail
  go_ret2
  exact ⟨by first | rfl | (have := D.out; simp [this]), rfl⟩
theorem ras_c (x o n : Int) (w : World) (h1 : 0 ≤ x) (h2 : x < 18446744073709551616) (ho : x % 256 = o) (hn : x / 256 % 256 = n) (o1 : 0 ≤ o) (o2 : o ≤ 255) (n1 : 0 ≤ n) (n2 : n ≤ 255) (c0 : 1 ≤ o) (c1 : o ≤ 12) (d : n ≠ o + 1) (e : n ≤ 12) (db : (n != o + 1) = true) :
    Calls Try.prog 60 #[.int .u64 x] w fun e w' => e = .returned (.tuple #[.int .i64 o, .int .i64 0]) ∧ w = w' := by
  have D := Lib.hid d
  clear d
  go_enter Try.func60, Try.ntmps60
  go_wp2_with fail
  go_ret2
  exact ⟨by first | rfl | (have := D.out; simp [this]), rfl⟩
theorem ras_d (x o n : Int) (w : World) (h1 : 0 ≤ x) (h2 : x < 18446744073709551616) (ho : x % 256 = o) (hn : x / 256 % 256 = n) (o1 : 0 ≤ o) (o2 : o ≤ 255) (n1 : 0 ≤ n) (n2 : n ≤ 255) (c0 : 1 ≤ o) (c1 : o ≤ 12) (d : n ≠ o + 1) (e : 12 < n) (db : (n != o + 1) = true) :
    Calls Try.prog 60 #[.int .u64 x] w fun e w' => e = .returned (.tuple #[.int .i64 o, .int .i64 0]) ∧ w = w' := by
  have D := Lib.hid d
  clear d
  go_enter Try.func60, Try.ntmps60
  go_wp2_with fail
  go_ret2
  exact ⟨by first | rfl | (have := D.out; simp [this]), rfl⟩
theorem ras_e (x o n : Int) (w : World) (h1 : 0 ≤ x) (h2 : x < 18446744073709551616) (ho : x % 256 = o) (hn : x / 256 % 256 = n) (o1 : 0 ≤ o) (o2 : o ≤ 255) (n1 : 0 ≤ n) (n2 : n ≤ 255) (c0 : o < 1) (d : n = 2) (e : n ≤ 12) (db : (n != 2) = false) :
    Calls Try.prog 60 #[.int .u64 x] w fun e w' => e = .returned (.tuple #[.int .i64 1, .int .i64 2]) ∧ w = w' := by
  have D := Lib.hid d
  clear d
  go_enter Try.func60, Try.ntmps60
  go_wp2_with fail
  go_ret2
  exact ⟨by first | rfl | (have := D.out; simp [this]), rfl⟩
theorem ras_f (x o n : Int) (w : World) (h1 : 0 ≤ x) (h2 : x < 18446744073709551616) (ho : x % 256 = o) (hn : x / 256 % 256 = n) (o1 : 0 ≤ o) (o2 : o ≤ 255) (n1 : 0 ≤ n) (n2 : n ≤ 255) (c0 : o < 1) (d : n ≠ 2) (e : n ≤ 12) (db : (n != 2) = true) :
    Calls Try.prog 60 #[.int .u64 x] w fun e w' => e = .returned (.tuple #[.int .i64 1, .int .i64 0]) ∧ w = w' := by
  have D := Lib.hid d
  clear d
  go_enter Try.func60, Try.ntmps60
  go_wp2_with fail
  go_ret2
  exact ⟨by first | rfl | (have := D.out; simp [this]), rfl⟩
theorem ras_g (x o n : Int) (w : World) (h1 : 0 ≤ x) (h2 : x < 18446744073709551616) (ho : x % 256 = o) (hn : x / 256 % 256 = n) (o1 : 0 ≤ o) (o2 : o ≤ 255) (n1 : 0 ≤ n) (n2 : n ≤ 255) (c0 : o < 1) (d : n ≠ 2) (e : 12 < n) (db : (n != 2) = true) :
    Calls Try.prog 60 #[.int .u64 x] w fun e w' => e = .returned (.tuple #[.int .i64 1, .int .i64 0]) ∧ w = w' := by
  have D := Lib.hid d
  clear d
  go_enter Try.func60, Try.ntmps60
  go_wp2_with fail
  go_ret2
  exact ⟨by first | rfl | (have := D.out; simp [this]), rfl⟩
theorem ras_h (x o n : Int) (w : World) (h1 : 0 ≤ x) (h2 : x < 18446744073709551616) (ho : x % 256 = o) (hn : x / 256 % 256 = n) (o1 : 0 ≤ o) (o2 : o ≤ 255) (n1 : 0 ≤ n) (n2 : n ≤ 255) (c0 : ¬ o < 1) (c1 : 12 < o) (d : n = 2) (e : n ≤ 12) (db : (n != 2) = false) :
    Calls Try.prog 60 #[.int .u64 x] w fun e w' => e = .returned (.tuple #[.int .i64 1, .int .i64 2]) ∧ w = w' := by
  have D := Lib.hid d
  clear d
  go_enter Try.func60, Try.ntmps60
  go_wp2_with fail
  go_ret2
  exact ⟨by first | rfl | (have := D.out; simp [this]), rfl⟩
theorem ras_i (x o n : Int) (w : World) (h1 : 0 ≤ x) (h2 : x < 18446744073709551616) (ho : x % 256 = o) (hn : x / 256 % 256 = n) (o1 : 0 ≤ o) (o2 : o ≤ 255) (n1 : 0 ≤ n) (n2 : n ≤ 255) (c0 : ¬ o < 1) (c1 : 12 < o) (d : n ≠ 2) (e : n ≤ 12) (db : (n != 2) = true) :
    Calls Try.prog 60 #[.int .u64 x] w fun e w' => e = .returned (.tuple #[.int .i64 1, .int .i64 0]) ∧ w = w' := by
  have D := Lib.hid d
  clear d
  go_enter Try.func60, Try.ntmps60
  go_wp2_with fail
  go_ret2
  exact ⟨by first | rfl | (have := D.out; simp [this]), rfl⟩
theorem ras_j (x o n : Int) (w : World) (h1 : 0 ≤ x) (h2 : x < 18446744073709551616) (ho : x % 256 = o) (hn : x / 256 % 256 = n) (o1 : 0 ≤ o) (o2 : o ≤ 255) (n1 : 0 ≤ n) (n2 : n ≤ 255) (c0 : ¬ o < 1) (c1 : 12 < o) (d : n ≠ 2) (e : 12 < n) (db : (n != 2) = true) :
    Calls Try.prog 60 #[.int .u64 x] w fun e w' => e = .returned (.tuple #[.int .i64 1, .int .i64 0]) ∧ w = w' := by
  have D := Lib.hid d
  clear d
  go_enter Try.func60, Try.ntmps60
  go_wp2_with fail
  go_ret2
  exact ⟨by first | rfl | (have := D.out; simp [this]), rfl⟩
theorem ras (x : Int) (w : World) (h1 : 0 ≤ x) (h2 : x < 18446744073709551616) :
    Calls Try.prog 60 #[.int .u64 x] w fun e w' => e = .returned (.tuple #[.int .i64 (asO x), .int .i64 (asN x)]) ∧ w = w' := by
  obtain ⟨o, ho⟩ : ∃ o, x % 256 = o := ⟨_, rfl⟩
  obtain ⟨n, hn⟩ : ∃ n, x / 256 % 256 = n := ⟨_, rfl⟩
  have o1 : 0 ≤ o := by omega
  have o2 : o ≤ 255 := by omega
  have n1 : 0 ≤ n := by omega
  have n2 : n ≤ 255 := by omega
  obtain ⟨eO, eN⟩ := as_eq x o n ho hn
  by_cases c : 1 ≤ o ∧ o ≤ 12
  · rw [if_pos c] at eO
    rw [eO] at eN ⊢
    by_cases d : n = o + 1
    · have db : (n != o + 1) = false := by simpa using d
      by_cases e : n ≤ 12
      · rw [if_pos ⟨d, e⟩] at eN; rw [eN]; exact ras_a x o n w h1 h2 ho hn o1 o2 n1 n2 c.1 c.2 d e db
      · rw [if_neg (fun h => e h.2)] at eN; rw [eN]; exact ras_b x o n w h1 h2 ho hn o1 o2 n1 n2 c.1 c.2 d (by omega) db
    · have db : (n != o + 1) = true := by simpa using d
      rw [if_neg (fun h => d h.1)] at eN; rw [eN]
      by_cases e : n ≤ 12
      · exact ras_c x o n w h1 h2 ho hn o1 o2 n1 n2 c.1 c.2 d e db
      · exact ras_d x o n w h1 h2 ho hn o1 o2 n1 n2 c.1 c.2 d (by omega) db
  · rw [if_neg c] at eO
    rw [eO] at eN ⊢
    by_cases d : n = 2
    · have db : (n != 2) = false := by simpa using d
      rw [if_pos (show n = 1 + 1 ∧ n ≤ 12 by omega)] at eN; rw [eN]
      subst d
      by_cases g : o < 1
      · exact ras_e x o 2 w h1 h2 ho hn o1 o2 n1 n2 g rfl (by omega) db
      · exact ras_h x o 2 w h1 h2 ho hn o1 o2 n1 n2 g (by omega) rfl (by omega) db
    · have db : (n != 2) = true := by simpa using d
      rw [if_neg (show ¬ (n = 1 + 1 ∧ n ≤ 12) by omega)] at eN; rw [eN]
      by_cases g : o < 1 <;> by_cases e : n ≤ 12
      · exact ras_f x o n w h1 h2 ho hn o1 o2 n1 n2 g d e db
      · exact ras_g x o n w h1 h2 ho hn o1 o2 n1 n2 g d (by omega) db
      · exact ras_i x o n w h1 h2 ho hn o1 o2 n1 n2 g (by omega) d e db
      · exact ras_j x o n w h1 h2 ho hn o1 o2 n1 n2 g (by omega) d (by omega) db
/-- Where things are put; how many spots there are. -/
def tgtf (x : Int) : Int := if asN x = 0 then asO x else asN x
def spotsf (x : Int) : Int := 4 * szf (asO x) + 4 * szf (asN x)
theorem slotsw (b : Int) (w : World) : Calls Try.prog 78 #[.int .i64 b] w fun e w' => e = .returned (.int .i64 (4 * szf b)) ∧ w = w' := by
  obtain ⟨s1, s2⟩ := szf_range b
  go_enter Try.func78, Try.ntmps78
  go_wp2_with fail
  refine (size_any _ _).mono ?_
  rintro e w1 ⟨rfl, rfl⟩
  go_wp2_with fail
  go_ret
  exact ⟨rfl, rfl⟩
theorem spotsw (x : Int) (w : World) (h1 : 0 ≤ x) (h2 : x < 18446744073709551616) :
    Calls Try.prog 35 #[.int .u64 x] w fun e w' => e = .returned (.int .i64 (spotsf x)) ∧ Below w.heap.size w w' := by
  have s1 := szf_range (asO x)
  have s2 := szf_range (asN x)
  obtain ⟨a1, a2⟩ := s1
  obtain ⟨a3, a4⟩ := s2
  go_enter Try.func35, Try.ntmps35
  go_wp2_with fail
  refine (asw _ _ h1 h2).mono ?_
  rintro e w1 ⟨rfl, hk⟩
  go_wp2_with (go_at_call 78; refine (slotsw _ _).mono ?_; rintro e w2 ⟨rfl, rfl⟩)
  go_ret
  exact ⟨rfl, hk⟩
end Go.Proofs.Ytmdofhdjikapgaa
