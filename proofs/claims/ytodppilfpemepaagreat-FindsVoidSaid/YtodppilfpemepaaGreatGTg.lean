/- Contracts of package tagwords and of its chapter's answers: tags. -/
import Derived.Test.YtodppilfpemepaaGreatChecked
import Derived.Test.YtodppilfpemepaaGreatBits
import Derived.LoopN
namespace Go.Proofs.YtodppilfpemepaaGreat
open Go.RowKit
set_option linter.unusedVariables false

def tg0 (x : Int) : Int := x % 256
def tg1 (x : Int) : Int := x / 256 % 256
def tg2 (x : Int) : Int := x / 65536 % 256
def tg3 (x : Int) : Int := x / 16777216 % 256
/-- A slot's tag. -/
def tagf (x s : Int) : Int := if s = 0 then tg0 x else if s = 1 then tg1 x else if s = 2 then tg2 x else if s = 3 then tg3 x else 0
def unit (s : Int) : Int := if s = 0 then 1 else if s = 1 then 256 else if s = 2 then 65536 else if s = 3 then 16777216 else 0
def withf (x s t : Int) : Int := if t < 0 ∨ 255 < t then x else x - tagf x s * unit s + t * (if s < 0 ∨ 3 < s then 0 else unit s)
theorem ands (x : Int) (h1 : 0 ≤ x) (h2 : x < 18446744073709551616) : bits .and .u64 x 255 = tg0 x ∧ bits .and .u64 (x / 256) 255 = tg1 x ∧ bits .and .u64 (x / 65536) 255 = tg2 x ∧ bits .and .u64 (x / 16777216) 255 = tg3 x :=
  ⟨and255 _ h1 h2, and255 _ (by omega) (by omega), and255 _ (by omega) (by omega), and255 _ (by omega) (by omega)⟩
theorem tg_range (x : Int) : (0 ≤ tg0 x ∧ tg0 x ≤ 255) ∧ (0 ≤ tg1 x ∧ tg1 x ≤ 255) ∧ (0 ≤ tg2 x ∧ tg2 x ≤ 255) ∧ (0 ≤ tg3 x ∧ tg3 x ≤ 255) := by
  unfold tg0 tg1 tg2 tg3; omega
theorem parts (x : Int) (w : World) (h1 : 0 ≤ x) (h2 : x < 18446744073709551616) :
    Calls Tryz.prog 121 #[.int .u64 x] w fun e w' => e = .returned (.agg #[.int .i64 (tg0 x), .int .i64 (tg1 x), .int .i64 (tg2 x), .int .i64 (tg3 x)]) ∧ Below w.heap.size w w' := by
  obtain ⟨e0, e1, e2, e3⟩ := ands x h1 h2
  obtain ⟨⟨a0, b0⟩, ⟨a1, b1⟩, ⟨a2, b2⟩, ⟨a3, b3⟩⟩ := tg_range x
  go_enter Tryz.func121, Tryz.ntmps121
  go_wp2_with fail
  refine wp_loop_rounds 5 ?_
  rw [rounds_succ]
  go_wp2
  rw [rounds_succ]
  go_wp2
  rw [rounds_succ]
  go_wp2
  rw [rounds_succ]
  go_wp2
  rw [rounds_succ]
  go_wp2
  refine bodyPost_ret (v := .agg #[.int .i64 (tg0 x), .int .i64 (tg1 x), .int .i64 (tg2 x), .int .i64 (tg3 x)]) (by simp [results, Tryz.results121, go_sem]) rfl ⟨rfl, ?_⟩
  exact ((Below.refl _ _).alloc (Nat.le_refl _) _).alloc (by simp) _
/-- An array's element. -/
theorem idx4 (a b c d : Value) (w : World) : (Instr.index 198 (.agg #[a, b, c, d]) (.int .i64 0)).run Tryz.prog w = .ok a w ∧ (Instr.index 198 (.agg #[a, b, c, d]) (.int .i64 1)).run Tryz.prog w = .ok b w ∧
    (Instr.index 198 (.agg #[a, b, c, d]) (.int .i64 2)).run Tryz.prog w = .ok c w ∧ (Instr.index 198 (.agg #[a, b, c, d]) (.int .i64 3)).run Tryz.prog w = .ok d w :=
  ⟨by kernel_rfl, by kernel_rfl, by kernel_rfl, by kernel_rfl⟩
theorem reftag_0 (x : Int) (w : World) (h1 : 0 ≤ x) (h2 : x < 18446744073709551616) :
    Calls Tryz.prog 105 #[.int .u64 x, .int .i64 0] w fun e w' => e = .returned (.int .i64 (tg0 x)) ∧ w = w' := by
  go_enter Tryz.func105, Tryz.ntmps105
  go_wp2
  refine wp_loop_rounds 1 ?_
  rw [rounds_succ]
  go_wp2
  go_ret
  exact ⟨ret_int (by unfold tg0; omega), rfl⟩
theorem reftag_1 (x : Int) (w : World) (h1 : 0 ≤ x) (h2 : x < 18446744073709551616) :
    Calls Tryz.prog 105 #[.int .u64 x, .int .i64 1] w fun e w' => e = .returned (.int .i64 (tg1 x)) ∧ w = w' := by
  go_enter Tryz.func105, Tryz.ntmps105
  go_wp2
  refine wp_loop_rounds 2 ?_
  rw [rounds_succ]
  go_wp2
  rw [rounds_succ]
  go_wp2
  go_ret
  exact ⟨ret_int (by unfold tg1; omega), rfl⟩
theorem reftag_2 (x : Int) (w : World) (h1 : 0 ≤ x) (h2 : x < 18446744073709551616) :
    Calls Tryz.prog 105 #[.int .u64 x, .int .i64 2] w fun e w' => e = .returned (.int .i64 (tg2 x)) ∧ w = w' := by
  go_enter Tryz.func105, Tryz.ntmps105
  go_wp2
  refine wp_loop_rounds 3 ?_
  rw [rounds_succ]
  go_wp2
  rw [rounds_succ]
  go_wp2
  rw [rounds_succ]
  go_wp2
  go_ret
  exact ⟨ret_int (by unfold tg2; omega), rfl⟩
theorem reftag_3 (x : Int) (w : World) (h1 : 0 ≤ x) (h2 : x < 18446744073709551616) :
    Calls Tryz.prog 105 #[.int .u64 x, .int .i64 3] w fun e w' => e = .returned (.int .i64 (tg3 x)) ∧ w = w' := by
  go_enter Tryz.func105, Tryz.ntmps105
  go_wp2
  refine wp_loop_rounds 4 ?_
  rw [rounds_succ]
  go_wp2
  rw [rounds_succ]
  go_wp2
  rw [rounds_succ]
  go_wp2
  rw [rounds_succ]
  go_wp2
  go_ret
  exact ⟨ret_int (by unfold tg3; omega), rfl⟩
theorem reftag_out (x s : Int) (w : World) (h : s < 0 ∨ 3 < s) :
    Calls Tryz.prog 105 #[.int .u64 x, .int .i64 s] w fun e w' => e = .returned (.int .i64 0) ∧ w = w' := by
  by_cases h0 : s < 0
  all_goals
    go_enter Tryz.func105, Tryz.ntmps105
    go_wp2
    go_ret
    exact ⟨rfl, rfl⟩
theorem reftagw (x s : Int) (w : World) (h1 : 0 ≤ x) (h2 : x < 18446744073709551616) :
    Calls Tryz.prog 105 #[.int .u64 x, .int .i64 s] w fun e w' => e = .returned (.int .i64 (tagf x s)) ∧ w = w' := by
  unfold tagf
  split
  · next h => subst h; exact reftag_0 x w h1 h2
  split
  · next h => subst h; exact reftag_1 x w h1 h2
  split
  · next h => subst h; exact reftag_2 x w h1 h2
  split
  · next h => subst h; exact reftag_3 x w h1 h2
  · exact reftag_out x s w (by omega)
theorem tagw (x s : Int) (w : World) (h1 : 0 ≤ x) (h2 : x < 18446744073709551616) :
    Calls Tryz.prog 167 #[.int .u64 x, .int .i64 s] w fun e w' => e = .returned (.int .i64 (tagf x s)) ∧ Below w.heap.size w w' := by
  by_cases s0 : s = 0
  case' neg => by_cases s1 : s = 1
  case' neg => by_cases s2 : s = 2
  case' neg => by_cases s3 : s = 3
  case neg =>
    have : tagf x s = 0 := by simp [tagf, s0, s1, s2, s3]
    rw [this]
    clear this
    by_cases hn : s < 0
    · clear s0 s1 s2 s3
      go_enter Tryz.func167, Tryz.ntmps167
      go_wp2
      go_ret
      exact ⟨rfl, Below.refl _ _⟩
    · have hp : decide (s < 4) = false := by simp; omega
      clear s0 s1 s2 s3
      go_enter Tryz.func167, Tryz.ntmps167
      go_wp2
      go_ret
      exact ⟨rfl, Below.refl _ _⟩
  all_goals
    subst_vars
    have ix := fun w => (idx4 (.int .i64 (tg0 x)) (.int .i64 (tg1 x)) (.int .i64 (tg2 x)) (.int .i64 (tg3 x)) w)
    obtain ⟨i0, i1, i2, i3⟩ : (∀ w, _) ∧ (∀ w, _) ∧ (∀ w, _) ∧ (∀ w, _) := ⟨fun w => (ix w).1, fun w => (ix w).2.1, fun w => (ix w).2.2.1, fun w => (ix w).2.2.2⟩
    clear ix
    go_enter Tryz.func167, Tryz.ntmps167
    go_wp2_with (first | (go_at_call 121; refine (parts _ _ h1 h2).mono ?_; rintro e w' ⟨rfl, hb⟩) | (go_at_call 181; go_in))
    go_ret
    exact ⟨rfl, hb⟩
end Go.Proofs.YtodppilfpemepaaGreat
/- Next: Contracts of package tagwords and of its chapter's answers: a tag put, and how many there are. -/
namespace Go.Proofs.YtodppilfpemepaaGreat
open Go.RowKit
set_option linter.unusedVariables false

theorem with_facts (x t : Int) (h1 : 0 ≤ x) (h2 : x < 18446744073709551616) (t1 : 0 ≤ t) (t2 : t ≤ 255) :
    bits .or .u64 (bits .andNot .u64 x 255) t = withf x 0 t ∧ bits .or .u64 (bits .andNot .u64 x 65280) (t * 256) = withf x 1 t ∧
    bits .or .u64 (bits .andNot .u64 x 16711680) (t * 65536) = withf x 2 t ∧ bits .or .u64 (bits .andNot .u64 x 4278190080) (t * 16777216) = withf x 3 t := by
  obtain ⟨X, rfl⟩ := Int.eq_ofNat_of_zero_le h1
  obtain ⟨T, rfl⟩ := Int.eq_ofNat_of_zero_le t1
  have a0 := with_bits X T 0 (by omega) (by omega) (by omega)
  have a1 := with_bits X T 8 (by omega) (by omega) (by omega)
  have a2 := with_bits X T 16 (by omega) (by omega) (by omega)
  have a3 := with_bits X T 24 (by omega) (by omega) (by omega)
  have n : ¬ ((T : Int) < 0 ∨ 255 < (T : Int)) := by omega
  simp only [withf, n, if_false, tagf, unit]
  simp at a0 a1 a2 a3
  refine ⟨?_, ?_, ?_, ?_⟩
  · rw [a0]; simp [tg0]; omega
  · rw [a1]; simp [tg1]; omega
  · rw [a2]; simp [tg2]; omega
  · rw [a3]; simp [tg3]; omega
theorem withf_range (x s t : Int) (h1 : 0 ≤ x) (h2 : x < 18446744073709551616) : 0 ≤ withf x s t ∧ withf x s t < 18446744073709551616 := by
  unfold withf
  split
  · omega
  · unfold tagf unit
    by_cases a : s = 0
    · subst a; simp [tg0]; omega
    by_cases b : s = 1
    · subst b; simp [tg1]; omega
    by_cases c : s = 2
    · subst c; simp [tg2]; omega
    by_cases d : s = 3
    · subst d; simp [tg3]; omega
    have e : s < 0 ∨ 3 < s := by omega
    simp [a, b, c, d, e]; omega
theorem withw (x s t : Int) (w : World) (h1 : 0 ≤ x) (h2 : x < 18446744073709551616) :
    Calls Tryz.prog 213 #[.int .u64 x, .int .i64 s, .int .i64 t] w fun e w' => e = .returned (.int .u64 (withf x s t)) ∧ Below w.heap.size w w' := by
  by_cases ht : t < 0 ∨ 255 < t
  · have e : withf x s t = x := by simp [withf, ht]
    rw [e]
    by_cases s0 : s < 0
    case' neg => by_cases s1 : 4 ≤ s
    case' neg => by_cases s2 : t < 0
    case' neg => have s3 : 255 < t := by omega
    all_goals
      clear ht e
      go_enter Tryz.func213, Tryz.ntmps213
      go_wp2
      go_ret
      exact ⟨rfl, Below.refl _ _⟩
  · by_cases hs : s < 0 ∨ 3 < s
    · have e : withf x s t = x := by
        have a : s ≠ 0 := by omega
        have b : s ≠ 1 := by omega
        have c : s ≠ 2 := by omega
        have d : s ≠ 3 := by omega
        simp [withf, ht, hs, tagf, unit, a, b, c, d]
      rw [e]
      by_cases s0 : s < 0
      case' neg => have s1 : 4 ≤ s := by omega
      all_goals
        clear hs e
        go_enter Tryz.func213, Tryz.ntmps213
        go_wp2
        go_ret
        exact ⟨rfl, Below.refl _ _⟩
    · have t1 : 0 ≤ t := by omega
      have t2 : t ≤ 255 := by omega
      obtain ⟨f0, f1, f2, f3⟩ := with_facts x t h1 h2 t1 t2
      have hs : s = 0 ∨ s = 1 ∨ s = 2 ∨ s = 3 := by omega
      clear ht
      rcases hs with rfl | rfl | rfl | rfl
      all_goals
        go_enter Tryz.func213, Tryz.ntmps213
        go_wp2
        go_quiet (fail)
        go_wp2
        go_ret
        exact ⟨rfl, below_drewN (Below.refl _ _) _⟩
theorem refwithw (x s t : Int) (w : World) (h1 : 0 ≤ x) (h2 : x < 18446744073709551616) :
    Calls Tryz.prog 64 #[.int .u64 x, .int .i64 s, .int .i64 t] w fun e w' => e = .returned (.int .u64 (withf x s t)) ∧ Below w.heap.size w w' := by
  by_cases ht : t < 0 ∨ 255 < t
  · have e : withf x s t = x := by simp [withf, ht]
    rw [e]
    by_cases s0 : s < 0
    case' neg => by_cases s1 : 4 ≤ s
    case' neg => by_cases s2 : t < 0
    case' neg => have s3 : 255 < t := by omega
    all_goals
      clear ht e
      go_enter Tryz.func64, Tryz.ntmps64
      go_wp2
      go_ret
      exact ⟨rfl, Below.refl _ _⟩
  · by_cases hs : s < 0 ∨ 3 < s
    · have e : withf x s t = x := by
        have a : s ≠ 0 := by omega
        have b : s ≠ 1 := by omega
        have c : s ≠ 2 := by omega
        have d : s ≠ 3 := by omega
        simp [withf, ht, hs, tagf, unit, a, b, c, d]
      rw [e]
      by_cases s0 : s < 0
      case' neg => have s1 : 4 ≤ s := by omega
      all_goals
        clear hs e
        go_enter Tryz.func64, Tryz.ntmps64
        go_wp2
        go_ret
        exact ⟨rfl, Below.refl _ _⟩
    · have t1 : 0 ≤ t := by omega
      have t2 : t ≤ 255 := by omega
      have hs : s = 0 ∨ s = 1 ∨ s = 2 ∨ s = 3 := by omega
      have n := Lib.hid ht
      have g0 : 0 ≤ x - tg0 x := by unfold tg0; omega
      have g1 : 0 ≤ x - tg1 x * 256 := by unfold tg1; omega
      have g2 : 0 ≤ x - tg2 x * 65536 := by unfold tg2; omega
      have g3 : 0 ≤ x - tg3 x * 16777216 := by unfold tg3; omega
      have k0 : x - tg0 x + t < 18446744073709551616 := by unfold tg0; omega
      have k1 : x - tg1 x * 256 + t * 256 < 18446744073709551616 := by unfold tg1; omega
      have k2 : x - tg2 x * 65536 + t * 65536 < 18446744073709551616 := by unfold tg2; omega
      have k3 : x - tg3 x * 16777216 + t * 16777216 < 18446744073709551616 := by
        have : x / 16777216 / 256 ≤ 4294967295 := by omega
        unfold tg3; omega
      obtain ⟨⟨a0, b0⟩, ⟨a1, b1⟩, ⟨a2, b2⟩, ⟨a3, b3⟩⟩ := tg_range x
      clear ht
      rcases hs with rfl | rfl | rfl | rfl
      · go_enter Tryz.func64, Tryz.ntmps64
        go_wp2_with fail
        refine wp_loop_rounds 1 ?_
        rw [rounds_succ]
        go_wp2_with fail
        refine (reftag_0 _ _ h1 h2).mono ?_
        rintro e w' ⟨rfl, rfl⟩
        go_wp2_with fail
        go_ret
        exact ⟨by have := n.out; simp [withf, tagf, unit, this], Below.refl _ _⟩
      · go_enter Tryz.func64, Tryz.ntmps64
        go_wp2_with fail
        refine wp_loop_rounds 2 ?_
        rw [rounds_succ]
        go_wp2_with fail
        rw [rounds_succ]
        go_wp2_with fail
        refine (reftag_1 _ _ h1 h2).mono ?_
        rintro e w' ⟨rfl, rfl⟩
        go_wp2_with fail
        go_ret
        exact ⟨by have := n.out; simp [withf, tagf, unit, this], Below.refl _ _⟩
      · go_enter Tryz.func64, Tryz.ntmps64
        go_wp2_with fail
        refine wp_loop_rounds 3 ?_
        rw [rounds_succ]
        go_wp2_with fail
        rw [rounds_succ]
        go_wp2_with fail
        rw [rounds_succ]
        go_wp2_with fail
        refine (reftag_2 _ _ h1 h2).mono ?_
        rintro e w' ⟨rfl, rfl⟩
        go_wp2_with fail
        go_ret
        exact ⟨by have := n.out; simp [withf, tagf, unit, this], Below.refl _ _⟩
      · go_enter Tryz.func64, Tryz.ntmps64
        go_wp2_with fail
        refine wp_loop_rounds 4 ?_
        rw [rounds_succ]
        go_wp2_with fail
        rw [rounds_succ]
        go_wp2_with fail
        rw [rounds_succ]
        go_wp2_with fail
        rw [rounds_succ]
        go_wp2_with fail
        refine (reftag_3 _ _ h1 h2).mono ?_
        rintro e w' ⟨rfl, rfl⟩
        go_wp2_with fail
        go_ret
        exact ⟨by have := n.out; simp [withf, tagf, unit, this], Below.refl _ _⟩
end Go.Proofs.YtodppilfpemepaaGreat
