/- Contracts of package tagwords and of its chapter's answers: tags. -/
import Derived.Test.YtepkpbhhiianpaaChecked
import Derived.Test.YtepkpbhhiianpaaBits
import Derived.LoopN
namespace Go.Proofs.Ytepkpbhhiianpaa
open Go.RowKit
set_option linter.unusedVariables false

def tg0 (x : Int) : Int := x % 256
def tg1 (x : Int) : Int := x / 256 % 256
def tg2 (x : Int) : Int := x / 65536 % 256
def tg3 (x : Int) : Int := x / 16777216 % 256
/-- A slot's tag. -/
def tagf (x s : Int) : Int := if s = 0 then tg0 x else if s = 1 then tg1 x else if s = 2 then tg2 x else if s = 3 then tg3 x else 0
def unit (s : Int) : Int := if s = 0 then 1 else if s = 1 then 256 else if s = 2 then 65536 else if s = 3 then 16777216 else 0
def withf (x s t : Int) : Int := if t < 0 ∨ 255 < t then x else x - tagf x s * unit s + t * (if s < 0 ∨ 3 < s then 0 else unit s)
theorem ands (x : Int) (h1 : 0 ≤ x) (h2 : x < 18446744073709551616) : bits .and .u64 x 255 = tg0 x ∧ bits .and .u64 (x / 256) 255 = tg1 x ∧ bits .and .u64 (x / 65536) 255 = tg2 x ∧ bits .and .u64 (x / 16777216) 255 = tg3 x :=
  ⟨and255 _ h1 h2, and255 _ (by omega) (by omega), and255 _ (by omega) (by omega), and255 _ (by omega) (by omega)⟩
theorem tg_range (x : Int) : (0 ≤ tg0 x ∧ tg0 x ≤ 255) ∧ (0 ≤ tg1 x ∧ tg1 x ≤ 255) ∧ (0 ≤ tg2 x ∧ tg2 x ≤ 255) ∧ (0 ≤ tg3 x ∧ tg3 x ≤ 255) := by
  unfold tg0 tg1 tg2 tg3; omega
theorem parts (x : Int) (w : World) (h1 : 0 ≤ x) (h2 : x < 18446744073709551616) :
    Calls Try.prog 91 #[.int .u64 x] w fun e w' => e = .returned (.agg #[.int .i64 (tg0 x), .int .i64 (tg1 x), .int .i64 (tg2 x), .int .i64 (tg3 x)]) ∧ Below w.heap.size w w' := by
  obtain ⟨e0, e1, e2, e3⟩ := ands x h1 h2
  obtain ⟨⟨a0, b0⟩, ⟨a1, b1⟩, ⟨a2, b2⟩, ⟨a3, b3⟩⟩ := tg_range x
  go_enter Try.func91, Try.ntmps91
  go_wp2_with fail
  refine wp_loop_rounds 5 ?_
  rw [rounds_succ]
  go_wp2
  rw [rounds_succ]
  go_wp2
  rw [rounds_succ]
  go_wp2
  rw [rounds_succ]
  go_wp2
  rw [rounds_succ]
  go_wp2
  refine bodyPost_ret (v := .agg #[.int .i64 (tg0 x), .int .i64 (tg1 x), .int .i64 (tg2 x), .int .i64 (tg3 x)]) (by simp [results, Try.results91, go_sem]) rfl ⟨rfl, ?_⟩
  exact ((Below.refl _ _).alloc (Nat.le_refl _) _).alloc (by simp) _
/-- An array's element. -/
theorem idx4 (a b c d : Value) (w : World) : (Instr.index 176 (.agg #[a, b, c, d]) (.int .i64 0)).run Try.prog w = .ok a w ∧ (Instr.index 176 (.agg #[a, b, c, d]) (.int .i64 1)).run Try.prog w = .ok b w ∧
    (Instr.index 176 (.agg #[a, b, c, d]) (.int .i64 2)).run Try.prog w = .ok c w ∧ (Instr.index 176 (.agg #[a, b, c, d]) (.int .i64 3)).run Try.prog w = .ok d w :=
  ⟨by kernel_rfl, by kernel_rfl, by kernel_rfl, by kernel_rfl⟩
end Go.Proofs.Ytepkpbhhiianpaa
/- Next: Contracts of package tagwords and of its chapter's answers: a tag put, and how many there are. -/
namespace Go.Proofs.Ytepkpbhhiianpaa
open Go.RowKit
set_option linter.unusedVariables false

theorem with_facts (x t : Int) (h1 : 0 ≤ x) (h2 : x < 18446744073709551616) (t1 : 0 ≤ t) (t2 : t ≤ 255) :
    bits .or .u64 (bits .andNot .u64 x 255) t = withf x 0 t ∧ bits .or .u64 (bits .andNot .u64 x 65280) (t * 256) = withf x 1 t ∧
    bits .or .u64 (bits .andNot .u64 x 16711680) (t * 65536) = withf x 2 t ∧ bits .or .u64 (bits .andNot .u64 x 4278190080) (t * 16777216) = withf x 3 t := by
  obtain ⟨X, rfl⟩ := Int.eq_ofNat_of_zero_le h1
  obtain ⟨T, rfl⟩ := Int.eq_ofNat_of_zero_le t1
  have a0 := with_bits X T 0 (by omega) (by omega) (by omega)
  have a1 := with_bits X T 8 (by omega) (by omega) (by omega)
  have a2 := with_bits X T 16 (by omega) (by omega) (by omega)
  have a3 := with_bits X T 24 (by omega) (by omega) (by omega)
  have n : ¬ ((T : Int) < 0 ∨ 255 < (T : Int)) := by omega
  simp only [withf, n, if_false, tagf, unit]
  simp at a0 a1 a2 a3
  refine ⟨?_, ?_, ?_, ?_⟩
  · rw [a0]; simp [tg0]; omega
  · rw [a1]; simp [tg1]; omega
  · rw [a2]; simp [tg2]; omega
  · rw [a3]; simp [tg3]; omega
theorem withf_range (x s t : Int) (h1 : 0 ≤ x) (h2 : x < 18446744073709551616) : 0 ≤ withf x s t ∧ withf x s t < 18446744073709551616 := by
  unfold withf
  split
  · omega
  · unfold tagf unit
    by_cases a : s = 0
    · subst a; simp [tg0]; omega
    by_cases b : s = 1
    · subst b; simp [tg1]; omega
    by_cases c : s = 2
    · subst c; simp [tg2]; omega
    by_cases d : s = 3
    · subst d; simp [tg3]; omega
    have e : s < 0 ∨ 3 < s := by omega
    simp [a, b, c, d, e]; omega
end Go.Proofs.Ytepkpbhhiianpaa
