/- What is stored in an epoch. -/
import Derived.Test.YteofbgbjibbdaacEpMath
namespace Go.Proofs.Yteofbgbjibbdaac
open Go.RowKit
set_option linter.unusedVariables false

theorem storedw (x d : Int) (w : World) (h1 : 0 ≤ x) (h2 : x < 18446744073709551616) (e1 : d ≤ 9223372036854775807) :
    Calls Try.prog 15 #[.int .u64 x, .int .i64 d] w fun e w' => e = .returned (.agg #[.string ⟨#[]⟩, .string ⟨#[]⟩, .int .u32 0, .int .u64 0, .int .i64 (diesf x d), .int .i64 (genf x)]) ∧ Below w.heap.size w w' := by
  have hN : w.heap.size ≤ w.heap.size := Nat.le_refl _
  go_enter Try.func15, Try.ntmps15
  go_wp2_with fail
  refine (genw _ _ h1 h2).mono ?_
  rintro e w1 ⟨rfl, hk1⟩
  go_wp2_with fail
  refine (diesw _ _ _ h1 h2 e1).mono ?_
  rintro e w2 ⟨rfl, hk2⟩
  have hk := hk1.trans (hk2.mono hk1.size)
  have hs : w.heap.size < w2.heap.size := by have := hk.size; simp at this; omega
  have hb : Below w.heap.size w w2 := ((Below.refl _ _).alloc (Nat.le_refl _) _).trans (hk.mono (by simp))
  have d0 : w2.cell? ⟨w.heap.size, 0, none⟩ = some (.string ⟨#[]⟩) := (hk.cell (p := ⟨w.heap.size, 0, none⟩) (by simp)).trans (by simp)
  have d1 : w2.cell? ⟨w.heap.size, 1, none⟩ = some (.string ⟨#[]⟩) := (hk.cell (p := ⟨w.heap.size, 1, none⟩) (by simp)).trans (by simp)
  have d2 : w2.cell? ⟨w.heap.size, 2, none⟩ = some (.int .u32 0) := (hk.cell (p := ⟨w.heap.size, 2, none⟩) (by simp)).trans (by simp)
  have d3 : w2.cell? ⟨w.heap.size, 3, none⟩ = some (.int .u64 0) := (hk.cell (p := ⟨w.heap.size, 3, none⟩) (by simp)).trans (by simp)
  have d4 : w2.cell? ⟨w.heap.size, 4, none⟩ = some (.int .i64 0) := (hk.cell (p := ⟨w.heap.size, 4, none⟩) (by simp)).trans (by simp)
  have d5 : w2.cell? ⟨w.heap.size, 5, none⟩ = some (.int .i64 0) := (hk.cell (p := ⟨w.heap.size, 5, none⟩) (by simp)).trans (by simp)
  have u : ∀ j, w2.frozen? ⟨w.heap.size, j, none⟩ = false := fun j => (hk.frozen (p := ⟨w.heap.size, j, none⟩) (by simp)).trans (by simp)
  have u0 := u 0
  have u1 := u 1
  have u2 := u 2
  have u3 := u 3
  have u4 := u 4
  have u5 := u 5
  clear u hk1 hk2 hk
  go_wp2_with fail
  refine bodyPost_ret (v := .agg #[.string ⟨#[]⟩, .string ⟨#[]⟩, .int .u32 0, .int .u64 0, .int .i64 (diesf x d), .int .i64 (genf x)]) (by simp [results, Try.results15, go_sem, d0, d1, d2, d3, d4, d5]) rfl ⟨rfl, ?_⟩
  exact (((((hb.setCell (by simp) _).setCell (by simp) _).setCell (by simp) _).setCell (by simp) _).setCell (by simp) _).setCell (by simp) _
end Go.Proofs.Yteofbgbjibbdaac
