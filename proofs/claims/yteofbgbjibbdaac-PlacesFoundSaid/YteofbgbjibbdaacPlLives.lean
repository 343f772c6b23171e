/- The examples of chapter 8. -/
import Derived.Test.YteofbgbjibbdaacPl3
namespace Go.Proofs.Yteofbgbjibbdaac
open Go.RowKit
set_option linter.unusedVariables false

theorem lives08 (w : World) : Calls Try.prog 31 #[] w fun e w' => e = .returned (.bool true) ∧ Below w.heap.size w w' := by
  have a1 : asO 1284 = 4 := by decide
  have a2 : asN 1284 = 5 := by decide
  have a3 : asO 1540 = 4 := by decide
  have a4 : asN 1540 = 0 := by decide
  have a5 : asO 0 = 1 := by decide
  have a6 : asN 0 = 0 := by decide
  have t1 : tagsf 4 5 = 4264 := by decide
  have t2 : itemf 4 5 2 = 4267 := by decide
  have t3 : reff 9 = 4294967305 := by decide
  have s1 : spotsf 4 = 64 := by decide
  have s2 : spotsf 1284 = 192 := by decide
  have e1 : aB 1284 70 = 5 := by decide
  have e2 : aK 1284 70 = 1 := by decide
  have e3 : aS 1284 70 = 2 := by decide
  have y1 : mayf 2 8 2 = true := by decide
  have y2 : mayf 2 8 4 = false := by decide
  go_enter Try.func31, Try.ntmps31
  go_wp2_with fail
  refine (asw 1284 _ (by decide) (by decide)).mono ?_
  rintro e w1 ⟨rfl, k1⟩
  go_wp2_with fail
  refine (asw 1540 _ (by decide) (by decide)).mono ?_
  rintro e w2 ⟨rfl, k2⟩
  go_wp2_with fail
  refine (asw 0 _ (by decide) (by decide)).mono ?_
  rintro e w3 ⟨rfl, k3⟩
  go_wp2_with fail
  refine (tagsw 4 5 _).mono ?_
  rintro e w4 ⟨rfl, k4⟩
  have l4 : w3.heap.size < (w3.alloc (Obj.cells #[Value.int IntKind.i64 4, Value.int IntKind.i64 5] 39)).heap.size := by simp
  have c0 : w4.cell? { block := w3.heap.size, off := 0 } = some (.int .i64 4) := (k4.cell (p := { block := w3.heap.size, off := 0 }) l4).trans (by simp)
  have c1 : w4.cell? { block := w3.heap.size, off := 1 } = some (.int .i64 5) := (k4.cell (p := { block := w3.heap.size, off := 1 }) l4).trans (by simp)
  go_wp2_with fail
  refine (itemw 4 5 2 _).mono ?_
  rintro e w5 ⟨rfl, k5⟩
  go_wp2_with fail
  refine (refw 9 _ (by decide)).mono ?_
  rintro e w6 ⟨rfl, rfl⟩
  go_wp2_with fail
  refine (spotsw 4 _ (by decide) (by decide)).mono ?_
  rintro e w6 ⟨rfl, k6⟩
  go_wp2_with fail
  refine (spotsw 1284 _ (by decide) (by decide)).mono ?_
  rintro e w7 ⟨rfl, k7⟩
  go_wp2_with fail
  refine (atw8 1284 70 _ (by decide) (by decide) (by decide) (by decide)).mono ?_
  rintro e w8 ⟨rfl, k8⟩
  go_wp2_with (first | (go_at_call 42; refine (mayw _ _ _ _).mono ?_; rintro e w9 ⟨rfl, rfl⟩))
  go_ret
  exact ⟨rfl, (k1.trans (k2.mono k1.size)).trans (below_then k3 (below_then (box_out (by simp) k4) (below_then k5 (below_then k6 (below_then k7 k8)))) |>.mono (k1.trans (k2.mono k1.size)).size)⟩
end Go.Proofs.Yteofbgbjibbdaac
