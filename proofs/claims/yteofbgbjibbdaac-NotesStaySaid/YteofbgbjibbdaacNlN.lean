/- A list of notes that is not there; the chapter's names. -/
import Derived.Test.YteofbgbjibbdaacNlO
import Derived.Test.YteofbgbjibbdaacNlV
namespace Go.Proofs.Yteofbgbjibbdaac
open Go.RowKit
set_option linter.unusedVariables false

theorem none_count (w : World) : Calls Try.prog 57 #[.pointer none] w fun e w' => e = .returned (.int .i64 0) ∧ w = w' := by
  go_enter Try.func57, Try.ntmps57
  go_wp2
  go_ret
  exact ⟨rfl, rfl⟩
theorem none_add (w : World) (s th k r b c d v : Int) : Calls Try.prog 54 #[.pointer none, .agg #[.int .i64 s, .int .i64 th, .int .u8 k, .int .i64 r, .int .i64 b, .int .i64 c, .int .i64 d, .int .i64 v]] w fun e w' => e = .returned (.int .i64 2) ∧ Below w.heap.size w w' := by
  go_enter Try.func54, Try.ntmps54
  go_wp2
  go_ret
  exact ⟨rfl, (Below.refl _ _).alloc (Nat.le_refl _) _⟩
theorem none_since (w : World) (z : Int) : Calls Try.prog 58 #[.pointer none, .int .i64 z] w fun e w' => e = .returned (.slice none 0 0) ∧ w = w' := by
  go_enter Try.func58, Try.ntmps58
  go_wp2
  go_ret
  exact ⟨rfl, rfl⟩
theorem none_all (w : World) : Calls Try.prog 60 #[.pointer none] w fun e w' => e = .returned (.slice none 0 0) ∧ w = w' := by
  go_enter Try.func60, Try.ntmps60
  go_wp2_with (go_at_call 58; refine (none_since _ _).mono ?_; rintro e w1 ⟨rfl, rfl⟩)
  go_ret
  exact ⟨rfl, rfl⟩
theorem none_where (w : World) (f : Value) : Calls Try.prog 93 #[.pointer none, f] w fun e w' => e = .returned (.slice none 0 0) ∧ w = w' := by
  go_enter Try.func93, Try.ntmps93
  go_wp2
  go_ret
  exact ⟨rfl, rfl⟩
theorem none_dropped (w : World) (ref : Int) : Calls Try.prog 65 #[.pointer none, .int .i64 ref] w fun e w' => e = .returned (.tuple #[.int .i64 0, .bool false]) ∧ Below w.heap.size w w' := by
  have hb0 : Below w.heap.size w (w.alloc (.cells #[.int .i64 ref] 3)) := (Below.refl _ _).alloc (Nat.le_refl _) _
  go_enter Try.func65, Try.ntmps65
  go_wp2_with (go_at_call 93; refine (none_where _ _).mono ?_; rintro e w1 ⟨rfl, rfl⟩)
  go_ret2
  exact ⟨rfl, hb0⟩
theorem none_of (w : World) (kk : Int) : Calls Try.prog 59 #[.pointer none, .int .u8 kk] w fun e w' => e = .returned (.slice none 0 0) ∧ Below w.heap.size w w' := by
  have hb0 : Below w.heap.size w (w.alloc (.cells #[.int .u8 kk] 78)) := (Below.refl _ _).alloc (Nat.le_refl _) _
  go_enter Try.func59, Try.ntmps59
  go_wp2_with (go_at_call 93; refine (none_where _ _).mono ?_; rintro e w1 ⟨rfl, rfl⟩)
  refine wp_loop_rounds 1 ?_
  rw [rounds_succ]
  go_wp2_with fail
  refine (clipn none 0 0 _ (by omega) (by unfold maxLen; omega) (fun _ => ⟨rfl, rfl⟩)).mono ?_
  rintro e w2 ⟨rfl, rfl⟩
  go_wp2_with fail
  go_ret
  exact ⟨rfl, hb0⟩
theorem rname_1 (w : World) : Calls Try.prog 68 #[.int .i64 1] w fun e w' => e = .returned (.string ⟨#[101, 118, 105, 99, 116]⟩) ∧ w = w' := by
  go_enter Try.func68, Try.ntmps68
  go_wp2
  go_ret
  exact ⟨rfl, rfl⟩
theorem rname_2 (w : World) : Calls Try.prog 68 #[.int .i64 2] w fun e w' => e = .returned (.string ⟨#[102, 97, 105, 108]⟩) ∧ w = w' := by
  go_enter Try.func68, Try.ntmps68
  go_wp2
  go_ret
  exact ⟨rfl, rfl⟩
theorem rname_3 (w : World) : Calls Try.prog 68 #[.int .i64 3] w fun e w' => e = .returned (.string ⟨#[102, 117, 108, 108]⟩) ∧ w = w' := by
  go_enter Try.func68, Try.ntmps68
  go_wp2
  go_ret
  exact ⟨rfl, rfl⟩
theorem rname_4 (w : World) : Calls Try.prog 68 #[.int .i64 4] w fun e w' => e = .returned (.string ⟨#[103, 114, 111, 119]⟩) ∧ w = w' := by
  go_enter Try.func68, Try.ntmps68
  go_wp2
  go_ret
  exact ⟨rfl, rfl⟩
theorem rname_5 (w : World) : Calls Try.prog 68 #[.int .i64 5] w fun e w' => e = .returned (.string ⟨#[115, 119, 97, 112]⟩) ∧ w = w' := by
  go_enter Try.func68, Try.ntmps68
  go_wp2
  go_ret
  exact ⟨rfl, rfl⟩
theorem rname_6 (w : World) : Calls Try.prog 68 #[.int .i64 6] w fun e w' => e = .returned (.string ⟨#[114, 101, 116, 114, 121]⟩) ∧ w = w' := by
  go_enter Try.func68, Try.ntmps68
  go_wp2
  go_ret
  exact ⟨rfl, rfl⟩
theorem rname_7 (w : World) : Calls Try.prog 68 #[.int .i64 7] w fun e w' => e = .returned (.string ⟨#[108, 111, 99, 107, 101, 100]⟩) ∧ w = w' := by
  go_enter Try.func68, Try.ntmps68
  go_wp2
  go_ret
  exact ⟨rfl, rfl⟩
theorem rname_8 (w : World) : Calls Try.prog 68 #[.int .i64 8] w fun e w' => e = .returned (.string ⟨#[104, 97, 110, 100]⟩) ∧ w = w' := by
  go_enter Try.func68, Try.ntmps68
  go_wp2
  go_ret
  exact ⟨rfl, rfl⟩
theorem rname_9 (w : World) : Calls Try.prog 68 #[.int .i64 9] w fun e w' => e = .returned (.string ⟨#[116, 105, 99, 107]⟩) ∧ w = w' := by
  go_enter Try.func68, Try.ntmps68
  go_wp2
  go_ret
  exact ⟨rfl, rfl⟩
theorem rname_else (w : World) (k : Int) (h : k < 1 ∨ 9 < k) : Calls Try.prog 68 #[.int .i64 k] w fun e w' => e = .returned (.string ⟨#[63]⟩) ∧ w = w' := by
  have b1 : (k == 1) = false := beq_eq_false_iff_ne.mpr (by omega)
  have b2 : (k == 2) = false := beq_eq_false_iff_ne.mpr (by omega)
  have b3 : (k == 3) = false := beq_eq_false_iff_ne.mpr (by omega)
  have b4 : (k == 4) = false := beq_eq_false_iff_ne.mpr (by omega)
  have b5 : (k == 5) = false := beq_eq_false_iff_ne.mpr (by omega)
  have b6 : (k == 6) = false := beq_eq_false_iff_ne.mpr (by omega)
  have b7 : (k == 7) = false := beq_eq_false_iff_ne.mpr (by omega)
  have b8 : (k == 8) = false := beq_eq_false_iff_ne.mpr (by omega)
  have b9 : (k == 9) = false := beq_eq_false_iff_ne.mpr (by omega)
  clear h
  go_enter Try.func68, Try.ntmps68
  go_wp2
  go_ret
  exact ⟨rfl, rfl⟩
end Go.Proofs.Yteofbgbjibbdaac
