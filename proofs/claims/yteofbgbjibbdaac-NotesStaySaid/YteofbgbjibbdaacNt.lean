/- Contracts of package notes: names, whether a kind is one. -/
import Derived.Test.YteofbgbjibbdaacChecked
import Derived.Test.YteofbgbjibbdaacLib
namespace Go.Proofs.Yteofbgbjibbdaac
open Go.RowKit
set_option linter.unusedVariables false

def iskf (k : Int) : Bool := decide (1 ≤ k) && decide (k ≤ 9)
theorem iskw (k : Int) (w : World) : Calls Try.prog 90 #[.int .u8 k] w fun e w' => e = .returned (.bool (iskf k)) ∧ w = w' := by
  have h : (k < 1 ∧ iskf k = false) ∨ (1 ≤ k ∧ k ≤ 9 ∧ iskf k = true) ∨ (1 ≤ k ∧ 9 < k ∧ iskf k = false) := by unfold iskf; simp; omega
  obtain ⟨r, hr⟩ : ∃ r, iskf k = r := ⟨_, rfl⟩
  rw [hr] at h ⊢
  clear hr
  rcases h with ⟨h1, rfl⟩ | ⟨h1, h2, rfl⟩ | ⟨h1, h2, rfl⟩
  all_goals
    go_enter Try.func90, Try.ntmps90
    go_wp2_with fail
    go_ret
    exact ⟨ret_bool (by simp <;> omega), rfl⟩
theorem namesw (w : World) : Calls Try.prog 96 #[] w fun e w' => e = .returned (.agg #[.string ⟨#[63]⟩, .string ⟨#[101, 118, 105, 99, 116]⟩, .string ⟨#[102, 97, 105, 108]⟩, .string ⟨#[102, 117, 108, 108]⟩, .string ⟨#[103, 114, 111, 119]⟩, .string ⟨#[115, 119, 97, 112]⟩, .string ⟨#[114, 101, 116, 114, 121]⟩, .string ⟨#[108, 111, 99, 107, 101, 100]⟩, .string ⟨#[104, 97, 110, 100]⟩, .string ⟨#[116, 105, 99, 107]⟩]) ∧ Below w.heap.size w w' := by
  go_enter Try.func96, Try.ntmps96
  go_wp2_with fail
  refine bodyPost_ret (v := .agg #[.string ⟨#[63]⟩, .string ⟨#[101, 118, 105, 99, 116]⟩, .string ⟨#[102, 97, 105, 108]⟩, .string ⟨#[102, 117, 108, 108]⟩, .string ⟨#[103, 114, 111, 119]⟩, .string ⟨#[115, 119, 97, 112]⟩, .string ⟨#[114, 101, 116, 114, 121]⟩, .string ⟨#[108, 111, 99, 107, 101, 100]⟩, .string ⟨#[104, 97, 110, 100]⟩, .string ⟨#[116, 105, 99, 107]⟩]) (by simp [results, Try.results96, go_sem]) rfl ⟨rfl, ?_⟩
  exact (Below.refl w.heap.size w).alloc (Nat.le_refl _) _
theorem nidx_0 (w : World) : (Instr.index 126 (.agg #[.string ⟨#[63]⟩, .string ⟨#[101, 118, 105, 99, 116]⟩, .string ⟨#[102, 97, 105, 108]⟩, .string ⟨#[102, 117, 108, 108]⟩, .string ⟨#[103, 114, 111, 119]⟩, .string ⟨#[115, 119, 97, 112]⟩, .string ⟨#[114, 101, 116, 114, 121]⟩, .string ⟨#[108, 111, 99, 107, 101, 100]⟩, .string ⟨#[104, 97, 110, 100]⟩, .string ⟨#[116, 105, 99, 107]⟩]) (.int .u8 0)).run Try.prog w = .ok (.string ⟨#[63]⟩) w := by kernel_rfl
theorem nidx_1 (w : World) : (Instr.index 126 (.agg #[.string ⟨#[63]⟩, .string ⟨#[101, 118, 105, 99, 116]⟩, .string ⟨#[102, 97, 105, 108]⟩, .string ⟨#[102, 117, 108, 108]⟩, .string ⟨#[103, 114, 111, 119]⟩, .string ⟨#[115, 119, 97, 112]⟩, .string ⟨#[114, 101, 116, 114, 121]⟩, .string ⟨#[108, 111, 99, 107, 101, 100]⟩, .string ⟨#[104, 97, 110, 100]⟩, .string ⟨#[116, 105, 99, 107]⟩]) (.int .u8 1)).run Try.prog w = .ok (.string ⟨#[101, 118, 105, 99, 116]⟩) w := by kernel_rfl
theorem nidx_2 (w : World) : (Instr.index 126 (.agg #[.string ⟨#[63]⟩, .string ⟨#[101, 118, 105, 99, 116]⟩, .string ⟨#[102, 97, 105, 108]⟩, .string ⟨#[102, 117, 108, 108]⟩, .string ⟨#[103, 114, 111, 119]⟩, .string ⟨#[115, 119, 97, 112]⟩, .string ⟨#[114, 101, 116, 114, 121]⟩, .string ⟨#[108, 111, 99, 107, 101, 100]⟩, .string ⟨#[104, 97, 110, 100]⟩, .string ⟨#[116, 105, 99, 107]⟩]) (.int .u8 2)).run Try.prog w = .ok (.string ⟨#[102, 97, 105, 108]⟩) w := by kernel_rfl
theorem nidx_3 (w : World) : (Instr.index 126 (.agg #[.string ⟨#[63]⟩, .string ⟨#[101, 118, 105, 99, 116]⟩, .string ⟨#[102, 97, 105, 108]⟩, .string ⟨#[102, 117, 108, 108]⟩, .string ⟨#[103, 114, 111, 119]⟩, .string ⟨#[115, 119, 97, 112]⟩, .string ⟨#[114, 101, 116, 114, 121]⟩, .string ⟨#[108, 111, 99, 107, 101, 100]⟩, .string ⟨#[104, 97, 110, 100]⟩, .string ⟨#[116, 105, 99, 107]⟩]) (.int .u8 3)).run Try.prog w = .ok (.string ⟨#[102, 117, 108, 108]⟩) w := by kernel_rfl
theorem nidx_4 (w : World) : (Instr.index 126 (.agg #[.string ⟨#[63]⟩, .string ⟨#[101, 118, 105, 99, 116]⟩, .string ⟨#[102, 97, 105, 108]⟩, .string ⟨#[102, 117, 108, 108]⟩, .string ⟨#[103, 114, 111, 119]⟩, .string ⟨#[115, 119, 97, 112]⟩, .string ⟨#[114, 101, 116, 114, 121]⟩, .string ⟨#[108, 111, 99, 107, 101, 100]⟩, .string ⟨#[104, 97, 110, 100]⟩, .string ⟨#[116, 105, 99, 107]⟩]) (.int .u8 4)).run Try.prog w = .ok (.string ⟨#[103, 114, 111, 119]⟩) w := by kernel_rfl
theorem nidx_5 (w : World) : (Instr.index 126 (.agg #[.string ⟨#[63]⟩, .string ⟨#[101, 118, 105, 99, 116]⟩, .string ⟨#[102, 97, 105, 108]⟩, .string ⟨#[102, 117, 108, 108]⟩, .string ⟨#[103, 114, 111, 119]⟩, .string ⟨#[115, 119, 97, 112]⟩, .string ⟨#[114, 101, 116, 114, 121]⟩, .string ⟨#[108, 111, 99, 107, 101, 100]⟩, .string ⟨#[104, 97, 110, 100]⟩, .string ⟨#[116, 105, 99, 107]⟩]) (.int .u8 5)).run Try.prog w = .ok (.string ⟨#[115, 119, 97, 112]⟩) w := by kernel_rfl
theorem nidx_6 (w : World) : (Instr.index 126 (.agg #[.string ⟨#[63]⟩, .string ⟨#[101, 118, 105, 99, 116]⟩, .string ⟨#[102, 97, 105, 108]⟩, .string ⟨#[102, 117, 108, 108]⟩, .string ⟨#[103, 114, 111, 119]⟩, .string ⟨#[115, 119, 97, 112]⟩, .string ⟨#[114, 101, 116, 114, 121]⟩, .string ⟨#[108, 111, 99, 107, 101, 100]⟩, .string ⟨#[104, 97, 110, 100]⟩, .string ⟨#[116, 105, 99, 107]⟩]) (.int .u8 6)).run Try.prog w = .ok (.string ⟨#[114, 101, 116, 114, 121]⟩) w := by kernel_rfl
theorem nidx_7 (w : World) : (Instr.index 126 (.agg #[.string ⟨#[63]⟩, .string ⟨#[101, 118, 105, 99, 116]⟩, .string ⟨#[102, 97, 105, 108]⟩, .string ⟨#[102, 117, 108, 108]⟩, .string ⟨#[103, 114, 111, 119]⟩, .string ⟨#[115, 119, 97, 112]⟩, .string ⟨#[114, 101, 116, 114, 121]⟩, .string ⟨#[108, 111, 99, 107, 101, 100]⟩, .string ⟨#[104, 97, 110, 100]⟩, .string ⟨#[116, 105, 99, 107]⟩]) (.int .u8 7)).run Try.prog w = .ok (.string ⟨#[108, 111, 99, 107, 101, 100]⟩) w := by kernel_rfl
theorem nidx_8 (w : World) : (Instr.index 126 (.agg #[.string ⟨#[63]⟩, .string ⟨#[101, 118, 105, 99, 116]⟩, .string ⟨#[102, 97, 105, 108]⟩, .string ⟨#[102, 117, 108, 108]⟩, .string ⟨#[103, 114, 111, 119]⟩, .string ⟨#[115, 119, 97, 112]⟩, .string ⟨#[114, 101, 116, 114, 121]⟩, .string ⟨#[108, 111, 99, 107, 101, 100]⟩, .string ⟨#[104, 97, 110, 100]⟩, .string ⟨#[116, 105, 99, 107]⟩]) (.int .u8 8)).run Try.prog w = .ok (.string ⟨#[104, 97, 110, 100]⟩) w := by kernel_rfl
theorem nidx_9 (w : World) : (Instr.index 126 (.agg #[.string ⟨#[63]⟩, .string ⟨#[101, 118, 105, 99, 116]⟩, .string ⟨#[102, 97, 105, 108]⟩, .string ⟨#[102, 117, 108, 108]⟩, .string ⟨#[103, 114, 111, 119]⟩, .string ⟨#[115, 119, 97, 112]⟩, .string ⟨#[114, 101, 116, 114, 121]⟩, .string ⟨#[108, 111, 99, 107, 101, 100]⟩, .string ⟨#[104, 97, 110, 100]⟩, .string ⟨#[116, 105, 99, 107]⟩]) (.int .u8 9)).run Try.prog w = .ok (.string ⟨#[116, 105, 99, 107]⟩) w := by kernel_rfl
theorem namew_0 (w : World) : Calls Try.prog 67 #[.int .u8 0] w fun e w' => e = .returned (.string ⟨#[63]⟩) ∧ Below w.heap.size w w' := by
  have hi : iskf 0 = false := by decide
  have hx := nidx_0
  go_enter Try.func67, Try.ntmps67
  go_wp2_with (go_at_call 90; refine (iskw _ _).mono ?_; rintro e w1 ⟨rfl, rfl⟩)
  refine (namesw _).mono ?_
  rintro e w1 ⟨rfl, hk⟩
  go_wp2_with fail
  go_ret
  exact ⟨rfl, hk⟩
theorem namew_1 (w : World) : Calls Try.prog 67 #[.int .u8 1] w fun e w' => e = .returned (.string ⟨#[101, 118, 105, 99, 116]⟩) ∧ Below w.heap.size w w' := by
  have hi : iskf 1 = true := by decide
  have hx := nidx_1
  go_enter Try.func67, Try.ntmps67
  go_wp2_with (go_at_call 90; refine (iskw _ _).mono ?_; rintro e w1 ⟨rfl, rfl⟩)
  refine (namesw _).mono ?_
  rintro e w1 ⟨rfl, hk⟩
  go_wp2_with fail
  go_ret
  exact ⟨rfl, hk⟩
theorem namew_2 (w : World) : Calls Try.prog 67 #[.int .u8 2] w fun e w' => e = .returned (.string ⟨#[102, 97, 105, 108]⟩) ∧ Below w.heap.size w w' := by
  have hi : iskf 2 = true := by decide
  have hx := nidx_2
  go_enter Try.func67, Try.ntmps67
  go_wp2_with (go_at_call 90; refine (iskw _ _).mono ?_; rintro e w1 ⟨rfl, rfl⟩)
  refine (namesw _).mono ?_
  rintro e w1 ⟨rfl, hk⟩
  go_wp2_with fail
  go_ret
  exact ⟨rfl, hk⟩
theorem namew_3 (w : World) : Calls Try.prog 67 #[.int .u8 3] w fun e w' => e = .returned (.string ⟨#[102, 117, 108, 108]⟩) ∧ Below w.heap.size w w' := by
  have hi : iskf 3 = true := by decide
  have hx := nidx_3
  go_enter Try.func67, Try.ntmps67
  go_wp2_with (go_at_call 90; refine (iskw _ _).mono ?_; rintro e w1 ⟨rfl, rfl⟩)
  refine (namesw _).mono ?_
  rintro e w1 ⟨rfl, hk⟩
  go_wp2_with fail
  go_ret
  exact ⟨rfl, hk⟩
theorem namew_4 (w : World) : Calls Try.prog 67 #[.int .u8 4] w fun e w' => e = .returned (.string ⟨#[103, 114, 111, 119]⟩) ∧ Below w.heap.size w w' := by
  have hi : iskf 4 = true := by decide
  have hx := nidx_4
  go_enter Try.func67, Try.ntmps67
  go_wp2_with (go_at_call 90; refine (iskw _ _).mono ?_; rintro e w1 ⟨rfl, rfl⟩)
  refine (namesw _).mono ?_
  rintro e w1 ⟨rfl, hk⟩
  go_wp2_with fail
  go_ret
  exact ⟨rfl, hk⟩
theorem namew_5 (w : World) : Calls Try.prog 67 #[.int .u8 5] w fun e w' => e = .returned (.string ⟨#[115, 119, 97, 112]⟩) ∧ Below w.heap.size w w' := by
  have hi : iskf 5 = true := by decide
  have hx := nidx_5
  go_enter Try.func67, Try.ntmps67
  go_wp2_with (go_at_call 90; refine (iskw _ _).mono ?_; rintro e w1 ⟨rfl, rfl⟩)
  refine (namesw _).mono ?_
  rintro e w1 ⟨rfl, hk⟩
  go_wp2_with fail
  go_ret
  exact ⟨rfl, hk⟩
theorem namew_6 (w : World) : Calls Try.prog 67 #[.int .u8 6] w fun e w' => e = .returned (.string ⟨#[114, 101, 116, 114, 121]⟩) ∧ Below w.heap.size w w' := by
  have hi : iskf 6 = true := by decide
  have hx := nidx_6
  go_enter Try.func67, Try.ntmps67
  go_wp2_with (go_at_call 90; refine (iskw _ _).mono ?_; rintro e w1 ⟨rfl, rfl⟩)
  refine (namesw _).mono ?_
  rintro e w1 ⟨rfl, hk⟩
  go_wp2_with fail
  go_ret
  exact ⟨rfl, hk⟩
theorem namew_7 (w : World) : Calls Try.prog 67 #[.int .u8 7] w fun e w' => e = .returned (.string ⟨#[108, 111, 99, 107, 101, 100]⟩) ∧ Below w.heap.size w w' := by
  have hi : iskf 7 = true := by decide
  have hx := nidx_7
  go_enter Try.func67, Try.ntmps67
  go_wp2_with (go_at_call 90; refine (iskw _ _).mono ?_; rintro e w1 ⟨rfl, rfl⟩)
  refine (namesw _).mono ?_
  rintro e w1 ⟨rfl, hk⟩
  go_wp2_with fail
  go_ret
  exact ⟨rfl, hk⟩
theorem namew_8 (w : World) : Calls Try.prog 67 #[.int .u8 8] w fun e w' => e = .returned (.string ⟨#[104, 97, 110, 100]⟩) ∧ Below w.heap.size w w' := by
  have hi : iskf 8 = true := by decide
  have hx := nidx_8
  go_enter Try.func67, Try.ntmps67
  go_wp2_with (go_at_call 90; refine (iskw _ _).mono ?_; rintro e w1 ⟨rfl, rfl⟩)
  refine (namesw _).mono ?_
  rintro e w1 ⟨rfl, hk⟩
  go_wp2_with fail
  go_ret
  exact ⟨rfl, hk⟩
theorem namew_9 (w : World) : Calls Try.prog 67 #[.int .u8 9] w fun e w' => e = .returned (.string ⟨#[116, 105, 99, 107]⟩) ∧ Below w.heap.size w w' := by
  have hi : iskf 9 = true := by decide
  have hx := nidx_9
  go_enter Try.func67, Try.ntmps67
  go_wp2_with (go_at_call 90; refine (iskw _ _).mono ?_; rintro e w1 ⟨rfl, rfl⟩)
  refine (namesw _).mono ?_
  rintro e w1 ⟨rfl, hk⟩
  go_wp2_with fail
  go_ret
  exact ⟨rfl, hk⟩
theorem namew_out (k : Int) (w : World) (h : 9 < k) : Calls Try.prog 67 #[.int .u8 k] w fun e w' => e = .returned (.string ⟨#[63]⟩) ∧ Below w.heap.size w w' := by
  have hi : iskf k = false := by unfold iskf; simp; omega
  have hx := nidx_0
  go_enter Try.func67, Try.ntmps67
  go_wp2_with (go_at_call 90; refine (iskw _ _).mono ?_; rintro e w1 ⟨rfl, rfl⟩)
  refine (namesw _).mono ?_
  rintro e w1 ⟨rfl, hk⟩
  go_wp2_with fail
  go_ret
  exact ⟨rfl, hk⟩
end Go.Proofs.Yteofbgbjibbdaac
