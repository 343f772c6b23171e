/- The chapter's growths and swaps: how they begin. -/
import Derived.Test.YtepkpbhhiianpaaGreatGw2
namespace Go.Proofs.YtepkpbhhiianpaaGreat
open Go.RowKit Go.Maps
set_option linter.unusedVariables false
/-- What is as New asks. -/
theorem rnewGrow (t : Int) (w : World) (ht : isU t) {l z : Int} (hl : (asN t = 0 ∧ asO t ≠ 12 ∧ l = 1 ∧ z = asO t) ∨ ((asN t ≠ 0 ∨ asO t = 12) ∧ l = 0 ∧ z = 0)) : Calls Tryz.prog 24 #[.int .u64 t] w fun e w' => e = .returned (.pointer (some ⟨w.heap.size, 0, none⟩)) ∧ w' = w.alloc (.cells #[.int .i64 l, .int .i64 z] 71) := by
  have CA := Lib.hid (fun W => ras t W ht.1 (by have := ht.2; omega))
  have hr := as_range t
  clear ht
  generalize asO t = o at *
  generalize asN t = n at *
  rcases hl with ⟨rfl, h12, rfl, rfl⟩ | ⟨hc, rfl, rfl⟩
  · have e1 : (z == 12) = false := by simp [h12]
    clear hr h12
    go_enter Tryz.func24, Tryz.ntmps24
    go_wp2_with (go_at_call 75; ((with_reducible refine (CA.out _).mono ?_); rintro e w1 ⟨rfl, rfl⟩))
    go_ret
    exact ⟨rfl, rfl⟩
  · by_cases c : n = 0
    · subst c
      have ho : o = 12 := by omega
      subst ho
      clear hc hr
      go_enter Tryz.func24, Tryz.ntmps24
      go_wp2_with (go_at_call 75; ((with_reducible refine (CA.out _).mono ?_); rintro e w1 ⟨rfl, rfl⟩))
      go_ret
      exact ⟨rfl, rfl⟩
    · have e1 : decide (0 < n) = true := decide_eq_true (by omega)
      clear hc hr c
      go_enter Tryz.func24, Tryz.ntmps24
      go_wp2_with (go_at_call 75; ((with_reducible refine (CA.out _).mono ?_); rintro e w1 ⟨rfl, rfl⟩))
      go_ret
      exact ⟨rfl, rfl⟩
theorem rnewSwap (t : Int) (w : World) (ht : isU t) {l z : Int} (hl : (asN t ≠ 0 ∧ l = 1 ∧ z = asN t) ∨ (asN t = 0 ∧ l = 0 ∧ z = 0)) : Calls Tryz.prog 27 #[.int .u64 t] w fun e w' => e = .returned (.pointer (some ⟨w.heap.size, 0, none⟩)) ∧ w' = w.alloc (.cells #[.int .i64 l, .int .i64 z] 75) := by
  have CA := Lib.hid (fun W => ras t W ht.1 (by have := ht.2; omega))
  clear ht
  generalize asO t = o at *
  generalize asN t = n at *
  rcases hl with ⟨h0, rfl, rfl⟩ | ⟨rfl, rfl, rfl⟩
  · have e1 : (z == 0) = false := by simp [h0]
    clear h0
    go_enter Tryz.func27, Tryz.ntmps27
    go_wp2_with (go_at_call 75; ((with_reducible refine (CA.out _).mono ?_); rintro e w1 ⟨rfl, rfl⟩))
    go_ret
    exact ⟨rfl, rfl⟩
  · go_enter Tryz.func27, Tryz.ntmps27
    go_wp2_with (go_at_call 75; ((with_reducible refine (CA.out _).mono ?_); rintro e w1 ⟨rfl, rfl⟩))
    go_ret
    exact ⟨rfl, rfl⟩
end Go.Proofs.YtepkpbhhiianpaaGreat
