/- Touches that are over, and such as are not there. -/
import Derived.Test.YtmdofhdjikapgaaGreatTo4
namespace Go.Proofs.YtmdofhdjikapgaaGreat
open Go.RowKit Go.Maps
set_option linter.unusedVariables false
theorem over_nil (w : World) : Calls Tryz.prog 22 #[.pointer none] w fun e w' => e = .returned (.bool true) ∧ w = w' := by
  go_enter Tryz.func22, Tryz.ntmps22
  go_wp2_with fail
  go_ret
  exact ⟨rfl, rfl⟩
theorem done_nil (w : World) : Calls Tryz.prog 23 #[.pointer none] w fun e w' => e = .returned (.bool false) ∧ w = w' := by
  go_enter Tryz.func23, Tryz.ntmps23
  go_wp2_with fail
  go_ret
  exact ⟨rfl, rfl⟩
/-- A touch that is over, or is not there. -/
def OvT (w : World) (v : Value) : Prop := v = .pointer none ∨ ∃ q mark word, v = .pointer (some ⟨q, 0, none⟩) ∧ IsTo w q mark word 0 false
theorem OvT.keep {w W : World} {v : Value} {T : Nat → Prop} (h : OvT w v) (hk : Keeps T w W) (hT : ∀ q, v = .pointer (some ⟨q, 0, none⟩) → ¬ T q) : OvT W v := by
  rcases h with h | ⟨q, mark, word, rfl, h⟩
  · exact .inl h
  · exact .inr ⟨q, mark, word, rfl, h.keep hk (hT q rfl)⟩
theorem OvT.new {w W : World} {v : Value} (h : OvT w v) (hb : Below w.heap.size w W) : OvT W v := h.keep (T := fun _ => False) (Keeps.of_new hb) (fun _ _ s => s)
theorem OvT.lt {w : World} {v : Value} (h : OvT w v) : ∀ q, v = .pointer (some ⟨q, 0, none⟩) → q < w.heap.size := fun q e => by
  rcases h with h | ⟨q', mark, word, h, ht⟩
  · rw [h] at e; simp at e
  · rw [h] at e
    injection e with e
    injection e with e
    injection e with e
    rw [← e]
    exact ht.lt
theorem ov_over {w : World} {v : Value} (h : OvT w v) : Calls Tryz.prog 22 #[v] w fun e w' => e = .returned (.bool true) ∧ w = w' := by
  rcases h with rfl | ⟨q, mark, word, rfl, h⟩
  · exact over_nil w
  · exact overw h rfl
theorem ov_done {w : World} {v : Value} (h : OvT w v) : Calls Tryz.prog 23 #[v] w fun e w' => e = .returned (.bool false) ∧ w = w' := by
  rcases h with rfl | ⟨q, mark, word, rfl, h⟩
  · exact done_nil w
  · exact donew h
theorem ov_step {w : World} {v : Value} (h : OvT w v) (x : Value) : Calls Tryz.prog 21 #[v, x] w fun e w' => e = .returned (.bool true) ∧ Below w.heap.size w w' := by
  have C := Lib.hid (ov_over h)
  clear h
  go_enter Tryz.func21, Tryz.ntmps21
  go_wp2_with (go_at_call 22; ((with_reducible refine C.out.mono ?_); rintro e w2 ⟨rfl, rfl⟩))
  go_ret
  exact ⟨rfl, Below.refl _ _⟩
/-- A touch of what is no item's number. -/
theorem new_no (r : Int) (r1 : r < 1) (r2 : -9223372036854775808 ≤ r) (w : World) : Calls Tryz.prog 13 #[.int .i64 r] w fun e w' => e = .returned (.pointer (some ⟨w.heap.size, 0, none⟩)) ∧ OvT w' (.pointer (some ⟨w.heap.size, 0, none⟩)) ∧ Below w.heap.size w w' := by
  have C := Lib.hid (refw r w (by omega))
  generalize reff r = m at C
  have hd : decide (1 ≤ r) = false := decide_eq_false (by omega)
  go_enter Tryz.func13, Tryz.ntmps13
  go_wp2_with fail
  refine C.out.mono ?_
  rintro e w1 ⟨rfl, rfl⟩
  go_wp2_with fail
  go_ret
  exact ⟨rfl, .inr ⟨_, m, 0, rfl, by simp, by simp, by simp, by simp, fun j hj => by simp⟩, (Below.refl _ _).alloc (Nat.le_refl _) _⟩
/-- A new touch, seen by itself. -/
theorem new_is (r : Int) (r1 : 1 ≤ r) (r2 : r ≤ 9223372036854775807) (w : World) : Calls Tryz.prog 13 #[.int .i64 r] w fun e w' => e = .returned (.pointer (some ⟨w.heap.size, 0, none⟩)) ∧ (∃ m, IsTo w' w.heap.size m 0 3 false) ∧ Below w.heap.size w w' := by
  have C := Lib.hid (refw r w r2)
  generalize reff r = m at C
  have hd : decide (1 ≤ r) = true := decide_eq_true (by omega)
  go_enter Tryz.func13, Tryz.ntmps13
  go_wp2_with fail
  refine C.out.mono ?_
  rintro e w1 ⟨rfl, rfl⟩
  go_wp2_with fail
  go_ret
  exact ⟨rfl, ⟨m, by simp, by simp, by simp, by simp, fun j hj => by simp⟩, (Below.refl _ _).alloc (Nat.le_refl _) _⟩
theorem step_no {w : World} {q : Nat} {mark word : Int} {done : Bool} (h : IsTo w q mark word 3 done) : Calls Tryz.prog 21 #[.pointer (some ⟨q, 0, none⟩), .pointer none] w fun e w' => e = .returned (.bool false) ∧ w = w' := by
  have C := Lib.hid (overn h (by decide))
  clear h
  go_enter Tryz.func21, Tryz.ntmps21
  go_wp2_with (go_at_call 22; ((with_reducible refine C.out.mono ?_); rintro e w2 ⟨rfl, rfl⟩))
  go_ret
  exact ⟨rfl, rfl⟩
end Go.Proofs.YtmdofhdjikapgaaGreat
