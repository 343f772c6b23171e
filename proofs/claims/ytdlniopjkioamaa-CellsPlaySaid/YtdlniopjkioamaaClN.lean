/- Contracts of package cells: no cells; new cells. -/
import Derived.Test.YtdlniopjkioamaaClC
import Derived.LoopN
import Derived.LoopTactic
namespace Go.Proofs.Ytdlniopjkioamaa
open Go.RowKit Go.Maps
set_option linter.unusedVariables false

theorem access_nil (kk a : Int) (fv : Value) (w : World) : Calls Try.prog 27 #[.pointer none, .int .u8 kk, .int .u64 a, fv] w fun e w' => e = .returned (.int .u64 0) ∧ w = w' := by
  go_enter Try.func27, Try.ntmps27
  go_wp2_with fail
  go_ret
  exact ⟨rfl, rfl⟩
theorem load_nil (a : Int) (w : World) : Calls Try.prog 13 #[.pointer none, .int .u64 a] w fun e w' => e = .returned (.int .u64 0) ∧ w = w' := by
  go_enter Try.func13, Try.ntmps13
  go_wp2_with (go_at_call 27; refine (access_nil _ _ _ _).mono ?_; rintro e w' ⟨rfl, rfl⟩)
  go_ret
  exact ⟨rfl, rfl⟩
theorem store_nil (a v : Int) (w : World) : Calls Try.prog 12 #[.pointer none, .int .u64 a, .int .u64 v] w fun e w' => e = .returned (.int .u64 0) ∧ Below w.heap.size w w' := by
  go_enter Try.func12, Try.ntmps12
  go_wp2_with (go_at_call 27; refine (access_nil _ _ _ _).mono ?_; rintro e w' ⟨rfl, rfl⟩)
  go_ret
  exact ⟨rfl, (Below.refl _ _).alloc (Nat.le_refl _) _⟩
theorem add_nil (a v : Int) (w : World) : Calls Try.prog 15 #[.pointer none, .int .u64 a, .int .u64 v] w fun e w' => e = .returned (.int .u64 0) ∧ Below w.heap.size w w' := by
  go_enter Try.func15, Try.ntmps15
  go_wp2_with (go_at_call 27; refine (access_nil _ _ _ _).mono ?_; rintro e w' ⟨rfl, rfl⟩)
  go_ret
  exact ⟨rfl, (Below.refl _ _).alloc (Nat.le_refl _) _⟩
theorem cas_nil (a v u : Int) (w : World) : Calls Try.prog 14 #[.pointer none, .int .u64 a, .int .u64 v, .int .u64 u] w fun e w' => e = .returned (.tuple #[.int .u64 0, .bool false]) ∧ Below w.heap.size w w' := by
  go_enter Try.func14, Try.ntmps14
  go_wp2_with (go_at_call 27; refine (access_nil _ _ _ _).mono ?_; rintro e w' ⟨rfl, rfl⟩)
  generalize hW : ((w.alloc _).alloc _).alloc _ = W
  have hk : Below w.heap.size w W := by rw [← hW]; exact (((Below.refl _ _).alloc (Nat.le_refl _) _).alloc (by simp) _).alloc (by simp; omega) _
  have d1 : W.cell? ⟨w.heap.size + 1 + 1, 0, none⟩ = some (.bool false) := by rw [← hW]; exact (newc (by simp) _ _).1
  have d2 : W.frozen? ⟨w.heap.size + 1 + 1, 0, none⟩ = false := by rw [← hW]; exact (newc (by simp) (.bool false) _).2
  clear hW
  go_region
  all_goals
    go_wp2_with fail
    have d3 : (W.setCell ⟨w.heap.size + 1 + 1, 0, none⟩ (.bool false)).drew.cell? ⟨w.heap.size + 1 + 1, 0, none⟩ = some (.bool false) := World.cell?_setCell_same W _ (.bool false) d1
    refine bodyPost_ret (v := .tuple #[.int .u64 0, .bool false]) (by simp [results, Try.results14, go_sem, d3]) rfl ⟨rfl, ?_⟩
    exact (hk.setCell (p := ⟨w.heap.size + 1 + 1, 0, none⟩) (by show w.heap.size ≤ w.heap.size + 1 + 1; omega) _).drew
theorem words_nil (w : World) : Calls Try.prog 17 #[.pointer none] w fun e w' => e = .returned (.slice none 0 0) ∧ w = w' := by
  go_enter Try.func17, Try.ntmps17
  go_wp2_with fail
  go_ret
  exact ⟨rfl, rfl⟩
/-- The struct of cells, as it is made. -/
theorem made_cel (W : World) (T : TypeId) : Cel (W.alloc (.cells #[.map none, .int .i64 0, .int .u8 0, .int .u64 0, .int .u64 0, .int .u64 0] T)) W.heap.size (fun _ => 0) 0 0 0 0 0 0 (fun k => k = W.heap.size) := by
  refine ⟨by simp, by simp, by simp, by simp, by simp, fun o ho => by simp, rfl, fun a ha => ⟨by omega, by omega⟩, .inl ⟨by simp, fun a ha => rfl⟩⟩
/-- What New leaves. -/
def NewPost (w : World) (f : Int → Int) (n : Nat) (w' : World) : Prop := ∃ S, (∀ k, S k → w.heap.size ≤ k ∧ k < w'.heap.size) ∧ Below w.heap.size w w' ∧ Cel w' w.heap.size f 0 0 0 0 0 n S
theorem new_none (w : World) : Calls Try.prog 5 #[.slice none 0 0] w fun e w' => e = .returned (.pointer (some ⟨w.heap.size, 0, none⟩)) ∧ NewPost w (fun _ => 0) 0 w' := by
  go_enter Try.func5, Try.ntmps5
  go_wp2_with fail
  refine wp_loop_rounds 1 ?_
  rw [rounds_succ]
  go_wp2_with fail
  go_ret
  exact ⟨rfl, _, fun k e => by rw [e]; simp, (Below.refl _ _).alloc (Nat.le_refl _) _, made_cel _ _⟩
end Go.Proofs.Ytdlniopjkioamaa
