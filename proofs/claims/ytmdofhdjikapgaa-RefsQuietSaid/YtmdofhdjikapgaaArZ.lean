/- Contracts of package items: the zero block; what is told of nothing. -/
import Derived.Test.YtmdofhdjikapgaaChecked
import Derived.Test.YtmdofhdjikapgaaAr
import Derived.Handy
namespace Go.Proofs.Ytmdofhdjikapgaa
open Go.RowKit
set_option linter.unusedVariables false

theorem zinfo : (Try.prog.info? 142).map (fun i => (match i.zero with | some (.agg Z) => Z.size | _ => 0)) = some 1536 := by kernel_rfl
theorem zblock : ∃ Z : Array Value, Z.size = 1536 ∧ (∀ w, (zeroValue 142).run Try.prog w = .ok (.agg Z) w) ∧ (∀ w, (Instr.build 142 #[]).run Try.prog w = .ok (.agg Z) w) ∧ (∀ w, (Instr.box 142 (.agg Z)).run Try.prog w = .ok (.pointer (some ⟨w.heap.size, 0, none⟩)) (w.alloc (.cells Z 142))) := by
  have h := zinfo
  obtain ⟨i, hi, hz⟩ := Option.map_eq_some_iff.1 h
  cases hq : i.zero with
  | none => rw [hq] at hz; simp at hz
  | some v =>
    rw [hq] at hz
    cases v with
    | agg Z =>
      simp at hz
      have e1 : ∀ w, (zeroValue 142).run Try.prog w = .ok (.agg Z) w := fun w => by simp [zeroValue, typeInfo, hi, hq, Result.andThen]
      refine ⟨Z, hz, e1, fun w => ?_, fun w => ?_⟩
      · have hs := Try.sizeOf54 w
        simp [Instr.build, e1, run_underlying Try.underlying142, hs, Instr.fill, Value.cells, Result.andThen]
      · simp [Instr.box, newVar, newRow, Value.cells, Result.andThen]
    | _ => simp at hz
theorem there_alloc {w : World} {Z : Array Value} {T : TypeId} (hz : Z.size = 1536) : (w.alloc (.cells Z T)).there w.heap.size 0 1536 := by
  intro j hj
  refine ⟨?_, by simp⟩
  have : (w.alloc (.cells Z T)).cell? ⟨w.heap.size, 0 + j, none⟩ = Z[0 + j]? := by
    have hg : (w.alloc (.cells Z T)).heap[w.heap.size]? = some (.cells Z T) := (MapKept.heap_alloc w _).1
    unfold World.cell?
    rw [hg]
    simp
  rw [this, Array.getElem?_eq_getElem (by omega)]
  rfl
theorem icount_nil (w : World) : Calls Try.prog 74 #[.pointer none] w fun e w' => e = .returned (.int .i64 0) ∧ w = w' := by
  go_enter Try.func74, Try.ntmps74
  go_wp2_with fail
  go_ret
  exact ⟨rfl, rfl⟩
theorem icount (n : Int) (p : Nat) (w : World) (hc : w.cell? ⟨p, 1, none⟩ = some (.int .i64 n)) : Calls Try.prog 74 #[.pointer (some ⟨p, 0, none⟩)] w fun e w' => e = .returned (.int .i64 n) ∧ w = w' := by
  go_enter Try.func74, Try.ntmps74
  go_wp2_with fail
  go_ret
  exact ⟨rfl, rfl⟩
theorem iadd_nil (k v : ByteArray) (fl id di ge : Int) (w : World) : Calls Try.prog 29 #[.pointer none, .agg #[.string k, .string v, .int .u32 fl, .int .u64 id, .int .i64 di, .int .i64 ge]] w fun e w' => e = .returned (.tuple #[.int .i64 0, .int .i64 2]) ∧ Below w.heap.size w w' := by
  go_enter Try.func29, Try.ntmps29
  go_wp2_with fail
  go_ret2
  exact ⟨rfl, (Below.refl _ _).alloc (Nat.le_refl _) _⟩
theorem iadd_full (n : Int) (p : Nat) (k v : ByteArray) (fl id di ge : Int) (w : World) (hc : w.cell? ⟨p, 1, none⟩ = some (.int .i64 n)) (hn : decide ((1048576 : Int) ≤ n) = true) : Calls Try.prog 29 #[.pointer (some ⟨p, 0, none⟩), .agg #[.string k, .string v, .int .u32 fl, .int .u64 id, .int .i64 di, .int .i64 ge]] w fun e w' => e = .returned (.tuple #[.int .i64 0, .int .i64 3]) ∧ Below w.heap.size w w' := by
  have hc' : ∀ o, (w.alloc o).cell? ⟨p, 1, none⟩ = some (.int .i64 n) := fun o => ((Keeps.refl (fun _ => False) w).alloc o).cell (p := ⟨p, 1, none⟩) (by simp) hc
  go_enter Try.func29, Try.ntmps29
  go_wp2_with fail
  go_ret2
  exact ⟨rfl, (Below.refl _ _).alloc (Nat.le_refl _) _⟩
theorem inew (w : World) : Calls Try.prog 51 #[] w fun e w' => e = .returned (.pointer (some ⟨w.heap.size, 0, none⟩)) ∧ w' = w.alloc (.cells #[.slice none 0 0, .int .i64 0] 139) := by
  go_enter Try.func51, Try.ntmps51
  go_wp2_with fail
  go_ret
  exact ⟨rfl, rfl⟩
/-- The arena's struct, as it is made. -/
theorem made_ar (t T : TypeId) (W : World) : IsAr t (W.alloc (.cells #[.slice none 0 0, .int .i64 0] T)) W.heap.size [] [] (.slice none 0 0) (fun k => k = W.heap.size) := by
  refine ⟨by simp, by simp, by simp, by simp, World.ownsRow_nil _ _ _ _, fun g hg => by simp [Value.ownBlock] at hg, rfl, fun j b h => by simp at h, fun i j b h => by simp at h, fun i x h => by simp at h⟩
end Go.Proofs.Ytmdofhdjikapgaa
