/- A pair of worlds: Other, the chapter's Peek and Grows. -/
import Derived.Test.YtjkpgihhamogmaaPw
import Derived.Test.YtjkpgihhamogmaaGPn
import Derived.Test.YtjkpgihhamogmaaGPl
namespace Go.Proofs.Ytjkpgihhamogmaa
open Go.RowKit Go.Maps
set_option linter.unusedVariables false
theorem other10 (b u t q y : Int) (w : World) : Calls Try.prog 57 #[.agg #[.int .i64 b, .int .i64 u, .int .i64 t, .int .i64 q, .int .i64 y]] w fun e w' => e = .returned (.agg #[.int .i64 b, .int .i64 u, .int .i64 t, .int .i64 q, .int .i64 y]) ∧ Below w.heap.size w w' := by
  go_enter Try.func57, Try.ntmps57
  go_wp2_with fail
  refine bodyPost_ret (v := .agg #[.int .i64 b, .int .i64 u, .int .i64 t, .int .i64 q, .int .i64 y]) (by simp [results, Try.results57, go_sem]) rfl ⟨rfl, ?_⟩
  exact ((Below.refl w.heap.size w).alloc (Nat.le_refl _) _).alloc (by simp) _
section
variable {w : World} {A R : Ad} {V : Wv} {S T : Nat → Prop}
theorem pw_rpeek (h : Pw w A R V S T) {a : Int} (ha : isU a) : Calls Try.prog 87 #[.pointer (some ⟨R.p, 0, none⟩), .int .u64 a] w fun e w' => e = .returned (.int .u64 (V.f a)) ∧ ∃ n, w' = w.drewN n := by
  obtain ⟨L, ⟨TC, TI, TN, r⟩, hl, -⟩ := h.r
  have c0 := r.box.c0
  have C := Lib.hid (rgc_peek r.cel (hl.peek ha))
  clear r h hl
  go_enter Try.func87, Try.ntmps87
  go_wp2_with fail
  refine C.out.mono ?_
  rintro e w' ⟨rfl, n, rfl⟩
  go_wp2_with fail
  go_ret
  exact ⟨rfl, n, rfl⟩
end
end Go.Proofs.Ytjkpgihhamogmaa
