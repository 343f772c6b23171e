/- All the notes; a note as the chapter has it. -/
import Derived.Test.YteofbgbjibbdaacNlS
namespace Go.Proofs.Yteofbgbjibbdaac
open Go.RowKit
set_option linter.unusedVariables false

theorem allw (w : World) (p : Nat) (L : List Nv) (h : IsL w p L) (hM : L.length ≤ 1048576) :
    Calls Try.prog 60 #[.pointer (some ⟨p, 0, none⟩)] w (IsLst w 8 L.length (rowsN L)) := by
  have hS := sincew w p L 0 h hM
  have HS := Lib.hid hS
  clear hS h
  go_enter Try.func60, Try.ntmps60
  go_wp2_with fail
  refine HS.out.mono ?_
  rintro e w1 ⟨u, rfl, hL, hb⟩
  go_wp2_with fail
  go_ret
  exact ⟨_, rfl, hL, hb⟩
theorem otherw (w : World) (s th k r b c d v : Int) (k0 : 0 ≤ k) (k1 : k ≤ 255) :
    Calls Try.prog 56 #[.agg #[.int .i64 s, .int .i64 th, .int .u8 k, .int .i64 r, .int .i64 b, .int .i64 c, .int .i64 d, .int .i64 v]] w fun e w' => e = .returned (.agg #[.int .i64 s, .int .i64 th, .int .i64 k, .int .i64 r, .int .i64 b, .int .i64 c, .int .i64 d, .int .i64 v]) ∧ Below w.heap.size w w' := by
  go_enter Try.func56, Try.ntmps56
  go_wp2
  refine bodyPost_ret (v := .agg #[.int .i64 s, .int .i64 th, .int .i64 k, .int .i64 r, .int .i64 b, .int .i64 c, .int .i64 d, .int .i64 v]) (by simp [results, Try.results56, go_sem]) rfl ⟨rfl, ?_⟩
  exact ((Below.refl _ _).alloc (Nat.le_refl _) _).alloc (by simp) _
end Go.Proofs.Yteofbgbjibbdaac
