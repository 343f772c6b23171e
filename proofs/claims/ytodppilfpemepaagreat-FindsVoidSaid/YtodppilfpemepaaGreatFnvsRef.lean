/- The chapter's own hash. -/
import Derived.Test.YtodppilfpemepaaGreatFnvs
namespace Go.Proofs.YtodppilfpemepaaGreat
open Go.RowKit

theorem refhash (s : ByteArray) (w : World) (hs : s.size ≤ maxLen) :
    Calls Tryz.prog 59 #[.string s] w fun e w' => e = .returned (.int .u64 (hsl s.data.toList)) ∧ w = w' := by
  unfold maxLen at hs
  go_enter Tryz.func59, Tryz.ntmps59
  go_wp2_with fail
  go_loop [3, 4] (fun hh i => ∃ (k : Nat) (h : Int), k ≤ s.size ∧ i = .int .i64 k ∧ Hid (h = hsl (s.data.toList.take k)) ∧ hh = .int .u64 h) (fun _ i => s.size - (intOf i).toNat)
  case atStart => exact ⟨0, _, by omega, rfl, rfl, rfl⟩
  case round =>
    obtain ⟨k, h, hk, rfl, hh, rfl⟩ := hrel
    by_cases hlt : k < s.size
    · go_wp2
      go_round
      case rel => exact ⟨k + 1, _, by omega, by go_num, by rw [take_snoc s k hlt, hsl_snoc, ← hh.out]; exact rfl, rfl⟩
      case measure => simp [intOf]; omega
    · go_wp2
      go_ret
      exact ⟨ret_int (by rw [hh.out, take_all s k (by omega)]), rfl⟩
end Go.Proofs.YtodppilfpemepaaGreat
