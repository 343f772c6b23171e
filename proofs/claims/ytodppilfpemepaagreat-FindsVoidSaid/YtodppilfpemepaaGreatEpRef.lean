/- The chapter's answers on epochs: the same words. -/
import Derived.Test.YtodppilfpemepaaGreatEpMath
namespace Go.Proofs.YtodppilfpemepaaGreat
open Go.RowKit
set_option linter.unusedVariables false

theorem rnow (x : Int) (w : World) (h1 : 0 ≤ x) (h2 : x < 18446744073709551616) :
    Calls Tryz.prog 132 #[.int .u64 x] w fun e w' => e = .returned (.int .i64 (nowf x)) ∧ w = w' := by
  go_enter Tryz.func132, Tryz.ntmps132
  go_wp2
  go_ret
  exact ⟨rfl, rfl⟩
theorem rat07 (x : Int) (w : World) (h1 : 0 ≤ x) (h2 : x < 18446744073709551616) :
    Calls Tryz.prog 133 #[.int .u64 x] w fun e w' => e = .returned (.int .i64 (atf x)) ∧ w = w' := by
  go_enter Tryz.func133, Tryz.ntmps133
  go_wp2
  go_ret
  exact ⟨rfl, rfl⟩
theorem rgen (x : Int) (w : World) (h1 : 0 ≤ x) (h2 : x < 18446744073709551616) :
    Calls Tryz.prog 134 #[.int .u64 x] w fun e w' => e = .returned (.int .i64 (genf x)) ∧ w = w' := by
  go_enter Tryz.func134, Tryz.ntmps134
  go_wp2
  go_ret
  exact ⟨ret_int (by unfold genf; omega), rfl⟩
theorem rput (n a g : Int) (w : World) :
    Calls Tryz.prog 135 #[.int .i64 n, .int .i64 a, .int .i64 g] w fun e w' => e = .returned (.int .u64 (putf n a g)) ∧ w = w' := by
  obtain ⟨pn, en⟩ : ∃ p, n % 16777216 = p := ⟨_, rfl⟩
  obtain ⟨pa, ea⟩ : ∃ p, a % 16777216 = p := ⟨_, rfl⟩
  obtain ⟨pg, eg⟩ : ∃ p, g % 65536 = p := ⟨_, rfl⟩
  have m1 : IntKind.u64.wrap n % 16777216 = pn := by rw [IntKind.wrap_u64]; omega
  have m2 : IntKind.u64.wrap a % 16777216 = pa := by rw [IntKind.wrap_u64]; omega
  have m3 : IntKind.u64.wrap g % 65536 = pg := by rw [IntKind.wrap_u64]; omega
  have z1 : 0 ≤ IntKind.u64.wrap n := by rw [IntKind.wrap_u64]; omega
  have z2 : 0 ≤ IntKind.u64.wrap a := by rw [IntKind.wrap_u64]; omega
  have z3 : 0 ≤ IntKind.u64.wrap g := by rw [IntKind.wrap_u64]; omega
  have ef : putf n a g = (pg * 16777216 + pa) * 16777216 + pn := by unfold putf; rw [en, ea, eg]; omega
  have b1 : 0 ≤ pn := by omega
  have b2 : pn < 16777216 := by omega
  have b3 : 0 ≤ pa := by omega
  have b4 : pa < 16777216 := by omega
  have b5 : 0 ≤ pg := by omega
  have b6 : pg < 65536 := by omega
  have EF := Lib.hid ef
  clear ef en ea eg
  go_enter Tryz.func135, Tryz.ntmps135
  go_wp2
  go_ret
  exact ⟨ret_u64 EF.out.symm, rfl⟩
theorem rtick (x : Int) (w : World) (h1 : 0 ≤ x) (h2 : x < 18446744073709551616) :
    Calls Tryz.prog 109 #[.int .u64 x] w fun e w' => e = .returned (.int .u64 (tickf x)) ∧ w = w' := by
  obtain ⟨⟨a1, a2⟩, ⟨a3, a4⟩, ⟨a5, a6⟩⟩ := ep_range x
  have ht := Lib.hid (show tickf x = _ from rfl)
  unfold tickf
  obtain ⟨n, hn⟩ : ∃ n, nowf x = n := ⟨_, rfl⟩
  obtain ⟨a, ha⟩ : ∃ n, atf x = n := ⟨_, rfl⟩
  obtain ⟨g, hg⟩ : ∃ n, genf x = n := ⟨_, rfl⟩
  rw [hn] at a1 a2
  rw [ha] at a3 a4
  rw [hg] at a5 a6
  rw [hn, ha, hg]
  clear ht
  have hc : (n < 16777215 ∧ 0 < a ∧ a ≤ n + 1 ∧ g < 65535) ∨ (n < 16777215 ∧ 0 < a ∧ a ≤ n + 1 ∧ ¬ g < 65535) ∨ (n < 16777215 ∧ 0 < a ∧ n + 1 < a) ∨ (n < 16777215 ∧ ¬ 0 < a) ∨ (¬ n < 16777215 ∧ 0 < a ∧ a ≤ n ∧ g < 65535) ∨ (¬ n < 16777215 ∧ 0 < a ∧ a ≤ n ∧ ¬ g < 65535) ∨ (¬ n < 16777215 ∧ ¬ 0 < a) := by omega
  have h16 : ¬ n < 16777215 → n = 16777215 := by omega
  have hg6 : ¬ g < 65535 → g = 65535 := by omega
  have H16 := Lib.hid h16
  have HG6 := Lib.hid hg6
  clear h16 hg6
  rcases hc with ⟨c1, c2, c3, c4⟩ | ⟨c1, c2, c3, c4⟩ | ⟨c1, c2, c3⟩ | ⟨c1, c2⟩ | ⟨c1, c2, c3, c4⟩ | ⟨c1, c2, c3, c4⟩ | ⟨c1, c2⟩
  all_goals
    go_enter Tryz.func109, Tryz.ntmps109
    go_wp2_with (first
      | (go_at_call 132; refine (rnow _ _ h1 h2).mono ?_; rintro e w' ⟨rfl, rfl⟩)
      | (go_at_call 133; refine (rat07 _ _ h1 h2).mono ?_; rintro e w' ⟨rfl, rfl⟩)
      | (go_at_call 134; refine (rgen _ _ h1 h2).mono ?_; rintro e w' ⟨rfl, rfl⟩)
      | (go_at_call 135; refine (rput _ _ _ _).mono ?_; rintro e w' ⟨rfl, rfl⟩))
  all_goals go_ret
  all_goals exact ⟨ret_u64 (by first | rfl | (unfold putf; omega)), rfl⟩
end Go.Proofs.YtodppilfpemepaaGreat
