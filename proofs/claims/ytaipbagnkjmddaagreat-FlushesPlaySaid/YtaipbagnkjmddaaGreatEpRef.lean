/- The chapter's answers on epochs: the same words. -/
import Derived.Test.YtaipbagnkjmddaaGreatEpMath
namespace Go.Proofs.YtaipbagnkjmddaaGreat
open Go.RowKit
set_option linter.unusedVariables false

theorem rnow (x : Int) (w : World) (h1 : 0 ≤ x) (h2 : x < 18446744073709551616) :
    Calls Tryz.prog 93 #[.int .u64 x] w fun e w' => e = .returned (.int .i64 (nowf x)) ∧ w = w' := by
  go_enter Tryz.func93, Tryz.ntmps93
  go_wp2
  go_ret
  exact ⟨rfl, rfl⟩
theorem rat07 (x : Int) (w : World) (h1 : 0 ≤ x) (h2 : x < 18446744073709551616) :
    Calls Tryz.prog 121 #[.int .u64 x] w fun e w' => e = .returned (.int .i64 (atf x)) ∧ w = w' := by
  go_enter Tryz.func121, Tryz.ntmps121
  go_wp2
  go_ret
  exact ⟨rfl, rfl⟩
theorem rgen (x : Int) (w : World) (h1 : 0 ≤ x) (h2 : x < 18446744073709551616) :
    Calls Tryz.prog 94 #[.int .u64 x] w fun e w' => e = .returned (.int .i64 (genf x)) ∧ w = w' := by
  go_enter Tryz.func94, Tryz.ntmps94
  go_wp2
  go_ret
  exact ⟨ret_int (by unfold genf; omega), rfl⟩
theorem rput (n a g : Int) (w : World) :
    Calls Tryz.prog 95 #[.int .i64 n, .int .i64 a, .int .i64 g] w fun e w' => e = .returned (.int .u64 (putf n a g)) ∧ w = w' := by
  obtain ⟨pn, en⟩ : ∃ p, n % 16777216 = p := ⟨_, rfl⟩
  obtain ⟨pa, ea⟩ : ∃ p, a % 16777216 = p := ⟨_, rfl⟩
  obtain ⟨pg, eg⟩ : ∃ p, g % 65536 = p := ⟨_, rfl⟩
  have m1 : IntKind.u64.wrap n % 16777216 = pn := by rw [IntKind.wrap_u64]; omega
  have m2 : IntKind.u64.wrap a % 16777216 = pa := by rw [IntKind.wrap_u64]; omega
  have m3 : IntKind.u64.wrap g % 65536 = pg := by rw [IntKind.wrap_u64]; omega
  have z1 : 0 ≤ IntKind.u64.wrap n := by rw [IntKind.wrap_u64]; omega
  have z2 : 0 ≤ IntKind.u64.wrap a := by rw [IntKind.wrap_u64]; omega
  have z3 : 0 ≤ IntKind.u64.wrap g := by rw [IntKind.wrap_u64]; omega
  have ef : putf n a g = (pg * 16777216 + pa) * 16777216 + pn := by unfold putf; rw [en, ea, eg]; omega
  have b1 : 0 ≤ pn := by omega
  have b2 : pn < 16777216 := by omega
  have b3 : 0 ≤ pa := by omega
  have b4 : pa < 16777216 := by omega
  have b5 : 0 ≤ pg := by omega
  have b6 : pg < 65536 := by omega
  have EF := Lib.hid ef
  clear ef en ea eg
  go_enter Tryz.func95, Tryz.ntmps95
  go_wp2
  go_ret
  exact ⟨ret_u64 EF.out.symm, rfl⟩
theorem rtick (x : Int) (w : World) (h1 : 0 ≤ x) (h2 : x < 18446744073709551616) :
    Calls Tryz.prog 90 #[.int .u64 x] w fun e w' => e = .returned (.int .u64 (tickf x)) ∧ w = w' := by
  obtain ⟨⟨a1, a2⟩, ⟨a3, a4⟩, ⟨a5, a6⟩⟩ := ep_range x
  have ht := Lib.hid (show tickf x = _ from rfl)
  unfold tickf
  obtain ⟨n, hn⟩ : ∃ n, nowf x = n := ⟨_, rfl⟩
  obtain ⟨a, ha⟩ : ∃ n, atf x = n := ⟨_, rfl⟩
  obtain ⟨g, hg⟩ : ∃ n, genf x = n := ⟨_, rfl⟩
  rw [hn] at a1 a2
  rw [ha] at a3 a4
  rw [hg] at a5 a6
  rw [hn, ha, hg]
  clear ht
  have hc : (n < 16777215 ∧ 0 < a ∧ a ≤ n + 1 ∧ g < 65535) ∨ (n < 16777215 ∧ 0 < a ∧ a ≤ n + 1 ∧ ¬ g < 65535) ∨ (n < 16777215 ∧ 0 < a ∧ n + 1 < a) ∨ (n < 16777215 ∧ ¬ 0 < a) ∨ (¬ n < 16777215 ∧ 0 < a ∧ a ≤ n ∧ g < 65535) ∨ (¬ n < 16777215 ∧ 0 < a ∧ a ≤ n ∧ ¬ g < 65535) ∨ (¬ n < 16777215 ∧ ¬ 0 < a) := by omega
  have h16 : ¬ n < 16777215 → n = 16777215 := by omega
  have hg6 : ¬ g < 65535 → g = 65535 := by omega
  have H16 := Lib.hid h16
  have HG6 := Lib.hid hg6
  clear h16 hg6
  rcases hc with ⟨c1, c2, c3, c4⟩ | ⟨c1, c2, c3, c4⟩ | ⟨c1, c2, c3⟩ | ⟨c1, c2⟩ | ⟨c1, c2, c3, c4⟩ | ⟨c1, c2, c3, c4⟩ | ⟨c1, c2⟩
  all_goals
    go_enter Tryz.func90, Tryz.ntmps90
    go_wp2_with (first
      | (go_at_call 93; refine (rnow _ _ h1 h2).mono ?_; rintro e w' ⟨rfl, rfl⟩)
      | (go_at_call 121; refine (rat07 _ _ h1 h2).mono ?_; rintro e w' ⟨rfl, rfl⟩)
      | (go_at_call 94; refine (rgen _ _ h1 h2).mono ?_; rintro e w' ⟨rfl, rfl⟩)
      | (go_at_call 95; refine (rput _ _ _ _).mono ?_; rintro e w' ⟨rfl, rfl⟩))
  all_goals go_ret
  all_goals exact ⟨ret_u64 (by first | rfl | (unfold putf; omega)), rfl⟩
theorem rflush (x d : Int) (w : World) (h1 : 0 ≤ x) (h2 : x < 18446744073709551616) :
    Calls Tryz.prog 45 #[.int .u64 x, .int .i64 d] w fun e w' => e = .returned (.tuple #[.int .u64 (flushf x d), .bool (flushes x)]) ∧ w = w' := by
  obtain ⟨⟨a1, a2⟩, ⟨a3, a4⟩, ⟨a5, a6⟩⟩ := ep_range x
  unfold flushf flushes
  obtain ⟨n, hn⟩ : ∃ n, nowf x = n := ⟨_, rfl⟩
  obtain ⟨g, hg⟩ : ∃ n, genf x = n := ⟨_, rfl⟩
  rw [hn] at a1 a2
  rw [hg] at a5 a6
  rw [hn, hg]
  have hc : (¬ g < 65535 ∧ (g == 65535) = true) ∨ (g < 65535 ∧ (g == 65535) = false ∧ d < 1) ∨ (g < 65535 ∧ (g == 65535) = false ∧ ¬ d < 1 ∧ d < 16777215 - n) ∨ (g < 65535 ∧ (g == 65535) = false ∧ ¬ d < 1 ∧ ¬ d < 16777215 - n) := by
    by_cases c : g < 65535
    · have c' : (g == 65535) = false := by rw [beq_eq_false_iff_ne]; omega
      by_cases e : d < 1
      · exact .inr (.inl ⟨c, c', e⟩)
      · by_cases f : d < 16777215 - n
        · exact .inr (.inr (.inl ⟨c, c', e, f⟩))
        · exact .inr (.inr (.inr ⟨c, c', e, f⟩))
    · exact .inl ⟨c, by rw [beq_iff_eq]; omega⟩
  rcases hc with ⟨c1, c2⟩ | ⟨c1, c2, c3⟩ | ⟨c1, c2, c3, c4⟩ | ⟨c1, c2, c3, c4⟩
  all_goals
    go_enter Tryz.func45, Tryz.ntmps45
    go_wp2_with (first
      | (go_at_call 93; refine (rnow _ _ h1 h2).mono ?_; rintro e w' ⟨rfl, rfl⟩)
      | (go_at_call 94; refine (rgen _ _ h1 h2).mono ?_; rintro e w' ⟨rfl, rfl⟩)
      | (go_at_call 95; refine (rput _ _ _ _).mono ?_; rintro e w' ⟨rfl, rfl⟩))
  all_goals go_ret2
  all_goals exact ⟨rfl, rfl⟩
end Go.Proofs.YtaipbagnkjmddaaGreat
