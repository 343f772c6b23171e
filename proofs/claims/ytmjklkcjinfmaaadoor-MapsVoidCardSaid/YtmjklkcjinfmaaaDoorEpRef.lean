/- The chapter's answers on epochs: the same words. -/
import Derived.Test.YtmjklkcjinfmaaaDoorEpMath
namespace Go.Proofs.YtmjklkcjinfmaaaDoor
open Go.RowKit
set_option linter.unusedVariables false

theorem rnow (x : Int) (w : World) (h1 : 0 ≤ x) (h2 : x < 18446744073709551616) :
    Calls Tryd.prog 72 #[.int .u64 x] w fun e w' => e = .returned (.int .i64 (nowf x)) ∧ w = w' := by
  go_enter Tryd.func72, Tryd.ntmps72
  go_wp2
  go_ret
  exact ⟨rfl, rfl⟩
theorem rat07 (x : Int) (w : World) (h1 : 0 ≤ x) (h2 : x < 18446744073709551616) :
    Calls Tryd.prog 73 #[.int .u64 x] w fun e w' => e = .returned (.int .i64 (atf x)) ∧ w = w' := by
  go_enter Tryd.func73, Tryd.ntmps73
  go_wp2
  go_ret
  exact ⟨rfl, rfl⟩
theorem rgen (x : Int) (w : World) (h1 : 0 ≤ x) (h2 : x < 18446744073709551616) :
    Calls Tryd.prog 74 #[.int .u64 x] w fun e w' => e = .returned (.int .i64 (genf x)) ∧ w = w' := by
  go_enter Tryd.func74, Tryd.ntmps74
  go_wp2
  go_ret
  exact ⟨ret_int (by unfold genf; omega), rfl⟩
theorem rput (n a g : Int) (w : World) :
    Calls Tryd.prog 75 #[.int .i64 n, .int .i64 a, .int .i64 g] w fun e w' => e = .returned (.int .u64 (putf n a g)) ∧ w = w' := by
  obtain ⟨pn, en⟩ : ∃ p, n % 16777216 = p := ⟨_, rfl⟩
  obtain ⟨pa, ea⟩ : ∃ p, a % 16777216 = p := ⟨_, rfl⟩
  obtain ⟨pg, eg⟩ : ∃ p, g % 65536 = p := ⟨_, rfl⟩
  have m1 : IntKind.u64.wrap n % 16777216 = pn := by rw [IntKind.wrap_u64]; omega
  have m2 : IntKind.u64.wrap a % 16777216 = pa := by rw [IntKind.wrap_u64]; omega
  have m3 : IntKind.u64.wrap g % 65536 = pg := by rw [IntKind.wrap_u64]; omega
  have z1 : 0 ≤ IntKind.u64.wrap n := by rw [IntKind.wrap_u64]; omega
  have z2 : 0 ≤ IntKind.u64.wrap a := by rw [IntKind.wrap_u64]; omega
  have z3 : 0 ≤ IntKind.u64.wrap g := by rw [IntKind.wrap_u64]; omega
  have ef : putf n a g = (pg * 16777216 + pa) * 16777216 + pn := by unfold putf; rw [en, ea, eg]; omega
  have b1 : 0 ≤ pn := by omega
  have b2 : pn < 16777216 := by omega
  have b3 : 0 ≤ pa := by omega
  have b4 : pa < 16777216 := by omega
  have b5 : 0 ≤ pg := by omega
  have b6 : pg < 65536 := by omega
  have EF := Lib.hid ef
  clear ef en ea eg
  go_enter Tryd.func75, Tryd.ntmps75
  go_wp2
  go_ret
  exact ⟨ret_u64 EF.out.symm, rfl⟩
theorem rtick (x : Int) (w : World) (h1 : 0 ≤ x) (h2 : x < 18446744073709551616) :
    Calls Tryd.prog 76 #[.int .u64 x] w fun e w' => e = .returned (.int .u64 (tickf x)) ∧ w = w' := by
  obtain ⟨⟨a1, a2⟩, ⟨a3, a4⟩, ⟨a5, a6⟩⟩ := ep_range x
  have ht := Lib.hid (show tickf x = _ from rfl)
  unfold tickf
  obtain ⟨n, hn⟩ : ∃ n, nowf x = n := ⟨_, rfl⟩
  obtain ⟨a, ha⟩ : ∃ n, atf x = n := ⟨_, rfl⟩
  obtain ⟨g, hg⟩ : ∃ n, genf x = n := ⟨_, rfl⟩
  rw [hn] at a1 a2
  rw [ha] at a3 a4
  rw [hg] at a5 a6
  rw [hn, ha, hg]
  clear ht
  have hc : (n < 16777215 ∧ 0 < a ∧ a ≤ n + 1 ∧ g < 65535) ∨ (n < 16777215 ∧ 0 < a ∧ a ≤ n + 1 ∧ ¬ g < 65535) ∨ (n < 16777215 ∧ 0 < a ∧ n + 1 < a) ∨ (n < 16777215 ∧ ¬ 0 < a) ∨ (¬ n < 16777215 ∧ 0 < a ∧ a ≤ n ∧ g < 65535) ∨ (¬ n < 16777215 ∧ 0 < a ∧ a ≤ n ∧ ¬ g < 65535) ∨ (¬ n < 16777215 ∧ ¬ 0 < a) := by omega
  have h16 : ¬ n < 16777215 → n = 16777215 := by omega
  have hg6 : ¬ g < 65535 → g = 65535 := by omega
  have H16 := Lib.hid h16
  have HG6 := Lib.hid hg6
  clear h16 hg6
  rcases hc with ⟨c1, c2, c3, c4⟩ | ⟨c1, c2, c3, c4⟩ | ⟨c1, c2, c3⟩ | ⟨c1, c2⟩ | ⟨c1, c2, c3, c4⟩ | ⟨c1, c2, c3, c4⟩ | ⟨c1, c2⟩
  all_goals
    go_enter Tryd.func76, Tryd.ntmps76
    go_wp2_with (first
      | (go_at_call 72; refine (rnow _ _ h1 h2).mono ?_; rintro e w' ⟨rfl, rfl⟩)
      | (go_at_call 73; refine (rat07 _ _ h1 h2).mono ?_; rintro e w' ⟨rfl, rfl⟩)
      | (go_at_call 74; refine (rgen _ _ h1 h2).mono ?_; rintro e w' ⟨rfl, rfl⟩)
      | (go_at_call 75; refine (rput _ _ _ _).mono ?_; rintro e w' ⟨rfl, rfl⟩))
  all_goals go_ret
  all_goals exact ⟨ret_u64 (by first | rfl | (unfold putf; omega)), rfl⟩
theorem rflush (x d : Int) (w : World) (h1 : 0 ≤ x) (h2 : x < 18446744073709551616) :
    Calls Tryd.prog 53 #[.int .u64 x, .int .i64 d] w fun e w' => e = .returned (.tuple #[.int .u64 (flushf x d), .bool (flushes x)]) ∧ w = w' := by
  obtain ⟨⟨a1, a2⟩, ⟨a3, a4⟩, ⟨a5, a6⟩⟩ := ep_range x
  unfold flushf flushes
  obtain ⟨n, hn⟩ : ∃ n, nowf x = n := ⟨_, rfl⟩
  obtain ⟨g, hg⟩ : ∃ n, genf x = n := ⟨_, rfl⟩
  rw [hn] at a1 a2
  rw [hg] at a5 a6
  rw [hn, hg]
  have hc : (¬ g < 65535 ∧ (g == 65535) = true) ∨ (g < 65535 ∧ (g == 65535) = false ∧ d < 1) ∨ (g < 65535 ∧ (g == 65535) = false ∧ ¬ d < 1 ∧ d < 16777215 - n) ∨ (g < 65535 ∧ (g == 65535) = false ∧ ¬ d < 1 ∧ ¬ d < 16777215 - n) := by
    by_cases c : g < 65535
    · have c' : (g == 65535) = false := by rw [beq_eq_false_iff_ne]; omega
      by_cases e : d < 1
      · exact .inr (.inl ⟨c, c', e⟩)
      · by_cases f : d < 16777215 - n
        · exact .inr (.inr (.inl ⟨c, c', e, f⟩))
        · exact .inr (.inr (.inr ⟨c, c', e, f⟩))
    · exact .inl ⟨c, by rw [beq_iff_eq]; omega⟩
  rcases hc with ⟨c1, c2⟩ | ⟨c1, c2, c3⟩ | ⟨c1, c2, c3, c4⟩ | ⟨c1, c2, c3, c4⟩
  all_goals
    go_enter Tryd.func53, Tryd.ntmps53
    go_wp2_with (first
      | (go_at_call 72; refine (rnow _ _ h1 h2).mono ?_; rintro e w' ⟨rfl, rfl⟩)
      | (go_at_call 74; refine (rgen _ _ h1 h2).mono ?_; rintro e w' ⟨rfl, rfl⟩)
      | (go_at_call 75; refine (rput _ _ _ _).mono ?_; rintro e w' ⟨rfl, rfl⟩))
  all_goals go_ret2
  all_goals exact ⟨rfl, rfl⟩
theorem rdies (x d : Int) (w : World) (h1 : 0 ≤ x) (h2 : x < 18446744073709551616) :
    Calls Tryd.prog 78 #[.int .u64 x, .int .i64 d] w fun e w' => e = .returned (.int .i64 (diesf x d)) ∧ w = w' := by
  obtain ⟨⟨a1, a2⟩, _⟩ := ep_range x
  have hc : (d = 0 ∧ (d == 0) = true) ∨ ((d == 0) = false ∧ d < 0) ∨ ((d == 0) = false ∧ ¬ d < 0 ∧ d ≤ 2592000) ∨ ((d == 0) = false ∧ ¬ d < 0 ∧ ¬ d ≤ 2592000) := by
    by_cases c : d = 0
    · exact .inl ⟨c, by simpa using c⟩
    · have c' : (d == 0) = false := by simpa using c
      by_cases e : d < 0
      · exact .inr (.inl ⟨c', e⟩)
      · by_cases f : d ≤ 2592000
        · exact .inr (.inr (.inl ⟨c', e, f⟩))
        · exact .inr (.inr (.inr ⟨c', e, f⟩))
  have hd : Hid (diesf x d = if d = 0 then -1 else if d < 0 then nowf x else if d ≤ 2592000 then nowf x + d else d) := rfl
  obtain ⟨r, hr⟩ : ∃ r, diesf x d = r := ⟨_, rfl⟩
  have HR := Lib.hid hr
  rw [hr]
  clear hr
  rcases hc with ⟨c1, c2⟩ | ⟨c2, c3⟩ | ⟨c2, c3, c4⟩ | ⟨c2, c3, c4⟩
  case' inl => subst c1
  all_goals
    go_enter Tryd.func78, Tryd.ntmps78
    go_wp2_with (go_at_call 72; refine (rnow _ _ h1 h2).mono ?_; rintro e w' ⟨rfl, rfl⟩)
    go_ret
    refine ⟨ret_int ?_, rfl⟩
    rw [← HR.out, hd.out]
    first
      | (simp; done)
      | (have c2' : ¬ d = 0 := by simpa using c2
         repeat' split
         all_goals omega)
theorem ralive (k v : ByteArray) (fl id d g x : Int) (w : World) (h1 : 0 ≤ x) (h2 : x < 18446744073709551616) :
    Calls Tryd.prog 51 #[.agg #[.string k, .string v, .int .u32 fl, .int .u64 id, .int .i64 d, .int .i64 g], .int .u64 x] w fun e w' => e = .returned (.bool (alivef g d x)) ∧ Below w.heap.size w w' := by
  have hc : ((g == genf x) = false ∧ alivef g d x = false) ∨ ((g == genf x) = true ∧ (d == -1) = true ∧ alivef g d x = true) ∨ ((g == genf x) = true ∧ (d == -1) = false ∧ alivef g d x = decide (nowf x < d)) := by
    by_cases c : g = genf x
    · have c' : (g == genf x) = true := by simpa using c
      by_cases e : d = -1
      · exact .inr (.inl ⟨c', by simpa using e, by simp [alivef, c, e]⟩)
      · refine .inr (.inr ⟨c', by simpa using e, ?_⟩)
        simp [alivef, c]
        rw [Bool.eq_iff_iff]; simp
        exact fun h => absurd h e
    · refine .inl ⟨by simpa using c, ?_⟩
      have c' : ¬ genf x = g := fun h => c h.symm
      simp [alivef, c']
  obtain ⟨r, hr⟩ : ∃ r, alivef g d x = r := ⟨_, rfl⟩
  rw [hr] at hc ⊢
  clear hr
  rcases hc with ⟨c1, c2⟩ | ⟨c1, c2, c3⟩ | ⟨c1, c2, c3⟩
  all_goals
    subst r
    go_enter Tryd.func51, Tryd.ntmps51
    go_wp2_with fail
    go_quiet (first | (go_at_call 74; exact quiet_left (rgen _ _ h1 h2)) | (go_at_call 72; exact quiet_left (rnow _ _ h1 h2)))
    go_wp2
    go_ret
    exact ⟨rfl, below_drewN ((Below.refl _ _).alloc (Nat.le_refl _) _) _⟩
end Go.Proofs.YtmjklkcjinfmaaaDoor
