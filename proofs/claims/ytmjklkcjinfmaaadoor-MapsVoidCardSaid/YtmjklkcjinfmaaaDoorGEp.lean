/- Contracts of package epochs. -/
import Derived.Test.YtmjklkcjinfmaaaDoorChecked
import Derived.Test.YtmjklkcjinfmaaaDoorBits
namespace Go.Proofs.YtmjklkcjinfmaaaDoor
open Go.RowKit
set_option linter.unusedVariables false

theorem ret_u64 {a b : Int} (h : a = b) : Ending.returned (.int .u64 a) = .returned (.int .u64 b) := by rw [h]
def nowf (x : Int) : Int := x % 16777216
def atf (x : Int) : Int := x / 16777216 % 16777216
def genf (x : Int) : Int := x / 281474976710656 % 65536
theorem ep_masks (x : Int) (h1 : 0 ≤ x) (h2 : x < 18446744073709551616) : bits .and .u64 x 16777215 = nowf x ∧ bits .and .u64 (x / 16777216) 16777215 = atf x ∧ bits .and .u64 (x / 281474976710656) 65535 = genf x :=
  ⟨mask_u64 24 (by decide) x h1 (by omega), mask_u64 24 (by decide) _ (by omega) (by omega), mask_u64 16 (by decide) _ (by omega) (by omega)⟩
theorem ep_range (x : Int) : (0 ≤ nowf x ∧ nowf x ≤ 16777215) ∧ (0 ≤ atf x ∧ atf x ≤ 16777215) ∧ (0 ≤ genf x ∧ genf x ≤ 65535) := by
  unfold nowf atf genf; omega
theorem readw (x : Int) (w : World) (h1 : 0 ≤ x) (h2 : x < 18446744073709551616) :
    Calls Tryd.prog 41 #[.int .u64 x] w fun e w' => e = .returned (.agg #[.int .i64 (nowf x), .int .i64 (atf x), .int .i64 (genf x)]) ∧ Below w.heap.size w w' := by
  obtain ⟨e1, e2, e3⟩ := ep_masks x h1 h2
  obtain ⟨⟨a1, a2⟩, ⟨a3, a4⟩, ⟨a5, a6⟩⟩ := ep_range x
  go_enter Tryd.func41, Tryd.ntmps41
  go_wp2
  refine bodyPost_ret (v := .agg #[.int .i64 (nowf x), .int .i64 (atf x), .int .i64 (genf x)]) (by simp [results, Tryd.results41, go_sem]) rfl ⟨rfl, ?_⟩
  exact (Below.refl _ _).alloc (Nat.le_refl _) _
/-- A struct's fields. -/
theorem ep_field (a b c : Value) (w : World) : (Instr.field 100 (.agg #[a, b, c]) 0).run Tryd.prog w = .ok (.agg #[a, b]) w ∧ (Instr.field 100 (.agg #[a, b, c]) 1).run Tryd.prog w = .ok (.agg #[c]) w ∧
    (Instr.field 96 (.agg #[a, b]) 0).run Tryd.prog w = .ok a w ∧ (Instr.field 96 (.agg #[a, b]) 1).run Tryd.prog w = .ok b w ∧ (Instr.field 98 (.agg #[c]) 0).run Tryd.prog w = .ok c w :=
  ⟨by kernel_rfl, by kernel_rfl, by kernel_rfl, by kernel_rfl, by kernel_rfl⟩
theorem noww (x : Int) (w : World) (h1 : 0 ≤ x) (h2 : x < 18446744073709551616) :
    Calls Tryd.prog 32 #[.int .u64 x] w fun e w' => e = .returned (.int .i64 (nowf x)) ∧ Below w.heap.size w w' := by
  have f1 := fun w => (ep_field (.int .i64 (nowf x)) (.int .i64 (atf x)) (.int .i64 (genf x)) w).1
  have f2 := fun w => (ep_field (.int .i64 (nowf x)) (.int .i64 (atf x)) (.int .i64 (genf x)) w).2.2.1
  go_enter Tryd.func32, Tryd.ntmps32
  go_wp2_with fail
  refine (readw _ _ h1 h2).mono ?_
  rintro e w' ⟨rfl, hk⟩
  go_wp2_with fail
  go_ret
  exact ⟨rfl, hk⟩
theorem atw (x : Int) (w : World) (h1 : 0 ≤ x) (h2 : x < 18446744073709551616) :
    Calls Tryd.prog 87 #[.int .u64 x] w fun e w' => e = .returned (.int .i64 (atf x)) ∧ Below w.heap.size w w' := by
  have f1 := fun w => (ep_field (.int .i64 (nowf x)) (.int .i64 (atf x)) (.int .i64 (genf x)) w).1
  have f2 := fun w => (ep_field (.int .i64 (nowf x)) (.int .i64 (atf x)) (.int .i64 (genf x)) w).2.2.2.1
  go_enter Tryd.func87, Tryd.ntmps87
  go_wp2_with fail
  refine (readw _ _ h1 h2).mono ?_
  rintro e w' ⟨rfl, hk⟩
  go_wp2_with fail
  go_ret
  exact ⟨rfl, hk⟩
theorem genw (x : Int) (w : World) (h1 : 0 ≤ x) (h2 : x < 18446744073709551616) :
    Calls Tryd.prog 31 #[.int .u64 x] w fun e w' => e = .returned (.int .i64 (genf x)) ∧ Below w.heap.size w w' := by
  have f1 := fun w => (ep_field (.int .i64 (nowf x)) (.int .i64 (atf x)) (.int .i64 (genf x)) w).2.1
  have f2 := fun w => (ep_field (.int .i64 (nowf x)) (.int .i64 (atf x)) (.int .i64 (genf x)) w).2.2.2.2
  go_enter Tryd.func31, Tryd.ntmps31
  go_wp2_with fail
  refine (readw _ _ h1 h2).mono ?_
  rintro e w' ⟨rfl, hk⟩
  go_wp2_with fail
  go_ret
  exact ⟨rfl, hk⟩
def putf (n a g : Int) : Int := n % 16777216 + a % 16777216 * 16777216 + g % 65536 * 281474976710656
theorem put_bits (n a g : Int) (h1 : 0 ≤ n) (h2 : n < 16777216) (h3 : 0 ≤ a) (h4 : a < 16777216) (h5 : 0 ≤ g) (h6 : g < 65536) : bits .or .u64 (bits .or .u64 n (a * 16777216)) (g * 281474976710656) = n + a * 16777216 + g * 281474976710656 := by
  have j := fun i x y hx0 hx hx1 hy0 hy hy1 => bits_join .u64 64 (by decide) (fun n a b => by rw [IntKind.wrap_u64]; omega) i x y hx0 hx hx1 hy0 hy hy1
  have c : ∀ (x y : Int), 0 ≤ x → x < 18446744073709551616 → 0 ≤ y → y < 18446744073709551616 → bits .or .u64 x y = bits .or .u64 y x := by
    intro x y a b c d
    obtain ⟨x, rfl⟩ := Int.eq_ofNat_of_zero_le a
    obtain ⟨y, rfl⟩ := Int.eq_ofNat_of_zero_le c
    rw [(bits_nat .u64 64 (by decide) (fun n a b => by rw [IntKind.wrap_u64]; omega) x y (by omega) (by omega)).2, (bits_nat .u64 64 (by decide) (fun n a b => by rw [IntKind.wrap_u64]; omega) y x (by omega) (by omega)).2, Nat.or_comm]
  rw [c n _ h1 (by omega) (by omega) (by omega), j 24 (a * 16777216) n (by omega) (by omega) (by omega) (by omega) (by omega) (by omega)]
  rw [c (a * 16777216 + n) (g * 281474976710656) (by omega) (by omega) (by omega) (by omega), j 48 (g * 281474976710656) (a * 16777216 + n) (by omega) (by omega) (by omega) (by omega) (by omega) (by omega)]
  omega
theorem putw (n a g : Int) (w : World) :
    Calls Tryd.prog 35 #[.int .i64 n, .int .i64 a, .int .i64 g] w fun e w' => e = .returned (.int .u64 (putf n a g)) ∧ w = w' := by
  obtain ⟨pn, en⟩ : ∃ p, n % 16777216 = p := ⟨_, rfl⟩
  obtain ⟨pa, ea⟩ : ∃ p, a % 16777216 = p := ⟨_, rfl⟩
  obtain ⟨pg, eg⟩ : ∃ p, g % 65536 = p := ⟨_, rfl⟩
  have m1 : bits .and .u64 (IntKind.u64.wrap n) 16777215 = pn := by
    rw [IntKind.wrap_u64, show (16777215 : Int) = 2 ^ 24 - 1 by decide, mask_u64 24 (by decide) _ (by omega) (by omega)]; omega
  have m2 : bits .and .u64 (IntKind.u64.wrap a) 16777215 = pa := by
    rw [IntKind.wrap_u64, show (16777215 : Int) = 2 ^ 24 - 1 by decide, mask_u64 24 (by decide) _ (by omega) (by omega)]; omega
  have m3 : bits .and .u64 (IntKind.u64.wrap g) 65535 = pg := by
    rw [IntKind.wrap_u64, show (65535 : Int) = 2 ^ 16 - 1 by decide, mask_u64 16 (by decide) _ (by omega) (by omega)]; omega
  have pb := put_bits pn pa pg (by omega) (by omega) (by omega) (by omega) (by omega) (by omega)
  have ef : putf n a g = pn + pa * 16777216 + pg * 281474976710656 := by unfold putf; rw [en, ea, eg]
  have b1 : 0 ≤ pn := by omega
  have b2 : pn < 16777216 := by omega
  have b3 : 0 ≤ pa := by omega
  have b4 : pa < 16777216 := by omega
  have b5 : 0 ≤ pg := by omega
  have b6 : pg < 65536 := by omega
  have EF := Lib.hid ef
  clear ef en ea eg
  go_enter Tryd.func35, Tryd.ntmps35
  go_wp2
  go_ret
  exact ⟨ret_u64 EF.out.symm, rfl⟩

theorem wordw (n a g : Int) (w : World) :
    Calls Tryd.prog 43 #[.agg #[.int .i64 n, .int .i64 a, .int .i64 g]] w fun e w' => e = .returned (.int .u64 (putf n a g)) ∧ Below w.heap.size w w' := by
  go_enter Tryd.func43, Tryd.ntmps43
  go_wp2_with fail
  refine (putw _ _ _ _).mono ?_
  rintro e w' ⟨rfl, rfl⟩
  go_wp2_with fail
  go_ret
  exact ⟨rfl, (Below.refl _ _).alloc (Nat.le_refl _) _⟩
theorem tick_a1 (x n a g : Int) (w : World) (h1 : 0 ≤ x) (h2 : x < 18446744073709551616) (hn : nowf x = n) (ha : atf x = a) (hg : genf x = g) (a1 : 0 ≤ n) (a2 : n ≤ 16777215) (a3 : 0 ≤ a) (a4 : a ≤ 16777215) (a5 : 0 ≤ g) (a6 : g ≤ 65535) (c0 : n < 16777215) (c1 : 0 < a) (c2 : a ≤ n + 1) (c3 : g < 65535) :
    Calls Tryd.prog 29 #[.int .u64 x] w fun e w' => e = .returned (.int .u64 (putf (n + 1) 0 (g + 1))) ∧ Below w.heap.size w w' := by
  go_enter Tryd.func29, Tryd.ntmps29
  go_wp2_with fail
  refine (readw _ _ h1 h2).mono ?_
  rintro e w' ⟨rfl, hk⟩
  have hs := hk.size
  go_wp2_with fail
  go_in
  go_wp2_with fail
  go_end0
  go_wp2_with fail
  refine (wordw _ _ _ _).mono ?_
  rintro e w2 ⟨rfl, hk2⟩
  go_wp2_with fail
  go_ret
  exact ⟨rfl, (hk.alloc hs _).trans (hk2.mono (by simp; omega))⟩
theorem tick_a2 (x n a g : Int) (w : World) (h1 : 0 ≤ x) (h2 : x < 18446744073709551616) (hn : nowf x = n) (ha : atf x = a) (hg : genf x = g) (a1 : 0 ≤ n) (a2 : n ≤ 16777215) (a3 : 0 ≤ a) (a4 : a ≤ 16777215) (a5 : 0 ≤ g) (a6 : g ≤ 65535) (c0 : n < 16777215) (c1 : 0 < a) (c2 : a ≤ n + 1) (c3 : ¬ g < 65535) :
    Calls Tryd.prog 29 #[.int .u64 x] w fun e w' => e = .returned (.int .u64 (putf (n + 1) 0 65535)) ∧ Below w.heap.size w w' := by
  go_enter Tryd.func29, Tryd.ntmps29
  go_wp2_with fail
  refine (readw _ _ h1 h2).mono ?_
  rintro e w' ⟨rfl, hk⟩
  have hs := hk.size
  go_wp2_with fail
  go_in
  go_wp2_with fail
  go_end0
  go_wp2_with fail
  refine (wordw _ _ _ _).mono ?_
  rintro e w2 ⟨rfl, hk2⟩
  go_wp2_with fail
  go_ret
  exact ⟨rfl, (hk.alloc hs _).trans (hk2.mono (by simp; omega))⟩
theorem tick_b1 (x n a g : Int) (w : World) (h1 : 0 ≤ x) (h2 : x < 18446744073709551616) (hn : nowf x = n) (ha : atf x = a) (hg : genf x = g) (a1 : 0 ≤ n) (a2 : n ≤ 16777215) (a3 : 0 ≤ a) (a4 : a ≤ 16777215) (a5 : 0 ≤ g) (a6 : g ≤ 65535) (c0 : n < 16777215) (c1 : 0 < a) (c2 : n + 1 < a) :
    Calls Tryd.prog 29 #[.int .u64 x] w fun e w' => e = .returned (.int .u64 (putf (n + 1) a g)) ∧ Below w.heap.size w w' := by
  go_enter Tryd.func29, Tryd.ntmps29
  go_wp2_with fail
  refine (readw _ _ h1 h2).mono ?_
  rintro e w' ⟨rfl, hk⟩
  have hs := hk.size
  go_wp2_with fail
  refine (wordw _ _ _ _).mono ?_
  rintro e w2 ⟨rfl, hk2⟩
  go_wp2_with fail
  go_ret
  exact ⟨rfl, (hk.alloc hs _).trans (hk2.mono (by simp; omega))⟩
theorem tick_c1 (x n a g : Int) (w : World) (h1 : 0 ≤ x) (h2 : x < 18446744073709551616) (hn : nowf x = n) (ha : atf x = a) (hg : genf x = g) (a1 : 0 ≤ n) (a2 : n ≤ 16777215) (a3 : 0 ≤ a) (a4 : a ≤ 16777215) (a5 : 0 ≤ g) (a6 : g ≤ 65535) (c0 : n < 16777215) (c1 : ¬ 0 < a) :
    Calls Tryd.prog 29 #[.int .u64 x] w fun e w' => e = .returned (.int .u64 (putf (n + 1) a g)) ∧ Below w.heap.size w w' := by
  go_enter Tryd.func29, Tryd.ntmps29
  go_wp2_with fail
  refine (readw _ _ h1 h2).mono ?_
  rintro e w' ⟨rfl, hk⟩
  have hs := hk.size
  go_wp2_with fail
  refine (wordw _ _ _ _).mono ?_
  rintro e w2 ⟨rfl, hk2⟩
  go_wp2_with fail
  go_ret
  exact ⟨rfl, (hk.alloc hs _).trans (hk2.mono (by simp; omega))⟩
theorem tick_a3 (x n a g : Int) (w : World) (h1 : 0 ≤ x) (h2 : x < 18446744073709551616) (hn : nowf x = n) (ha : atf x = a) (hg : genf x = g) (a1 : 0 ≤ n) (a2 : n ≤ 16777215) (a3 : 0 ≤ a) (a4 : a ≤ 16777215) (a5 : 0 ≤ g) (a6 : g ≤ 65535) (c0 : ¬ n < 16777215) (c1 : 0 < a) (c2 : a ≤ 16777215) (c3 : g < 65535) :
    Calls Tryd.prog 29 #[.int .u64 x] w fun e w' => e = .returned (.int .u64 (putf 16777215 0 (g + 1))) ∧ Below w.heap.size w w' := by
  go_enter Tryd.func29, Tryd.ntmps29
  go_wp2_with fail
  refine (readw _ _ h1 h2).mono ?_
  rintro e w' ⟨rfl, hk⟩
  have hs := hk.size
  go_wp2_with fail
  go_in
  go_wp2_with fail
  go_end0
  go_wp2_with fail
  refine (wordw _ _ _ _).mono ?_
  rintro e w2 ⟨rfl, hk2⟩
  go_wp2_with fail
  go_ret
  exact ⟨rfl, (hk.alloc hs _).trans (hk2.mono (by simp; omega))⟩
theorem tick_a4 (x n a g : Int) (w : World) (h1 : 0 ≤ x) (h2 : x < 18446744073709551616) (hn : nowf x = n) (ha : atf x = a) (hg : genf x = g) (a1 : 0 ≤ n) (a2 : n ≤ 16777215) (a3 : 0 ≤ a) (a4 : a ≤ 16777215) (a5 : 0 ≤ g) (a6 : g ≤ 65535) (c0 : ¬ n < 16777215) (c1 : 0 < a) (c2 : a ≤ 16777215) (c3 : ¬ g < 65535) :
    Calls Tryd.prog 29 #[.int .u64 x] w fun e w' => e = .returned (.int .u64 (putf 16777215 0 65535)) ∧ Below w.heap.size w w' := by
  go_enter Tryd.func29, Tryd.ntmps29
  go_wp2_with fail
  refine (readw _ _ h1 h2).mono ?_
  rintro e w' ⟨rfl, hk⟩
  have hs := hk.size
  go_wp2_with fail
  go_in
  go_wp2_with fail
  go_end0
  go_wp2_with fail
  refine (wordw _ _ _ _).mono ?_
  rintro e w2 ⟨rfl, hk2⟩
  go_wp2_with fail
  go_ret
  exact ⟨rfl, (hk.alloc hs _).trans (hk2.mono (by simp; omega))⟩
theorem tick_c2 (x n a g : Int) (w : World) (h1 : 0 ≤ x) (h2 : x < 18446744073709551616) (hn : nowf x = n) (ha : atf x = a) (hg : genf x = g) (a1 : 0 ≤ n) (a2 : n ≤ 16777215) (a3 : 0 ≤ a) (a4 : a ≤ 16777215) (a5 : 0 ≤ g) (a6 : g ≤ 65535) (c0 : ¬ n < 16777215) (c1 : ¬ 0 < a) :
    Calls Tryd.prog 29 #[.int .u64 x] w fun e w' => e = .returned (.int .u64 (putf 16777215 a g)) ∧ Below w.heap.size w w' := by
  go_enter Tryd.func29, Tryd.ntmps29
  go_wp2_with fail
  refine (readw _ _ h1 h2).mono ?_
  rintro e w' ⟨rfl, hk⟩
  have hs := hk.size
  go_wp2_with fail
  refine (wordw _ _ _ _).mono ?_
  rintro e w2 ⟨rfl, hk2⟩
  go_wp2_with fail
  go_ret
  exact ⟨rfl, (hk.alloc hs _).trans (hk2.mono (by simp; omega))⟩
end Go.Proofs.YtmjklkcjinfmaaaDoor
/- Next: Contracts of package epochs: ticks, flushes, when items die. -/
namespace Go.Proofs.YtmjklkcjinfmaaaDoor
open Go.RowKit
set_option linter.unusedVariables false

def tickf (x : Int) : Int :=
  if nowf x < 16777215 then
    if 0 < atf x ∧ atf x ≤ nowf x + 1 then putf (nowf x + 1) 0 (if genf x < 65535 then genf x + 1 else 65535) else putf (nowf x + 1) (atf x) (genf x)
  else if 0 < atf x then putf 16777215 0 (if genf x < 65535 then genf x + 1 else 65535) else putf 16777215 (atf x) (genf x)
theorem tickw (x : Int) (w : World) (h1 : 0 ≤ x) (h2 : x < 18446744073709551616) :
    Calls Tryd.prog 29 #[.int .u64 x] w fun e w' => e = .returned (.int .u64 (tickf x)) ∧ Below w.heap.size w w' := by
  obtain ⟨⟨a1, a2⟩, ⟨a3, a4⟩, ⟨a5, a6⟩⟩ := ep_range x
  unfold tickf
  by_cases c1 : nowf x < 16777215
  · rw [if_pos c1]
    by_cases c2 : 0 < atf x
    · by_cases c3 : atf x ≤ nowf x + 1
      · rw [if_pos ⟨c2, c3⟩]
        by_cases c4 : genf x < 65535
        · rw [if_pos c4]; exact tick_a1 x _ _ _ w h1 h2 rfl rfl rfl a1 a2 a3 a4 a5 a6 c1 c2 c3 c4
        · rw [if_neg c4]; exact tick_a2 x _ _ _ w h1 h2 rfl rfl rfl a1 a2 a3 a4 a5 a6 c1 c2 c3 c4
      · rw [if_neg (by omega)]; exact tick_b1 x _ _ _ w h1 h2 rfl rfl rfl a1 a2 a3 a4 a5 a6 c1 c2 (by omega)
    · rw [if_neg (by omega)]; exact tick_c1 x _ _ _ w h1 h2 rfl rfl rfl a1 a2 a3 a4 a5 a6 c1 c2
  · rw [if_neg c1]
    by_cases c2 : 0 < atf x
    · rw [if_pos c2]
      by_cases c4 : genf x < 65535
      · rw [if_pos c4]; exact tick_a3 x _ _ _ w h1 h2 rfl rfl rfl a1 a2 a3 a4 a5 a6 c1 c2 a4 c4
      · rw [if_neg c4]; exact tick_a4 x _ _ _ w h1 h2 rfl rfl rfl a1 a2 a3 a4 a5 a6 c1 c2 a4 c4
    · rw [if_neg c2]; exact tick_c2 x _ _ _ w h1 h2 rfl rfl rfl a1 a2 a3 a4 a5 a6 c1 c2

def flushes (x : Int) : Bool := decide (genf x < 65535)
def flushf (x d : Int) : Int := if genf x < 65535 then (if d < 1 then putf (nowf x) 0 (genf x + 1) else putf (nowf x) (if d < 16777215 - nowf x then nowf x + d else 16777215) (genf x)) else x
theorem flush_no (x d : Int) (w : World) (h1 : 0 ≤ x) (h2 : x < 18446744073709551616) (c : genf x = 65535) :
    Calls Tryd.prog 94 #[.int .u64 x, .int .i64 d] w fun e w' => e = .returned (.tuple #[.int .u64 x, .bool false]) ∧ Below w.heap.size w w' := by
  have cb : (genf x == 65535) = true := by simpa using c
  clear c
  go_enter Tryd.func94, Tryd.ntmps94
  go_wp2_with fail
  refine (readw _ _ h1 h2).mono ?_
  rintro e w' ⟨rfl, hk⟩
  have hs := hk.size
  go_wp2_with fail
  go_ret2
  exact ⟨rfl, hk.alloc hs _⟩
theorem flush_now (x n a g d : Int) (w : World) (h1 : 0 ≤ x) (h2 : x < 18446744073709551616) (hn : nowf x = n) (ha : atf x = a) (hg : genf x = g) (a5 : 0 ≤ g) (c : g < 65535) (cd : d < 1) :
    Calls Tryd.prog 94 #[.int .u64 x, .int .i64 d] w fun e w' => e = .returned (.tuple #[.int .u64 (putf n 0 (g + 1)), .bool true]) ∧ Below w.heap.size w w' := by
  have cb : (g == 65535) = false := by rw [beq_eq_false_iff_ne]; omega
  go_enter Tryd.func94, Tryd.ntmps94
  go_wp2_with fail
  refine (readw _ _ h1 h2).mono ?_
  rintro e w' ⟨rfl, hk⟩
  have hs := hk.size
  go_wp2_with fail
  go_in
  go_wp2_with fail
  go_end0
  go_wp2_with fail
  refine (wordw _ _ _ _).mono ?_
  rintro e w2 ⟨rfl, hk2⟩
  go_wp2_with fail
  go_ret2
  exact ⟨rfl, (hk.alloc hs _).trans (hk2.mono (by simp; omega))⟩
theorem flush_far (x n a g d : Int) (w : World) (h1 : 0 ≤ x) (h2 : x < 18446744073709551616) (hn : nowf x = n) (ha : atf x = a) (hg : genf x = g) (a1 : 0 ≤ n) (a2 : n ≤ 16777215) (a5 : 0 ≤ g) (c : g < 65535) (cd : ¬ d < 1) (ce : 16777215 - n < d) :
    Calls Tryd.prog 94 #[.int .u64 x, .int .i64 d] w fun e w' => e = .returned (.tuple #[.int .u64 (putf n 16777215 g), .bool true]) ∧ Below w.heap.size w w' := by
  have cb : (g == 65535) = false := by rw [beq_eq_false_iff_ne]; omega
  have e16 : n + (16777215 - n) = 16777215 := by omega
  go_enter Tryd.func94, Tryd.ntmps94
  go_wp2_with fail
  refine (readw _ _ h1 h2).mono ?_
  rintro e w' ⟨rfl, hk⟩
  have hs := hk.size
  go_wp2_with fail
  refine (wordw _ _ _ _).mono ?_
  rintro e w2 ⟨rfl, hk2⟩
  go_wp2_with fail
  go_ret2
  exact ⟨rfl, (hk.alloc hs _).trans (hk2.mono (by simp; omega))⟩
theorem flush_in (x n a g d : Int) (w : World) (h1 : 0 ≤ x) (h2 : x < 18446744073709551616) (hn : nowf x = n) (ha : atf x = a) (hg : genf x = g) (a1 : 0 ≤ n) (a2 : n ≤ 16777215) (a5 : 0 ≤ g) (c : g < 65535) (cd : ¬ d < 1) (ce : ¬ 16777215 - n < d) :
    Calls Tryd.prog 94 #[.int .u64 x, .int .i64 d] w fun e w' => e = .returned (.tuple #[.int .u64 (putf n (n + d) g), .bool true]) ∧ Below w.heap.size w w' := by
  have cb : (g == 65535) = false := by rw [beq_eq_false_iff_ne]; omega
  go_enter Tryd.func94, Tryd.ntmps94
  go_wp2_with fail
  refine (readw _ _ h1 h2).mono ?_
  rintro e w' ⟨rfl, hk⟩
  have hs := hk.size
  go_wp2_with fail
  refine (wordw _ _ _ _).mono ?_
  rintro e w2 ⟨rfl, hk2⟩
  go_wp2_with fail
  go_ret2
  exact ⟨rfl, (hk.alloc hs _).trans (hk2.mono (by simp; omega))⟩

theorem flushw (x d : Int) (w : World) (h1 : 0 ≤ x) (h2 : x < 18446744073709551616) :
    Calls Tryd.prog 94 #[.int .u64 x, .int .i64 d] w fun e w' => e = .returned (.tuple #[.int .u64 (flushf x d), .bool (flushes x)]) ∧ Below w.heap.size w w' := by
  obtain ⟨⟨a1, a2⟩, ⟨a3, a4⟩, ⟨a5, a6⟩⟩ := ep_range x
  unfold flushf flushes
  by_cases c : genf x < 65535
  · rw [if_pos c, decide_eq_true c]
    by_cases cd : d < 1
    · rw [if_pos cd]; exact flush_now x _ _ _ d w h1 h2 rfl rfl rfl a5 c cd
    · rw [if_neg cd]
      by_cases ce : 16777215 - nowf x < d
      · rw [if_neg (by omega)]; exact flush_far x _ _ _ d w h1 h2 rfl rfl rfl a1 a2 a5 c cd ce
      · have e : (if d < 16777215 - nowf x then nowf x + d else 16777215) = nowf x + d := by split <;> omega
        rw [e]; exact flush_in x _ _ _ d w h1 h2 rfl rfl rfl a1 a2 a5 c cd ce
  · rw [if_neg c, decide_eq_false c]; exact flush_no x d w h1 h2 (by omega)

def diesf (x e : Int) : Int := if e = 0 then -1 else if e < 0 then nowf x else if e ≤ 2592000 then nowf x + e else e
theorem diesw (x d : Int) (w : World) (h1 : 0 ≤ x) (h2 : x < 18446744073709551616) (e1 : d ≤ 9223372036854775807):
    Calls Tryd.prog 92 #[.int .u64 x, .int .i64 d] w fun e w' => e = .returned (.int .i64 (diesf x d)) ∧ Below w.heap.size w w' := by
  obtain ⟨⟨a1, a2⟩, _⟩ := ep_range x
  by_cases c1 : d = 0
  · subst c1
    go_enter Tryd.func92, Tryd.ntmps92
    go_wp2_with fail
    go_ret
    exact ⟨rfl, Below.refl _ _⟩
  · have cb : (d == 0) = false := by simpa using c1
    by_cases c2 : d < 0
    · have e : diesf x d = nowf x := by unfold diesf; rw [if_neg c1, if_pos c2]
      rw [e]
      clear e c1
      go_enter Tryd.func92, Tryd.ntmps92
      go_wp2_with fail
      refine (noww _ _ h1 h2).mono ?_
      rintro e w' ⟨rfl, hk⟩
      go_wp2_with fail
      go_ret
      exact ⟨rfl, hk⟩
    · by_cases c3 : d ≤ 2592000
      · have e : diesf x d = nowf x + d := by unfold diesf; rw [if_neg c1, if_neg c2, if_pos c3]
        rw [e]
        clear e c1
        go_enter Tryd.func92, Tryd.ntmps92
        go_wp2_with fail
        refine (noww _ _ h1 h2).mono ?_
        rintro e w' ⟨rfl, hk⟩
        go_wp2_with fail
        go_ret
        exact ⟨rfl, hk⟩
      · have e : diesf x d = d := by unfold diesf; rw [if_neg c1, if_neg c2, if_neg c3]
        rw [e]
        clear e c1
        go_enter Tryd.func92, Tryd.ntmps92
        go_wp2_with fail
        go_ret
        exact ⟨rfl, Below.refl _ _⟩

theorem ownw (g h : Int) (w : World) : Calls Tryd.prog 44 #[.agg #[.int .i64 g], .int .i64 h] w fun e w' => e = .returned (.bool (g == h)) ∧ Below w.heap.size w w' := by
  go_enter Tryd.func44, Tryd.ntmps44
  go_wp2_with fail
  go_ret
  exact ⟨rfl, (Below.refl _ _).alloc (Nat.le_refl _) _⟩
theorem outlivedw (n a d : Int) (w : World) : Calls Tryd.prog 45 #[.agg #[.int .i64 n, .int .i64 a], .int .i64 d] w fun e w' => e = .returned (.bool (d != -1 && decide (d ≤ n))) ∧ Below w.heap.size w w' := by
  by_cases c : d = -1
  · subst c
    go_enter Tryd.func45, Tryd.ntmps45
    go_wp2_with fail
    go_ret
    exact ⟨ret_bool (by simp), (Below.refl _ _).alloc (Nat.le_refl _) _⟩
  · have cb : (d != -1) = true := by simpa using c
    clear c
    go_enter Tryd.func45, Tryd.ntmps45
    go_wp2_with fail
    go_ret
    exact ⟨ret_bool (by rw [cb]; simp), (Below.refl _ _).alloc (Nat.le_refl _) _⟩
def alivef (g d x : Int) : Bool := genf x == g && !(d != -1 && decide (d ≤ nowf x))
theorem alivew (k v : ByteArray) (fl id d g x : Int) (w : World) (h1 : 0 ≤ x) (h2 : x < 18446744073709551616) :
    Calls Tryd.prog 30 #[.agg #[.string k, .string v, .int .u32 fl, .int .u64 id, .int .i64 d, .int .i64 g], .int .u64 x] w fun e w' => e = .returned (.bool (alivef g d x)) ∧ Below w.heap.size w w' := by
  go_enter Tryd.func30, Tryd.ntmps30
  go_wp2_with fail
  refine (readw _ _ h1 h2).mono ?_
  rintro e w1 ⟨rfl, hk⟩
  have hbase : Below w.heap.size w w1 := ((Below.refl _ _).alloc (Nat.le_refl _) _).trans (hk.mono (by simp))
  have d5 : w1.cell? ⟨w.heap.size, 5, none⟩ = some (.int .i64 g) := (hk.cell (p := ⟨w.heap.size, 5, none⟩) (by simp)).trans (by simp)
  have d4 : w1.cell? ⟨w.heap.size, 4, none⟩ = some (.int .i64 d) := (hk.cell (p := ⟨w.heap.size, 4, none⟩) (by simp)).trans (by simp)
  have hs1 : w.heap.size < w1.heap.size := by have := hk.size; simp at this; omega
  clear hk
  go_wp2_with fail
  refine (ownw _ _ _).mono ?_
  rintro e w2 ⟨rfl, hk2⟩
  have d4' : w2.cell? ⟨w.heap.size, 4, none⟩ = some (.int .i64 d) := (hk2.cell (p := ⟨w.heap.size, 4, none⟩) (by simp; omega)).trans (by rw [World.cell?_alloc_past _ _ _ (by exact hs1)]; exact d4)
  have e0 : w2.cell? ⟨w1.heap.size, 0, none⟩ = some (.int .i64 (nowf x)) := (hk2.cell (p := ⟨w1.heap.size, 0, none⟩) (by simp)).trans (by simp)
  have e1 : w2.cell? ⟨w1.heap.size, 1, none⟩ = some (.int .i64 (atf x)) := (hk2.cell (p := ⟨w1.heap.size, 1, none⟩) (by simp)).trans (by simp)
  have hb2 : Below w.heap.size w w2 := (hbase.alloc (by omega) _).trans (hk2.mono (by simp; omega))
  by_cases c : genf x = g
  · have cb : (genf x == g) = true := by simpa using c
    clear c
    go_wp2_with fail
    refine (outlivedw _ _ _ _).mono ?_
    rintro e w3 ⟨rfl, hk3⟩
    go_wp2_with fail
    go_ret
    exact ⟨ret_bool (by unfold alivef; rw [cb]; simp), hb2.trans (hk3.mono hb2.size)⟩
  · have cb : (genf x == g) = false := by simpa using c
    clear c
    go_wp2_with fail
    go_ret
    exact ⟨ret_bool (by unfold alivef; rw [cb]; simp), hb2⟩
end Go.Proofs.YtmjklkcjinfmaaaDoor
