/- Contracts: counting up and down; may a key be, as the chapter says it. -/
import Derived.Test.YtmjklkcjinfmaaaDoorTyRef
import Derived.Test.YtmjklkcjinfmaaaDoorKy
namespace Go.Proofs.YtmjklkcjinfmaaaDoor
open Go.RowKit
set_option linter.unusedVariables false
theorem incrw (n b : Int) (w : World) (n0 : 0 ≤ n) (n1 : n ≤ 18446744073709551615) (b0 : 0 ≤ b) (b1 : b ≤ 18446744073709551615) :
    Calls Tryd.prog 69 #[.int .u64 n, .int .u64 b] w fun e w' => e = .returned (.int .u64 (incrF n b)) ∧ w = w' := by
  go_enter Tryd.func69, Tryd.ntmps69
  go_wp2
  go_ret
  exact ⟨ret_ty _ _ (by unfold incrF; simp [IntKind.wrap, IntKind.bits, IntKind.signed]), rfl⟩
theorem decrw (n b : Int) (w : World) (n0 : 0 ≤ n) (n1 : n ≤ 18446744073709551615) (b0 : 0 ≤ b) (b1 : b ≤ 18446744073709551615) :
    Calls Tryd.prog 70 #[.int .u64 n, .int .u64 b] w fun e w' => e = .returned (.int .u64 (decrF n b)) ∧ w = w' := by
  by_cases h : n < b
  · rw [show decrF n b = 0 by unfold decrF; rw [if_pos h]]
    go_enter Tryd.func70, Tryd.ntmps70
    go_wp2
    go_ret
    exact ⟨rfl, rfl⟩
  · rw [show decrF n b = n - b by unfold decrF; rw [if_neg h]]
    have q : decide (n < b) = false := decide_eq_false h
    have q0 : 0 ≤ n - b := by omega
    have q1 : n - b ≤ 18446744073709551615 := by omega
    clear h
    go_enter Tryd.func70, Tryd.ntmps70
    go_wp2
    go_ret
    exact ⟨rfl, rfl⟩
theorem refokw (s : ByteArray) (w : World) (hs : s.size ≤ maxLen) : Calls Tryd.prog 50 #[.string s] w fun e w' => e = .returned (.bool ((lookF s.data.toList).1 == 0)) ∧ w = w' := by
  go_enter Tryd.func50, Tryd.ntmps50
  go_wp2_with (go_at_call 77; refine (reflook _ _ hs).mono ?_; rintro e w' ⟨rfl, rfl⟩)
  go_ret
  exact ⟨rfl, rfl⟩
/-- A number's own text, of an integer. -/
theorem textnu (n : Int) (h0 : 0 ≤ n) (h1 : n ≤ 18446744073709551615) (w : World) (htab : Lib.TabIs Tryd.prog w "internal/strconv.uint64pow10" .u64 Lib.pow10Tab) :
    Calls Tryd.prog 33 #[.int .u64 n] w fun e w' => e = .returned (.string ⟨(Lib.decDigits n.natAbs).toArray⟩) ∧ Below w.heap.size w w' := by
  have h := textw n.natAbs (by omega) w htab
  rwa [Int.natAbs_of_nonneg h0] at h
theorem rtextnu (n : Int) (h0 : 0 ≤ n) (h1 : n ≤ 18446744073709551615) (w : World) :
    Calls Tryd.prog 82 #[.int .u64 n] w fun e w' => e = .returned (.string ⟨(Lib.decDigits n.natAbs).toArray⟩) ∧ w = w' := by
  have h := reftext n.natAbs (by omega) w
  rwa [Int.natAbs_of_nonneg h0] at h
/-- The table stands where new blocks alone turn. -/
theorem tab_below {P : Program} {w w' : World} {name : String} {k : IntKind} {zs : List Int} (h : Lib.TabIs P w name k zs) (hb : Below w.heap.size w w') : Lib.TabIs P w' name k zs := by
  unfold Lib.TabIs World.var? at *
  cases hg : P.globalNamed name with
  | none => simp [hg] at h
  | some g =>
    simp only [hg, Option.bind_some] at h ⊢
    have hlt : g < w.heap.size := by
      rcases Nat.lt_or_ge g w.heap.size with h' | h'
      · exact h'
      · rw [Array.getElem?_eq_none h'] at h; simp at h
    rw [hb.block g hlt]
    exact h
end Go.Proofs.YtmjklkcjinfmaaaDoor
