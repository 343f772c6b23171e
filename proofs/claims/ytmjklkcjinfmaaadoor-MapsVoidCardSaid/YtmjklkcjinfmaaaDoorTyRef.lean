/- Contracts of the chapter's answers: a number's own text; counting up and down. -/
import Derived.Test.YtmjklkcjinfmaaaDoorTy
namespace Go.Proofs.YtmjklkcjinfmaaaDoor
open Go.RowKit
set_option linter.unusedVariables false

theorem ret_ty (a b : Int) (h : a = b) : Ending.returned (.int .u64 a) = .returned (.int .u64 b) := by rw [h]
def tenD : ByteArray := ⟨#[48, 49, 50, 51, 52, 53, 54, 55, 56, 57]⟩
theorem tenD_at {d : Nat} (h : d < 10) : tenD.extract d (d + 1) = ⟨#[UInt8.ofNat (48 + d)]⟩ := by
  have : ∀ d : Fin 10, tenD.extract d.val (d.val + 1) = ⟨#[UInt8.ofNat (48 + d.val)]⟩ := by decide
  exact this ⟨d, h⟩
theorem cons_bytes (c : UInt8) (x : List UInt8) : (⟨#[c]⟩ : ByteArray) ++ ⟨x.toArray⟩ = ⟨(c :: x).toArray⟩ := by
  apply ByteArray.ext
  simp
theorem ret_str {a b : ByteArray} (h : a = b) : Ending.returned (.string a) = .returned (.string b) := by rw [h]
set_option maxHeartbeats 2000000 in
set_option maxRecDepth 100000 in
theorem reftext (u : Nat) (hu64 : u < 18446744073709551616) (w : World) :
    Calls Tryd.prog 82 #[.int .u64 u] w fun e w' => e = .returned (.string ⟨(Lib.decDigits u).toArray⟩) ∧ w = w' := by
  go_enter Tryd.func82, Tryd.ntmps82
  go_wp2_with fail
  go_loop [0, 3] (fun n s => ∃ (v : Nat) (x : List UInt8), n = .int .u64 v ∧ s = .string ⟨x.toArray⟩ ∧ v ≤ 18446744073709551615 ∧ Hid (Lib.decDigits v ++ x = Lib.decDigits u)) (fun n _ => (intOf n).toNat)
  case atStart => exact ⟨u, [], rfl, rfl, by omega, by show _ = _; simp⟩
  case round =>
    obtain ⟨v, x, rfl, rfl, hv, hX⟩ := hrel
    obtain ⟨d, hd⟩ : ∃ d : Nat, (d : Int) = (v : Int) % 10 := ⟨v % 10, by omega⟩
    obtain ⟨q, hq⟩ : ∃ q : Nat, (q : Int) = (v : Int) / 10 := ⟨v / 10, by omega⟩
    have hd10 : d < 10 := by omega
    have hex := tenD_at hd10
    obtain ⟨c, hc⟩ : ∃ c, c = UInt8.ofNat (48 + d) := ⟨_, rfl⟩
    rw [← hc] at hex
    unfold tenD at hex
    have y1 : (d : Int) + 1 ≤ 10 := by omega
    have hxl : x.length ≤ 20 := by
      have := congrArg List.length hX.out
      have h20 := (dec_len (u := u) (by omega)).2
      rw [List.length_append] at this
      omega
    have hlen : ¬ 9223372036854775807 < 1 + x.length := by omega
    by_cases h10 : v < 10
    · have hY : Hid (c :: x = Lib.decDigits u) := by
        show _ = _
        rw [← hX.out, dec_small h10, hc]
        have : d = v := by omega
        rw [this]; rfl
      have hq0 : q = 0 := by omega
      subst hq0
      have hd' : (v : Int) % 10 = d := hd.symm
      have hq' : (v : Int) / 10 = 0 := by omega
      clear hd hq hc hX h10
      go_wp2
      go_ret
      exact ⟨ret_str (by rw [cons_bytes, hY.out]), rfl⟩
    · have hY : Hid (Lib.decDigits q ++ (c :: x) = Lib.decDigits u) := by
        show _ = _
        rw [← hX.out, dec_big h10, hc]
        have h1 : v / 10 = q := by omega
        have h2 : v % 10 = d := by omega
        rw [h1, h2]; simp
      have hq0 : ((q : Int) == 0) = false := beq_eq_false_iff_ne.mpr (by omega)
      have hqv : q < v := by omega
      have hq1 : q ≤ 18446744073709551615 := by omega
      have hd' : (v : Int) % 10 = d := hd.symm
      have hq' : (v : Int) / 10 = q := hq.symm
      clear hd hq hc hX h10
      go_wp2
      go_round
      case rel => exact ⟨q, c :: x, rfl, by rw [cons_bytes], hq1, hY⟩
      case measure => simp [intOf]; omega
theorem refincr (n b : Int) (w : World) (n0 : 0 ≤ n) (n1 : n ≤ 18446744073709551615) (b0 : 0 ≤ b) (b1 : b ≤ 18446744073709551615) :
    Calls Tryd.prog 80 #[.int .u64 n, .int .u64 b] w fun e w' => e = .returned (.int .u64 (incrF n b)) ∧ w = w' := by
  go_enter Tryd.func80, Tryd.ntmps80
  go_wp2
  go_ret
  exact ⟨ret_ty _ _ (by unfold incrF; simp [IntKind.wrap, IntKind.bits, IntKind.signed]), rfl⟩
theorem refdecr (n b : Int) (w : World) (n0 : 0 ≤ n) (n1 : n ≤ 18446744073709551615) (b0 : 0 ≤ b) (b1 : b ≤ 18446744073709551615) :
    Calls Tryd.prog 81 #[.int .u64 n, .int .u64 b] w fun e w' => e = .returned (.int .u64 (decrF n b)) ∧ w = w' := by
  by_cases h : n < b
  · rw [show decrF n b = 0 by unfold decrF; rw [if_pos h]]
    go_enter Tryd.func81, Tryd.ntmps81
    go_wp2
    go_ret
    exact ⟨rfl, rfl⟩
  · rw [show decrF n b = n - b by unfold decrF; rw [if_neg h]]
    have q : decide (n < b) = false := decide_eq_false h
    have q0 : 0 ≤ n - b := by omega
    have q1 : n - b ≤ 18446744073709551615 := by omega
    clear h
    go_enter Tryd.func81, Tryd.ntmps81
    go_wp2
    go_ret
    exact ⟨rfl, rfl⟩
end Go.Proofs.YtmjklkcjinfmaaaDoor
