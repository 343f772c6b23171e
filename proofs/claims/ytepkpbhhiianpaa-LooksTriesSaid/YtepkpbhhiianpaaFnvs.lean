/- Contracts of package fnvs and of its chapter's answers. -/
import Derived.Test.YtepkpbhhiianpaaChecked
import Derived.Test.YtepkpbhhiianpaaLib
namespace Go.Proofs.Ytepkpbhhiianpaa
open Go.RowKit

theorem size_out (b : Int) (w : World) (h : b < 1 ∨ 12 < b) :
    Calls Try.prog 44 #[.int .i64 b] w fun e w' => e = .returned (.int .i64 0) ∧ w = w' := by
  rcases h with h | h
  · go_enter Try.func44, Try.ntmps44
    go_wp2
    go_ret
    exact ⟨rfl, rfl⟩
  · have h' : ¬ b < 1 := by omega
    go_enter Try.func44, Try.ntmps44
    go_wp2
    go_ret
    exact ⟨rfl, rfl⟩
theorem pow_le (b : Int) (h : 1 ≤ b) (h2 : b ≤ 12) : 2 ≤ (2:Int) ^ b.toNat ∧ (2:Int) ^ b.toNat ≤ 4096 := by
  obtain ⟨n, rfl⟩ := Int.eq_ofNat_of_zero_le (show 0 ≤ b by omega)
  have h1 : 1 ≤ n := by omega
  have h3 : n < 13 := by omega
  clear h h2
  simp only [Int.toNat_natCast]
  revert h1
  revert n
  decide
theorem size_in (b : Int) (w : World) (h : 1 ≤ b) (h2 : b ≤ 12) :
    Calls Try.prog 44 #[.int .i64 b] w fun e w' => e = .returned (.int .i64 (2 ^ b.toNat)) ∧ w = w' := by
  obtain ⟨p1, p2⟩ := pow_le b h h2
  go_enter Try.func44, Try.ntmps44
  go_wp2
  go_ret
  exact ⟨rfl, rfl⟩
theorem tag (h : Int) (w : World) (h1 : 0 ≤ h) (h2 : h < 18446744073709551616) :
    Calls Try.prog 72 #[.int .u64 h] w fun e w' => e = .returned (.int .i64 (max 1 (h / 72057594037927936))) ∧ w = w' := by
  by_cases hc : 1 < h / 72057594037927936
  all_goals
    go_enter Try.func72, Try.ntmps72
    go_wp2
    go_ret
    exact ⟨congrArg (fun x => Ending.returned (.int .i64 x)) (by omega), rfl⟩
theorem bucket (h b : Int) (w : World) (h1 : 0 ≤ h) (h2 : h < 18446744073709551616) (hb : 1 ≤ b) (hb2 : b ≤ 12) :
    Calls Try.prog 70 #[.int .u64 h, .int .i64 b] w fun e w' => e = .returned (.int .i64 (h % 2 ^ b.toNat)) ∧ w = w' := by
  obtain ⟨p1, p2⟩ := pow_le b hb hb2
  go_enter Try.func70, Try.ntmps70
  go_wp2_with (go_at_call 44; refine (size_in _ _ (by omega) (by omega)).mono ?_; rintro e w' ⟨rfl, rfl⟩)
  go_ret
  exact ⟨rfl, rfl⟩
theorem bucket_out (h b : Int) (w : World) (hb : b < 1 ∨ 12 < b) :
    Calls Try.prog 70 #[.int .u64 h, .int .i64 b] w fun e w' => e = .returned (.int .i64 (-1)) ∧ w = w' := by
  go_enter Try.func70, Try.ntmps70
  go_wp2_with (go_at_call 44; refine (size_out _ _ (by omega)).mono ?_; rintro e w' ⟨rfl, rfl⟩)
  go_ret
  exact ⟨rfl, rfl⟩
/-- The other bucket. -/
def oth (a t b : Int) : Int := bits BinOp.xor IntKind.i64 a (t * 1540483477 % 2 ^ b.toNat)
theorem other (a t b : Int) (w : World) (ha : 0 ≤ a) (ha2 : a < 2 ^ b.toNat) (ht : 1 ≤ t) (ht2 : t ≤ 255) (hb : 1 ≤ b) (hb2 : b ≤ 12) :
    Calls Try.prog 71 #[.int .i64 a, .int .i64 t, .int .i64 b] w fun e w' => e = .returned (.int .i64 (oth a t b)) ∧ w = w' := by
  obtain ⟨p1, p2⟩ := pow_le b hb hb2
  go_enter Try.func71, Try.ntmps71
  go_wp2_with (go_at_call 44; refine (size_in _ _ (by omega) (by omega)).mono ?_; rintro e w' ⟨rfl, rfl⟩)
  go_ret
  exact ⟨rfl, rfl⟩
theorem other_bits (a t b : Int) (w : World) (hb : b < 1 ∨ 12 < b) :
    Calls Try.prog 71 #[.int .i64 a, .int .i64 t, .int .i64 b] w fun e w' => e = .returned (.int .i64 (-1)) ∧ w = w' := by
  by_cases ha : a < 0
  all_goals
    go_enter Try.func71, Try.ntmps71
    go_wp2_with (go_at_call 44; refine (size_out _ _ (by omega)).mono ?_; rintro e w' ⟨rfl, rfl⟩)
    go_ret
    exact ⟨rfl, rfl⟩
theorem other_out (a t b : Int) (w : World) (hb : 1 ≤ b) (hb2 : b ≤ 12) (h : a < 0 ∨ 2 ^ b.toNat ≤ a ∨ t < 1 ∨ 255 < t) :
    Calls Try.prog 71 #[.int .i64 a, .int .i64 t, .int .i64 b] w fun e w' => e = .returned (.int .i64 (-1)) ∧ w = w' := by
  obtain ⟨p1, p2⟩ := pow_le b hb hb2
  by_cases h1 : a < 0
  case' neg => by_cases h2 : 2 ^ b.toNat ≤ a
  case' neg => by_cases h3 : t < 1
  case' neg => have h4 : 255 < t := by omega
  all_goals
    clear h
    go_enter Try.func71, Try.ntmps71
    go_wp2_with (go_at_call 44; refine (size_in _ _ (by omega) (by omega)).mono ?_; rintro e w' ⟨rfl, rfl⟩)
    go_ret
    exact ⟨rfl, rfl⟩
theorem stripe (a b : Int) (w : World) (ha : 0 ≤ a) (ha2 : a < 2 ^ b.toNat) (hb : 1 ≤ b) (hb2 : b ≤ 12) :
    Calls Try.prog 54 #[.agg #[.int .i64 b, .int .i64 a]] w fun e w' => e = .returned (.int .i64 ((a + 31 * b) % 64)) ∧ Below w.heap.size w w' := by
  obtain ⟨p1, p2⟩ := pow_le b hb hb2
  have hd : decide (a < 0) = false := by simpa using ha
  go_enter Try.func54, Try.ntmps54
  go_wp2_with fail
  go_quiet ((go_at_call 44; exact quiet_left (size_in _ _ (by omega) (by omega))))
  go_wp2
  go_ret
  exact ⟨rfl, below_drewN ((Below.refl _ _).alloc (Nat.le_refl _) _) _⟩
theorem stripe_out (a b : Int) (w : World) (h : b < 1 ∨ 12 < b ∨ a < 0 ∨ 2 ^ b.toNat ≤ a) :
    Calls Try.prog 54 #[.agg #[.int .i64 b, .int .i64 a]] w fun e w' => e = .returned (.int .i64 (-1)) ∧ Below w.heap.size w w' := by
  by_cases ha : a < 0
  · have hd : decide (a < 0) = true := by simpa using ha
    go_enter Try.func54, Try.ntmps54
    go_wp2_with fail
    go_quiet (fail)
    go_wp2
    go_ret
    exact ⟨rfl, below_drewN ((Below.refl _ _).alloc (Nat.le_refl _) _) _⟩
  · have hd : decide (a < 0) = false := by simpa using ha
    by_cases hb : b < 1 ∨ 12 < b
    · go_enter Try.func54, Try.ntmps54
      go_wp2_with fail
      go_quiet ((go_at_call 44; exact quiet_left (size_out _ _ hb)))
      go_wp2
      go_ret
      exact ⟨rfl, below_drewN ((Below.refl _ _).alloc (Nat.le_refl _) _) _⟩
    · have h1 : 1 ≤ b := by omega
      have h2 : b ≤ 12 := by omega
      have h3 : 2 ^ b.toNat ≤ a := by omega
      obtain ⟨p1, p2⟩ := pow_le b h1 h2
      clear h hb
      go_enter Try.func54, Try.ntmps54
      go_wp2_with fail
      go_quiet ((go_at_call 44; exact quiet_left (size_in _ _ h1 h2)))
      go_wp2
      go_ret
      exact ⟨rfl, below_drewN ((Below.refl _ _).alloc (Nat.le_refl _) _) _⟩
/-- A byte taken by a hash. -/
def hs1 (h : Int) (c : UInt8) : Int := IntKind.u64.wrap (bits BinOp.xor IntKind.u64 h (IntKind.u64.wrap c.toNat) * 1099511628211)
def hsl (l : List UInt8) : Int := l.foldl hs1 14695981039346656037
theorem hsl_snoc (l : List UInt8) (c : UInt8) : hsl (l ++ [c]) = hs1 (hsl l) c := by simp [hsl]
theorem take_snoc (s : ByteArray) (k : Nat) (h : k < s.size) : s.data.toList.take (k + 1) = s.data.toList.take k ++ [s[k]] := by
  rw [List.take_succ_eq_append_getElem (by simpa using h)]; rfl
theorem take_all (s : ByteArray) (k : Nat) (h : s.size ≤ k) : s.data.toList.take k = s.data.toList := by
  rw [List.take_of_length_le]
  have : s.data.toList.length = s.size := by simp
  omega
theorem hash (s : ByteArray) (w : World) (hs : s.size ≤ maxLen) :
    Calls Try.prog 27 #[.string s] w fun e w' => e = .returned (.int .u64 (hsl s.data.toList)) ∧ Below w.heap.size w w' := by
  unfold maxLen at hs
  go_enter Try.func27, Try.ntmps27
  go_wp2_with fail
  go_loopw [9] (fun i wr => ∃ (k : Nat) (h : Int), k ≤ s.size ∧ i = .int .i64 k ∧ Hid (h = hsl (s.data.toList.take k)) ∧ wr = w.alloc (.cells #[.int .u64 h] 114)) (fun i _ => s.size - (intOf i).toNat)
  case atStart => exact ⟨0, _, by omega, rfl, rfl, rfl⟩
  case round =>
    obtain ⟨k, h, hk, rfl, hh, rfl⟩ := hrel
    by_cases hlt : k < s.size
    · go_wp2
      go_end0
      go_wp2
      go_roundw
      case rel => exact ⟨k + 1, _, by omega, by go_num, by rw [take_snoc s k hlt, hsl_snoc, ← hh.out]; exact rfl, rfl⟩
      case measure => simp [intOf]; omega
    · go_wp2
      go_ret
      exact ⟨ret_int (by rw [hh.out, take_all s k (by omega)]), (Below.refl _ _).alloc (Nat.le_refl _) _⟩

/-! ### Each, whatever it is handed. -/
def szf (b : Int) : Int := if 1 ≤ b ∧ b ≤ 12 then 2 ^ b.toNat else 0
def bkt (h b : Int) : Int := if 1 ≤ b ∧ b ≤ 12 then h % 2 ^ b.toNat else -1
def othf (a t b : Int) : Int := if 1 ≤ b ∧ b ≤ 12 ∧ 0 ≤ a ∧ a < 2 ^ b.toNat ∧ 1 ≤ t ∧ t ≤ 255 then oth a t b else -1
def strf (a b : Int) : Int := if 1 ≤ b ∧ b ≤ 12 ∧ 0 ≤ a ∧ a < 2 ^ b.toNat then (a + 31 * b) % 64 else -1
theorem szf_range (b : Int) : 0 ≤ szf b ∧ szf b ≤ 4096 := by
  unfold szf
  split
  · have := pow_le b (by omega) (by omega); omega
  · omega
theorem size_any (b : Int) (w : World) : Calls Try.prog 44 #[.int .i64 b] w fun e w' => e = .returned (.int .i64 (szf b)) ∧ w = w' := by
  by_cases h : 1 ≤ b ∧ b ≤ 12
  · rw [show szf b = _ from if_pos h]; exact size_in b w h.1 h.2
  · rw [show szf b = _ from if_neg h]; exact size_out b w (by omega)
theorem bucket_any (h b : Int) (w : World) (h1 : 0 ≤ h) (h2 : h < 18446744073709551616) : Calls Try.prog 70 #[.int .u64 h, .int .i64 b] w fun e w' => e = .returned (.int .i64 (bkt h b)) ∧ w = w' := by
  by_cases c : 1 ≤ b ∧ b ≤ 12
  · rw [show bkt h b = _ from if_pos c]; exact bucket h b w h1 h2 c.1 c.2
  · rw [show bkt h b = _ from if_neg c]; exact bucket_out h b w (by omega)
theorem other_any (a t b : Int) (w : World) : Calls Try.prog 71 #[.int .i64 a, .int .i64 t, .int .i64 b] w fun e w' => e = .returned (.int .i64 (othf a t b)) ∧ w = w' := by
  by_cases c : 1 ≤ b ∧ b ≤ 12 ∧ 0 ≤ a ∧ a < 2 ^ b.toNat ∧ 1 ≤ t ∧ t ≤ 255
  · rw [show othf a t b = _ from if_pos c]; exact other a t b w (by omega) (by omega) (by omega) (by omega) (by omega) (by omega)
  · rw [show othf a t b = _ from if_neg c]
    by_cases d : 1 ≤ b ∧ b ≤ 12
    · exact other_out a t b w d.1 d.2 (by omega)
    · exact other_bits a t b w (by omega)
theorem stripe_any (a b : Int) (w : World) : Calls Try.prog 54 #[.agg #[.int .i64 b, .int .i64 a]] w fun e w' => e = .returned (.int .i64 (strf a b)) ∧ Below w.heap.size w w' := by
  by_cases c : 1 ≤ b ∧ b ≤ 12 ∧ 0 ≤ a ∧ a < 2 ^ b.toNat
  · rw [show strf a b = _ from if_pos c]; exact stripe a b w (by omega) (by omega) (by omega) (by omega)
  · rw [show strf a b = _ from if_neg c]; exact stripe_out a b w (by omega)
end Go.Proofs.Ytepkpbhhiianpaa
