/- Contracts of package fnvs and of its chapter's answers. -/
import Derived.Test.YtodppilfpemepaaGreatChecked
import Derived.Test.YtodppilfpemepaaGreatLib
namespace Go.Proofs.YtodppilfpemepaaGreat
open Go.RowKit

theorem size_out (b : Int) (w : World) (h : b < 1 ∨ 12 < b) :
    Calls Tryz.prog 26 #[.int .i64 b] w fun e w' => e = .returned (.int .i64 0) ∧ w = w' := by
  rcases h with h | h
  · go_enter Tryz.func26, Tryz.ntmps26
    go_wp2
    go_ret
    exact ⟨rfl, rfl⟩
  · have h' : ¬ b < 1 := by omega
    go_enter Tryz.func26, Tryz.ntmps26
    go_wp2
    go_ret
    exact ⟨rfl, rfl⟩
theorem pow_le (b : Int) (h : 1 ≤ b) (h2 : b ≤ 12) : 2 ≤ (2:Int) ^ b.toNat ∧ (2:Int) ^ b.toNat ≤ 4096 := by
  obtain ⟨n, rfl⟩ := Int.eq_ofNat_of_zero_le (show 0 ≤ b by omega)
  have h1 : 1 ≤ n := by omega
  have h3 : n < 13 := by omega
  clear h h2
  simp only [Int.toNat_natCast]
  revert h1
  revert n
  decide
theorem size_in (b : Int) (w : World) (h : 1 ≤ b) (h2 : b ≤ 12) :
    Calls Tryz.prog 26 #[.int .i64 b] w fun e w' => e = .returned (.int .i64 (2 ^ b.toNat)) ∧ w = w' := by
  obtain ⟨p1, p2⟩ := pow_le b h h2
  go_enter Tryz.func26, Tryz.ntmps26
  go_wp2
  go_ret
  exact ⟨rfl, rfl⟩
theorem refsize_out (b : Int) (w : World) (h : b < 1 ∨ 12 < b) :
    Calls Tryz.prog 104 #[.int .i64 b] w fun e w' => e = .returned (.int .i64 0) ∧ w = w' := by
  rcases h with h | h
  · go_enter Tryz.func104, Tryz.ntmps104
    go_wp2
    go_ret
    exact ⟨rfl, rfl⟩
  · have h' : ¬ b < 1 := by omega
    go_enter Tryz.func104, Tryz.ntmps104
    go_wp2
    go_ret
    exact ⟨rfl, rfl⟩
theorem refsize_in (b : Int) (w : World) (h : 1 ≤ b) (h2 : b ≤ 12) :
    Calls Tryz.prog 104 #[.int .i64 b] w fun e w' => e = .returned (.int .i64 (2 ^ b.toNat)) ∧ w = w' := by
  go_enter Tryz.func104, Tryz.ntmps104
  go_wp2
  go_loop [3, 4] (fun n i => ∃ k : Nat, (k : Int) ≤ b ∧ i = .int .i64 k ∧ n = .int .i64 (2 ^ k)) (fun _ i => (b - intOf i).toNat)
  case atStart => exact ⟨0, by omega, rfl, rfl⟩
  case round =>
    obtain ⟨k, hk, rfl, rfl⟩ := hrel
    by_cases hlt : (k : Int) < b
    · have hp := pow_le (k + 1) (by omega) (by omega)
      have e : ((k : Int) + 1).toNat = k + 1 := by omega
      rw [e, Int.pow_succ] at hp
      obtain ⟨q1, q2⟩ := hp
      clear e
      go_wp2
      go_round
      case rel => exact ⟨k + 1, by omega, by go_num, by rw [Int.pow_succ, Int.mul_comm]⟩
      case measure => simp [intOf]; omega
    · go_wp2
      go_ret
      have e : b.toNat = k := by omega
      rw [e]
      exact ⟨rfl, rfl⟩
theorem tag (h : Int) (w : World) (h1 : 0 ≤ h) (h2 : h < 18446744073709551616) :
    Calls Tryz.prog 29 #[.int .u64 h] w fun e w' => e = .returned (.int .i64 (max 1 (h / 72057594037927936))) ∧ w = w' := by
  by_cases hc : 1 < h / 72057594037927936
  all_goals
    go_enter Tryz.func29, Tryz.ntmps29
    go_wp2
    go_ret
    exact ⟨congrArg (fun x => Ending.returned (.int .i64 x)) (by omega), rfl⟩
theorem bucket (h b : Int) (w : World) (h1 : 0 ≤ h) (h2 : h < 18446744073709551616) (hb : 1 ≤ b) (hb2 : b ≤ 12) :
    Calls Tryz.prog 27 #[.int .u64 h, .int .i64 b] w fun e w' => e = .returned (.int .i64 (h % 2 ^ b.toNat)) ∧ w = w' := by
  obtain ⟨p1, p2⟩ := pow_le b hb hb2
  go_enter Tryz.func27, Tryz.ntmps27
  go_wp2_with (go_at_call 26; refine (size_in _ _ (by omega) (by omega)).mono ?_; rintro e w' ⟨rfl, rfl⟩)
  go_ret
  exact ⟨rfl, rfl⟩
theorem bucket_out (h b : Int) (w : World) (hb : b < 1 ∨ 12 < b) :
    Calls Tryz.prog 27 #[.int .u64 h, .int .i64 b] w fun e w' => e = .returned (.int .i64 (-1)) ∧ w = w' := by
  go_enter Tryz.func27, Tryz.ntmps27
  go_wp2_with (go_at_call 26; refine (size_out _ _ (by omega)).mono ?_; rintro e w' ⟨rfl, rfl⟩)
  go_ret
  exact ⟨rfl, rfl⟩
theorem refbucket (h b : Int) (w : World) (h1 : 0 ≤ h) (h2 : h < 18446744073709551616) (hb : 1 ≤ b) (hb2 : b ≤ 12) :
    Calls Tryz.prog 99 #[.int .u64 h, .int .i64 b] w fun e w' => e = .returned (.int .i64 (h % 2 ^ b.toNat)) ∧ w = w' := by
  obtain ⟨p1, p2⟩ := pow_le b hb hb2
  go_enter Tryz.func99, Tryz.ntmps99
  go_wp2_with (go_at_call 104; refine (refsize_in _ _ (by omega) (by omega)).mono ?_; rintro e w' ⟨rfl, rfl⟩)
  go_ret
  exact ⟨rfl, rfl⟩
theorem refbucket_out (h b : Int) (w : World) (hb : b < 1 ∨ 12 < b) :
    Calls Tryz.prog 99 #[.int .u64 h, .int .i64 b] w fun e w' => e = .returned (.int .i64 (-1)) ∧ w = w' := by
  go_enter Tryz.func99, Tryz.ntmps99
  go_wp2_with (go_at_call 104; refine (refsize_out _ _ (by omega)).mono ?_; rintro e w' ⟨rfl, rfl⟩)
  go_ret
  exact ⟨rfl, rfl⟩

/-- The other bucket. -/
def oth (a t b : Int) : Int := bits BinOp.xor IntKind.i64 a (t * 1540483477 % 2 ^ b.toNat)
theorem other (a t b : Int) (w : World) (ha : 0 ≤ a) (ha2 : a < 2 ^ b.toNat) (ht : 1 ≤ t) (ht2 : t ≤ 255) (hb : 1 ≤ b) (hb2 : b ≤ 12) :
    Calls Tryz.prog 28 #[.int .i64 a, .int .i64 t, .int .i64 b] w fun e w' => e = .returned (.int .i64 (oth a t b)) ∧ w = w' := by
  obtain ⟨p1, p2⟩ := pow_le b hb hb2
  go_enter Tryz.func28, Tryz.ntmps28
  go_wp2_with (go_at_call 26; refine (size_in _ _ (by omega) (by omega)).mono ?_; rintro e w' ⟨rfl, rfl⟩)
  go_ret
  exact ⟨rfl, rfl⟩
theorem refother (a t b : Int) (w : World) (ha : 0 ≤ a) (ha2 : a < 2 ^ b.toNat) (ht : 1 ≤ t) (ht2 : t ≤ 255) (hb : 1 ≤ b) (hb2 : b ≤ 12) :
    Calls Tryz.prog 101 #[.int .i64 a, .int .i64 t, .int .i64 b] w fun e w' => e = .returned (.int .i64 (oth a t b)) ∧ w = w' := by
  obtain ⟨p1, p2⟩ := pow_le b hb hb2
  go_enter Tryz.func101, Tryz.ntmps101
  go_wp2_with (go_at_call 104; refine (refsize_in _ _ (by omega) (by omega)).mono ?_; rintro e w' ⟨rfl, rfl⟩)
  go_ret
  exact ⟨rfl, rfl⟩
theorem other_bits (a t b : Int) (w : World) (hb : b < 1 ∨ 12 < b) :
    Calls Tryz.prog 28 #[.int .i64 a, .int .i64 t, .int .i64 b] w fun e w' => e = .returned (.int .i64 (-1)) ∧ w = w' := by
  by_cases ha : a < 0
  all_goals
    go_enter Tryz.func28, Tryz.ntmps28
    go_wp2_with (go_at_call 26; refine (size_out _ _ (by omega)).mono ?_; rintro e w' ⟨rfl, rfl⟩)
    go_ret
    exact ⟨rfl, rfl⟩
theorem refother_bits (a t b : Int) (w : World) (hb : b < 1 ∨ 12 < b) :
    Calls Tryz.prog 101 #[.int .i64 a, .int .i64 t, .int .i64 b] w fun e w' => e = .returned (.int .i64 (-1)) ∧ w = w' := by
  by_cases ha : a < 0
  all_goals
    go_enter Tryz.func101, Tryz.ntmps101
    go_wp2_with (go_at_call 104; refine (refsize_out _ _ (by omega)).mono ?_; rintro e w' ⟨rfl, rfl⟩)
    go_ret
    exact ⟨rfl, rfl⟩
theorem other_out (a t b : Int) (w : World) (hb : 1 ≤ b) (hb2 : b ≤ 12) (h : a < 0 ∨ 2 ^ b.toNat ≤ a ∨ t < 1 ∨ 255 < t) :
    Calls Tryz.prog 28 #[.int .i64 a, .int .i64 t, .int .i64 b] w fun e w' => e = .returned (.int .i64 (-1)) ∧ w = w' := by
  obtain ⟨p1, p2⟩ := pow_le b hb hb2
  by_cases h1 : a < 0
  case' neg => by_cases h2 : 2 ^ b.toNat ≤ a
  case' neg => by_cases h3 : t < 1
  case' neg => have h4 : 255 < t := by omega
  all_goals
    clear h
    go_enter Tryz.func28, Tryz.ntmps28
    go_wp2_with (go_at_call 26; refine (size_in _ _ (by omega) (by omega)).mono ?_; rintro e w' ⟨rfl, rfl⟩)
    go_ret
    exact ⟨rfl, rfl⟩
theorem refother_out (a t b : Int) (w : World) (hb : 1 ≤ b) (hb2 : b ≤ 12) (h : a < 0 ∨ 2 ^ b.toNat ≤ a ∨ t < 1 ∨ 255 < t) :
    Calls Tryz.prog 101 #[.int .i64 a, .int .i64 t, .int .i64 b] w fun e w' => e = .returned (.int .i64 (-1)) ∧ w = w' := by
  obtain ⟨p1, p2⟩ := pow_le b hb hb2
  by_cases h1 : a < 0
  case' neg => by_cases h2 : 2 ^ b.toNat ≤ a
  case' neg => by_cases h3 : t < 1
  case' neg => have h4 : 255 < t := by omega
  all_goals
    clear h
    go_enter Tryz.func101, Tryz.ntmps101
    go_wp2_with (go_at_call 104; refine (refsize_in _ _ (by omega) (by omega)).mono ?_; rintro e w' ⟨rfl, rfl⟩)
    go_ret
    exact ⟨rfl, rfl⟩
theorem stripe (a b : Int) (w : World) (ha : 0 ≤ a) (ha2 : a < 2 ^ b.toNat) (hb : 1 ≤ b) (hb2 : b ≤ 12) :
    Calls Tryz.prog 187 #[.agg #[.int .i64 b, .int .i64 a]] w fun e w' => e = .returned (.int .i64 ((a + 31 * b) % 64)) ∧ Below w.heap.size w w' := by
  obtain ⟨p1, p2⟩ := pow_le b hb hb2
  have hd : decide (a < 0) = false := by simpa using ha
  go_enter Tryz.func187, Tryz.ntmps187
  go_wp2_with fail
  go_quiet ((go_at_call 26; exact quiet_left (size_in _ _ (by omega) (by omega))))
  go_wp2
  go_ret
  exact ⟨rfl, below_drewN ((Below.refl _ _).alloc (Nat.le_refl _) _) _⟩
theorem stripe_out (a b : Int) (w : World) (h : b < 1 ∨ 12 < b ∨ a < 0 ∨ 2 ^ b.toNat ≤ a) :
    Calls Tryz.prog 187 #[.agg #[.int .i64 b, .int .i64 a]] w fun e w' => e = .returned (.int .i64 (-1)) ∧ Below w.heap.size w w' := by
  by_cases ha : a < 0
  · have hd : decide (a < 0) = true := by simpa using ha
    go_enter Tryz.func187, Tryz.ntmps187
    go_wp2_with fail
    go_quiet (fail)
    go_wp2
    go_ret
    exact ⟨rfl, below_drewN ((Below.refl _ _).alloc (Nat.le_refl _) _) _⟩
  · have hd : decide (a < 0) = false := by simpa using ha
    by_cases hb : b < 1 ∨ 12 < b
    · go_enter Tryz.func187, Tryz.ntmps187
      go_wp2_with fail
      go_quiet ((go_at_call 26; exact quiet_left (size_out _ _ hb)))
      go_wp2
      go_ret
      exact ⟨rfl, below_drewN ((Below.refl _ _).alloc (Nat.le_refl _) _) _⟩
    · have h1 : 1 ≤ b := by omega
      have h2 : b ≤ 12 := by omega
      have h3 : 2 ^ b.toNat ≤ a := by omega
      obtain ⟨p1, p2⟩ := pow_le b h1 h2
      clear h hb
      go_enter Tryz.func187, Tryz.ntmps187
      go_wp2_with fail
      go_quiet ((go_at_call 26; exact quiet_left (size_in _ _ h1 h2)))
      go_wp2
      go_ret
      exact ⟨rfl, below_drewN ((Below.refl _ _).alloc (Nat.le_refl _) _) _⟩
theorem reftag (h : Int) (w : World) (h1 : 0 ≤ h) (h2 : h < 18446744073709551616) :
    Calls Tryz.prog 65 #[.int .u64 h] w fun e w' => e = .returned (.int .i64 (max 1 (h / 72057594037927936))) ∧ w = w' := by
  go_enter Tryz.func65, Tryz.ntmps65
  go_wp2_with fail
  go_loop [0, 3] (fun hh i => ∃ (k : Nat) (x : Int), k ≤ 56 ∧ 0 ≤ x ∧ x < 18446744073709551616 ∧ i = .int .i64 k ∧ hh = .int .u64 x ∧ Hid (x = h / 2 ^ k)) (fun _ i => 56 - (intOf i).toNat)
  case atStart => exact ⟨0, h, by omega, h1, h2, rfl, rfl, by simp [Hid]⟩
  case round =>
    obtain ⟨k, x, hk, hx1, hx2, rfl, rfl, hx⟩ := hrel
    by_cases hlt : k < 56
    · go_wp2
      go_round
      case rel => exact ⟨k + 1, x / 2, by omega, by omega, by omega, by go_num, rfl, by unfold Hid at *; rw [hx, Int.pow_succ, Int.ediv_ediv_of_nonneg (by exact Int.le_of_lt (Int.pow_pos (by decide)))]⟩
      case measure => simp [intOf]; omega
    · have hx' : x = h / 72057594037927936 := by rw [hx.out, show k = 56 by omega]; rfl
      have hx3 : x ≤ 255 := by omega
      by_cases h0 : x = 0
      · have hb : (x == 0) = true := by simpa using h0
        have HX := Lib.hid hx'
        clear hx' h0
        go_wp2
        go_ret
        exact ⟨ret_int (by have := HX.out; simp at hb; omega), rfl⟩
      · have hb : (x == 0) = false := by simpa using h0
        have HX := Lib.hid hx'
        clear hx' h0
        go_wp2
        go_ret
        exact ⟨ret_int (by have := HX.out; simp at hb; omega), rfl⟩

/-- A byte taken by a hash. -/
def hs1 (h : Int) (c : UInt8) : Int := IntKind.u64.wrap (bits BinOp.xor IntKind.u64 h (IntKind.u64.wrap c.toNat) * 1099511628211)
def hsl (l : List UInt8) : Int := l.foldl hs1 14695981039346656037
theorem hsl_snoc (l : List UInt8) (c : UInt8) : hsl (l ++ [c]) = hs1 (hsl l) c := by simp [hsl]
theorem take_snoc (s : ByteArray) (k : Nat) (h : k < s.size) : s.data.toList.take (k + 1) = s.data.toList.take k ++ [s[k]] := by
  rw [List.take_succ_eq_append_getElem (by simpa using h)]; rfl
theorem take_all (s : ByteArray) (k : Nat) (h : s.size ≤ k) : s.data.toList.take k = s.data.toList := by
  rw [List.take_of_length_le]
  have : s.data.toList.length = s.size := by simp
  omega
theorem hash (s : ByteArray) (w : World) (hs : s.size ≤ maxLen) :
    Calls Tryz.prog 45 #[.string s] w fun e w' => e = .returned (.int .u64 (hsl s.data.toList)) ∧ Below w.heap.size w w' := by
  unfold maxLen at hs
  go_enter Tryz.func45, Tryz.ntmps45
  go_wp2_with fail
  go_loopw [9] (fun i wr => ∃ (k : Nat) (h : Int), k ≤ s.size ∧ i = .int .i64 k ∧ Hid (h = hsl (s.data.toList.take k)) ∧ wr = w.alloc (.cells #[.int .u64 h] 168)) (fun i _ => s.size - (intOf i).toNat)
  case atStart => exact ⟨0, _, by omega, rfl, rfl, rfl⟩
  case round =>
    obtain ⟨k, h, hk, rfl, hh, rfl⟩ := hrel
    by_cases hlt : k < s.size
    · go_wp2
      go_end0
      go_wp2
      go_roundw
      case rel => exact ⟨k + 1, _, by omega, by go_num, by rw [take_snoc s k hlt, hsl_snoc, ← hh.out]; exact rfl, rfl⟩
      case measure => simp [intOf]; omega
    · go_wp2
      go_ret
      exact ⟨ret_int (by rw [hh.out, take_all s k (by omega)]), (Below.refl _ _).alloc (Nat.le_refl _) _⟩

/-! ### Each, whatever it is handed. -/
def szf (b : Int) : Int := if 1 ≤ b ∧ b ≤ 12 then 2 ^ b.toNat else 0
def bkt (h b : Int) : Int := if 1 ≤ b ∧ b ≤ 12 then h % 2 ^ b.toNat else -1
def othf (a t b : Int) : Int := if 1 ≤ b ∧ b ≤ 12 ∧ 0 ≤ a ∧ a < 2 ^ b.toNat ∧ 1 ≤ t ∧ t ≤ 255 then oth a t b else -1
def strf (a b : Int) : Int := if 1 ≤ b ∧ b ≤ 12 ∧ 0 ≤ a ∧ a < 2 ^ b.toNat then (a + 31 * b) % 64 else -1
theorem szf_range (b : Int) : 0 ≤ szf b ∧ szf b ≤ 4096 := by
  unfold szf
  split
  · have := pow_le b (by omega) (by omega); omega
  · omega
theorem size_any (b : Int) (w : World) : Calls Tryz.prog 26 #[.int .i64 b] w fun e w' => e = .returned (.int .i64 (szf b)) ∧ w = w' := by
  by_cases h : 1 ≤ b ∧ b ≤ 12
  · rw [show szf b = _ from if_pos h]; exact size_in b w h.1 h.2
  · rw [show szf b = _ from if_neg h]; exact size_out b w (by omega)
theorem refsize_any (b : Int) (w : World) : Calls Tryz.prog 104 #[.int .i64 b] w fun e w' => e = .returned (.int .i64 (szf b)) ∧ w = w' := by
  by_cases h : 1 ≤ b ∧ b ≤ 12
  · rw [show szf b = _ from if_pos h]; exact refsize_in b w h.1 h.2
  · rw [show szf b = _ from if_neg h]; exact refsize_out b w (by omega)
theorem bucket_any (h b : Int) (w : World) (h1 : 0 ≤ h) (h2 : h < 18446744073709551616) : Calls Tryz.prog 27 #[.int .u64 h, .int .i64 b] w fun e w' => e = .returned (.int .i64 (bkt h b)) ∧ w = w' := by
  by_cases c : 1 ≤ b ∧ b ≤ 12
  · rw [show bkt h b = _ from if_pos c]; exact bucket h b w h1 h2 c.1 c.2
  · rw [show bkt h b = _ from if_neg c]; exact bucket_out h b w (by omega)
theorem refbucket_any (h b : Int) (w : World) (h1 : 0 ≤ h) (h2 : h < 18446744073709551616) : Calls Tryz.prog 99 #[.int .u64 h, .int .i64 b] w fun e w' => e = .returned (.int .i64 (bkt h b)) ∧ w = w' := by
  by_cases c : 1 ≤ b ∧ b ≤ 12
  · rw [show bkt h b = _ from if_pos c]; exact refbucket h b w h1 h2 c.1 c.2
  · rw [show bkt h b = _ from if_neg c]; exact refbucket_out h b w (by omega)
theorem other_any (a t b : Int) (w : World) : Calls Tryz.prog 28 #[.int .i64 a, .int .i64 t, .int .i64 b] w fun e w' => e = .returned (.int .i64 (othf a t b)) ∧ w = w' := by
  by_cases c : 1 ≤ b ∧ b ≤ 12 ∧ 0 ≤ a ∧ a < 2 ^ b.toNat ∧ 1 ≤ t ∧ t ≤ 255
  · rw [show othf a t b = _ from if_pos c]; exact other a t b w (by omega) (by omega) (by omega) (by omega) (by omega) (by omega)
  · rw [show othf a t b = _ from if_neg c]
    by_cases d : 1 ≤ b ∧ b ≤ 12
    · exact other_out a t b w d.1 d.2 (by omega)
    · exact other_bits a t b w (by omega)
theorem refother_any (a t b : Int) (w : World) : Calls Tryz.prog 101 #[.int .i64 a, .int .i64 t, .int .i64 b] w fun e w' => e = .returned (.int .i64 (othf a t b)) ∧ w = w' := by
  by_cases c : 1 ≤ b ∧ b ≤ 12 ∧ 0 ≤ a ∧ a < 2 ^ b.toNat ∧ 1 ≤ t ∧ t ≤ 255
  · rw [show othf a t b = _ from if_pos c]; exact refother a t b w (by omega) (by omega) (by omega) (by omega) (by omega) (by omega)
  · rw [show othf a t b = _ from if_neg c]
    by_cases d : 1 ≤ b ∧ b ≤ 12
    · exact refother_out a t b w d.1 d.2 (by omega)
    · exact refother_bits a t b w (by omega)
theorem stripe_any (a b : Int) (w : World) : Calls Tryz.prog 187 #[.agg #[.int .i64 b, .int .i64 a]] w fun e w' => e = .returned (.int .i64 (strf a b)) ∧ Below w.heap.size w w' := by
  by_cases c : 1 ≤ b ∧ b ≤ 12 ∧ 0 ≤ a ∧ a < 2 ^ b.toNat
  · rw [show strf a b = _ from if_pos c]; exact stripe a b w (by omega) (by omega) (by omega) (by omega)
  · rw [show strf a b = _ from if_neg c]; exact stripe_out a b w (by omega)
end Go.Proofs.YtodppilfpemepaaGreat
