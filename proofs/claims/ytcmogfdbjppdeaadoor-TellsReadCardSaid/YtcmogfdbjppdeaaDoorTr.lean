/- Tells: the chapter's answers. -/
import Derived.Test.YtcmogfdbjppdeaaDoorTk
import Derived.Test.YtcmogfdbjppdeaaDoorTv
import Derived.Test.YtcmogfdbjppdeaaDoorTu
namespace Go.Proofs.YtcmogfdbjppdeaaDoor
open Go.RowKit
set_option linter.unusedVariables false

set_option maxHeartbeats 4000000 in
set_option maxRecDepth 100000 in
theorem rofw (t : Int) (h0 : 0 ≤ t) (h1 : t ≤ 255) (w : World) : Calls Tryd.prog 10 #[.int .i64 t] w fun e w' => e = .returned (.string (lineOf linesT t)) ∧ w = w' := by
  rcases (by omega : t = 1 ∨ t = 2 ∨ t = 3 ∨ t = 4 ∨ t = 5 ∨ t = 6 ∨ t = 0 ∨ 7 ≤ t) with rfl | rfl | rfl | rfl | rfl | rfl | rfl | h7
  · go_enter Tryd.func10, Tryd.ntmps10
    go_wp2
    go_ret
    exact ⟨rfl, rfl⟩
  · go_enter Tryd.func10, Tryd.ntmps10
    go_wp2
    go_ret
    exact ⟨rfl, rfl⟩
  · go_enter Tryd.func10, Tryd.ntmps10
    go_wp2
    go_ret
    exact ⟨rfl, rfl⟩
  · go_enter Tryd.func10, Tryd.ntmps10
    go_wp2
    go_ret
    exact ⟨rfl, rfl⟩
  · go_enter Tryd.func10, Tryd.ntmps10
    go_wp2
    go_ret
    exact ⟨rfl, rfl⟩
  · go_enter Tryd.func10, Tryd.ntmps10
    go_wp2
    go_ret
    exact ⟨rfl, rfl⟩
  · go_enter Tryd.func10, Tryd.ntmps10
    go_wp2
    go_ret
    exact ⟨rfl, rfl⟩
  · have hq := Lib.hid (quiet_of t h7)
    have t1 : (t == 1) = false := beq_eq_false_iff_ne.mpr (by omega)
    have t2 : (t == 2) = false := beq_eq_false_iff_ne.mpr (by omega)
    have t3 : (t == 3) = false := beq_eq_false_iff_ne.mpr (by omega)
    have t4 : (t == 4) = false := beq_eq_false_iff_ne.mpr (by omega)
    have t5 : (t == 5) = false := beq_eq_false_iff_ne.mpr (by omega)
    have t6 : (t == 6) = false := beq_eq_false_iff_ne.mpr (by omega)
    go_enter Tryd.func10, Tryd.ntmps10
    go_wp2
    go_ret
    exact ⟨by rw [hq.out]; rfl, rfl⟩
theorem two_below (w : World) (a b : Obj) : Below w.heap.size w ((w.alloc a).alloc b) := ((Below.refl _ _).alloc (Nat.le_refl _) a).alloc (by simp) b
set_option maxHeartbeats 4000000 in
set_option maxRecDepth 100000 in
theorem ranswer_quiet (v : Int) (ks : Value) (cv : Int) (ck cval : ByteArray) (cf ce ci cb ex : Int) (k n : Int) (ik iv : ByteArray) (f id d e2 : Int) (w : World) :
    Calls Tryd.prog 12 #[.agg #[.int .u8 v, ks, .int .u8 cv, .string ck, .string cval, .int .u32 cf, .int .i64 ce, .int .u64 ci, .int .u64 cb, .int .i64 ex, .bool true], .agg #[.int .u8 k, .int .u64 n, .string ik, .string iv, .int .u32 f, .int .u64 id, .int .i64 d, .int .i64 e2]] w fun e w' => e = .returned (.string ⟨#[]⟩) ∧ Below w.heap.size w w' := by
  go_enter Tryd.func12, Tryd.ntmps12
  go_wp2
  go_ret
  exact ⟨rfl, two_below _ _ _⟩
set_option maxHeartbeats 4000000 in
set_option maxRecDepth 100000 in
theorem ranswer_num (v : Int) (ks : Value) (cv : Int) (ck cval : ByteArray) (cf ce ci cb ex : Int) (n : Nat) (ik iv : ByteArray) (f id d e2 : Int) (w : World) (hn : n < 18446744073709551616) :
    Calls Tryd.prog 12 #[.agg #[.int .u8 v, ks, .int .u8 cv, .string ck, .string cval, .int .u32 cf, .int .i64 ce, .int .u64 ci, .int .u64 cb, .int .i64 ex, .bool false], .agg #[.int .u8 8, .int .u64 n, .string ik, .string iv, .int .u32 f, .int .u64 id, .int .i64 d, .int .i64 e2]] w fun e w' => e = .returned (.string ⟨(Lib.decDigits n ++ [13, 10]).toArray⟩) ∧ Below w.heap.size w w' := by
  have hl := (dec_len (u := n) (by omega)).2
  go_enter Tryd.func12, Tryd.ntmps12
  go_wp2_with fail
  refine (reftext n hn _).mono ?_
  rintro e w1 ⟨rfl, rfl⟩
  have he : Hid ((⟨(Lib.decDigits n).toArray⟩ : ByteArray) ++ ⟨#[13, 10]⟩ = ⟨(Lib.decDigits n ++ [13, 10]).toArray⟩) := cat_bytes _ [13, 10]
  obtain ⟨s, hs2⟩ : ∃ s : ByteArray, s = ⟨(Lib.decDigits n).toArray⟩ := ⟨_, rfl⟩
  have hz : s.size ≤ 20 := by rw [hs2]; exact hl
  rw [← hs2] at he ⊢
  clear hs2
  go_wp2_with fail
  go_ret
  exact ⟨by rw [← he.out]; rfl, two_below _ _ _⟩
set_option maxHeartbeats 4000000 in
set_option maxRecDepth 100000 in
theorem ranswer_kind (v : Int) (ks : Value) (cv : Int) (ck cval : ByteArray) (cf ce ci cb ex : Int) (k n : Int) (ik iv : ByteArray) (f id d e2 : Int) (w : World) (h0 : 0 ≤ k) (h1 : k ≤ 255) (h8 : k ≠ 8) :
    Calls Tryd.prog 12 #[.agg #[.int .u8 v, ks, .int .u8 cv, .string ck, .string cval, .int .u32 cf, .int .i64 ce, .int .u64 ci, .int .u64 cb, .int .i64 ex, .bool false], .agg #[.int .u8 k, .int .u64 n, .string ik, .string iv, .int .u32 f, .int .u64 id, .int .i64 d, .int .i64 e2]] w fun e w' => e = .returned (.string (lineOf answersT k)) ∧ Below w.heap.size w w' := by
  rcases (by omega : k = 1 ∨ k = 2 ∨ k = 3 ∨ k = 4 ∨ k = 5 ∨ k = 6 ∨ k = 7 ∨ k = 9 ∨ k = 10 ∨ k = 0 ∨ 11 ≤ k) with rfl | rfl | rfl | rfl | rfl | rfl | rfl | rfl | rfl | rfl | h11
  · clear h0 h1 h8
    go_enter Tryd.func12, Tryd.ntmps12
    go_wp2
    go_ret
    exact ⟨rfl, two_below _ _ _⟩
  · clear h0 h1 h8
    go_enter Tryd.func12, Tryd.ntmps12
    go_wp2
    go_ret
    exact ⟨rfl, two_below _ _ _⟩
  · clear h0 h1 h8
    go_enter Tryd.func12, Tryd.ntmps12
    go_wp2
    go_ret
    exact ⟨rfl, two_below _ _ _⟩
  · clear h0 h1 h8
    go_enter Tryd.func12, Tryd.ntmps12
    go_wp2
    go_ret
    exact ⟨rfl, two_below _ _ _⟩
  · clear h0 h1 h8
    go_enter Tryd.func12, Tryd.ntmps12
    go_wp2
    go_ret
    exact ⟨rfl, two_below _ _ _⟩
  · clear h0 h1 h8
    go_enter Tryd.func12, Tryd.ntmps12
    go_wp2
    go_ret
    exact ⟨rfl, two_below _ _ _⟩
  · clear h0 h1 h8
    go_enter Tryd.func12, Tryd.ntmps12
    go_wp2
    go_ret
    exact ⟨rfl, two_below _ _ _⟩
  · clear h0 h1 h8
    go_enter Tryd.func12, Tryd.ntmps12
    go_wp2
    go_ret
    exact ⟨rfl, two_below _ _ _⟩
  · clear h0 h1 h8
    go_enter Tryd.func12, Tryd.ntmps12
    go_wp2
    go_ret
    exact ⟨rfl, two_below _ _ _⟩
  · clear h0 h1 h8
    go_enter Tryd.func12, Tryd.ntmps12
    go_wp2
    go_ret
    exact ⟨rfl, two_below _ _ _⟩
  · have hq : Hid (lineOf answersT k = ⟨#[]⟩) := by
      have : textOf answersT k = none := by
        unfold answersT
        simp only [textOf]
        repeat (rw [if_neg (by omega)])
      show _ = _
      unfold lineOf
      rw [this]
    have t1 : (k == 1) = false := beq_eq_false_iff_ne.mpr (by omega)
    have t2 : (k == 2) = false := beq_eq_false_iff_ne.mpr (by omega)
    have t3 : (k == 3) = false := beq_eq_false_iff_ne.mpr (by omega)
    have t4 : (k == 4) = false := beq_eq_false_iff_ne.mpr (by omega)
    have t5 : (k == 5) = false := beq_eq_false_iff_ne.mpr (by omega)
    have t6 : (k == 6) = false := beq_eq_false_iff_ne.mpr (by omega)
    have t7 : (k == 7) = false := beq_eq_false_iff_ne.mpr (by omega)
    have t8 : (k == 8) = false := beq_eq_false_iff_ne.mpr (by omega)
    have t9 : (k == 9) = false := beq_eq_false_iff_ne.mpr (by omega)
    have t10 : (k == 10) = false := beq_eq_false_iff_ne.mpr (by omega)
    go_enter Tryd.func12, Tryd.ntmps12
    go_wp2
    go_ret
    exact ⟨by rw [hq.out]; rfl, two_below _ _ _⟩
theorem rendw (w : World) : Calls Tryd.prog 15 #[] w fun e w' => e = .returned (.string (lineS 20)) ∧ w = w' := by
  go_enter Tryd.func15, Tryd.ntmps15
  go_wp2
  go_ret
  exact ⟨rfl, rfl⟩
theorem rversionw (w : World) : Calls Tryd.prog 17 #[] w fun e w' => e = .returned (.string (lineS 21)) ∧ w = w' := by
  go_enter Tryd.func17, Tryd.ntmps17
  go_wp2
  go_ret
  exact ⟨rfl, rfl⟩
set_option maxHeartbeats 4000000 in
set_option maxRecDepth 100000 in
theorem otherw29 (v : Int) (ka : Option Addr) (kl kc : Nat) (cv : Int) (ck cval : ByteArray) (cf ce ci cb ex : Int) (q : Bool) (w : World) :
    Calls Tryd.prog 13 #[.agg #[.int .u8 v, .slice ka kl kc, .int .u8 cv, .string ck, .string cval, .int .u32 cf, .int .i64 ce, .int .u64 ci, .int .u64 cb, .int .i64 ex, .bool q]] w fun e w' => e = .returned (.agg #[.int .u8 v, .slice ka kl kc, .int .u8 cv, .string ck, .string cval, .int .u32 cf, .int .i64 ce, .int .u64 ci, .int .u64 cb, .int .i64 ex, .bool q]) ∧ Below w.heap.size w w' := by
  go_enter Tryd.func13, Tryd.ntmps13
  go_wp2_with fail
  exact bodyPost_ret (v := .agg #[.int .u8 v, .slice ka kl kc, .int .u8 cv, .string ck, .string cval, .int .u32 cf, .int .i64 ce, .int .u64 ci, .int .u64 cb, .int .i64 ex, .bool q]) (by simp [results, Tryd.results13, go_sem]) rfl ⟨rfl, two_below _ _ _⟩
end Go.Proofs.YtcmogfdbjppdeaaDoor
