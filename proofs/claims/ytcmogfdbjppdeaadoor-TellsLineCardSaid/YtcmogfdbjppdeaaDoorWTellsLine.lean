/- TellsLine: of whatever is told, and of whatever answer, the line is the chapter's. -/
import Derived.Test.YtcmogfdbjppdeaaDoorTr
import Derived.Test.YtcmogfdbjppdeaaDoorTlv
import Derived.Test.YtcmogfdbjppdeaaDoorOpen
import Derived.Deep.RegionHeld3
namespace Go.Proofs.YtcmogfdbjppdeaaDoor
open Go.RowKit
set_option linter.unusedVariables false

/-- What is answered. -/
def ansOf (q : Bool) (k n : Int) : ByteArray := if q = true then ⟨#[]⟩ else if k = 8 then ⟨(Lib.decDigits n.toNat ++ [13, 10]).toArray⟩ else lineOf answersT k
theorem answer_any (v : Int) (ks : Value) (cv : Int) (ck cval : ByteArray) (cf ce ci cb ex : Int) (q : Bool) (k n : Int) (ik iv : ByteArray) (f id d e2 : Int) (w : World) (h0 : 0 ≤ k) (h1 : k ≤ 255) (n0 : 0 ≤ n) (n1 : n ≤ 18446744073709551615) (htab : Lib.TabIs Tryd.prog w "internal/strconv.uint64pow10" .u64 Lib.pow10Tab) :
    Calls Tryd.prog 11 #[.agg #[.int .u8 v, ks, .int .u8 cv, .string ck, .string cval, .int .u32 cf, .int .i64 ce, .int .u64 ci, .int .u64 cb, .int .i64 ex, .bool q], .agg #[.int .u8 k, .int .u64 n, .string ik, .string iv, .int .u32 f, .int .u64 id, .int .i64 d, .int .i64 e2]] w fun e w' => e = .returned (.string (ansOf q k n)) ∧ Below w.heap.size w w' := by
  obtain ⟨m, rfl⟩ : ∃ m : Nat, n = m := ⟨n.toNat, by omega⟩
  cases q with
  | true => exact answer_quiet v ks cv ck cval cf ce ci cb ex k m ik iv f id d e2 w
  | false =>
    by_cases h8 : k = 8
    · subst h8
      exact answer_num v ks cv ck cval cf ce ci cb ex m ik iv f id d e2 w (by omega) htab
    · have : ansOf false k m = lineOf answersT k := by unfold ansOf; rw [if_neg (by simp), if_neg h8]
      rw [this]
      exact answer_kind v ks cv ck cval cf ce ci cb ex k m ik iv f id d e2 w h0 h1 h8
theorem ranswer_any (v : Int) (ks : Value) (cv : Int) (ck cval : ByteArray) (cf ce ci cb ex : Int) (q : Bool) (k n : Int) (ik iv : ByteArray) (f id d e2 : Int) (w : World) (h0 : 0 ≤ k) (h1 : k ≤ 255) (n0 : 0 ≤ n) (n1 : n ≤ 18446744073709551615) :
    Calls Tryd.prog 12 #[.agg #[.int .u8 v, ks, .int .u8 cv, .string ck, .string cval, .int .u32 cf, .int .i64 ce, .int .u64 ci, .int .u64 cb, .int .i64 ex, .bool q], .agg #[.int .u8 k, .int .u64 n, .string ik, .string iv, .int .u32 f, .int .u64 id, .int .i64 d, .int .i64 e2]] w fun e w' => e = .returned (.string (ansOf q k n)) ∧ Below w.heap.size w w' := by
  obtain ⟨m, rfl⟩ : ∃ m : Nat, n = m := ⟨n.toNat, by omega⟩
  cases q with
  | true => exact ranswer_quiet v ks cv ck cval cf ce ci cb ex k m ik iv f id d e2 w
  | false =>
    by_cases h8 : k = 8
    · subst h8
      exact ranswer_num v ks cv ck cval cf ce ci cb ex m ik iv f id d e2 w (by omega)
    · have : ansOf false k m = lineOf answersT k := by unfold ansOf; rw [if_neg (by simp), if_neg h8]
      rw [this]
      exact ranswer_kind v ks cv ck cval cf ce ci cb ex k m ik iv f id d e2 w h0 h1 h8
set_option maxHeartbeats 16000000 in
set_option maxRecDepth 100000 in
theorem walk_TellsLine (a0 : Int) (a1_0 : Int) (a1_1 : Option Addr) (l1_1 c1_1 : Nat) (a1_2 : Int) (a1_3 : ByteArray) (a1_4 : ByteArray) (a1_5 : Int) (a1_6 : Int) (a1_7 : Int) (a1_8 : Int) (a1_9 : Int) (a1_10 : Bool) (a2_0 : Int) (a2_1 : Int) (a2_2 : ByteArray) (a2_3 : ByteArray) (a2_4 : Int) (a2_5 : Int) (a2_6 : Int) (a2_7 : Int) (w : World) (w0 : (Lit.int .u8 a0).wf = true) (w1_0 : (Lit.int .u8 a1_0).wf = true) (w1_1 : Reads Tryd.prog w 23 (.slice a1_1 l1_1 c1_1)) (w1_2 : (Lit.int .u8 a1_2).wf = true) (w1_3 : a1_3.size ≤ maxLen) (w1_4 : a1_4.size ≤ maxLen) (w1_5 : (Lit.int .u32 a1_5).wf = true) (w1_6 : (Lit.int .i64 a1_6).wf = true) (w1_7 : (Lit.int .u64 a1_7).wf = true) (w1_8 : (Lit.int .u64 a1_8).wf = true) (w1_9 : (Lit.int .i64 a1_9).wf = true) (w2_0 : (Lit.int .u8 a2_0).wf = true) (w2_1 : (Lit.int .u64 a2_1).wf = true) (w2_2 : a2_2.size ≤ maxLen) (w2_3 : a2_3.size ≤ maxLen) (w2_4 : (Lit.int .u32 a2_4).wf = true) (w2_5 : (Lit.int .u64 a2_5).wf = true) (w2_6 : (Lit.int .i64 a2_6).wf = true) (w2_7 : (Lit.int .i64 a2_7).wf = true) (htab : Lib.TabIs Tryd.prog w "internal/strconv.uint64pow10" .u64 Lib.pow10Tab) :
    Calls Tryd.prog 3 #[.int .u8 a0, .agg #[.int .u8 a1_0, .slice a1_1 l1_1 c1_1, .int .u8 a1_2, .string a1_3, .string a1_4, .int .u32 a1_5, .int .i64 a1_6, .int .u64 a1_7, .int .u64 a1_8, .int .i64 a1_9, .bool a1_10], .agg #[.int .u8 a2_0, .int .u64 a2_1, .string a2_2, .string a2_3, .int .u32 a2_4, .int .u64 a2_5, .int .i64 a2_6, .int .i64 a2_7]] w fun e w' => e = .returned (.bool true) ∧ Below w.heap.size w w' := by
  obtain ⟨p0, p1⟩ := bounds_u8 w0
  obtain ⟨k0, k1⟩ := bounds_u8 w2_0
  obtain ⟨n0, n1⟩ := bounds_u64 w2_1
  have p1' : a0 ≤ 255 := by omega
  have k1' : a2_0 ≤ 255 := by omega
  have n1' : a2_1 ≤ 18446744073709551615 := by omega
  have hwr : IntKind.i64.wrap a0 = a0 := IntWalk.i64_in _ (by omega)
  have HT := Lib.hid htab
  clear w0 w1_0 w1_1 w1_2 w1_5 w1_6 w1_7 w1_8 w1_9 w2_0 w2_1 w2_4 w2_5 w2_6 w2_7 htab p1 k1 n1
  unfold maxLen at w1_3 w1_4 w2_2 w2_3
  go_enter Tryd.func3, Tryd.ntmps3
  go_wp2_with fail
  all_goals
    generalize hW : (w.alloc _).alloc _ = W
    obtain ⟨F1, F2, hnx, hs⟩ := two_facts hW
    clear hW
    first
      | (refine (lives31 W (tabIs_below HT.out hnx)).mono ?_
         rintro e w1 ⟨rfl, hb1⟩
         go_wp2_with fail
         go_ret
         exact ⟨rfl, hnx.trans (hb1.mono hnx.size)⟩)
      | skip
  all_goals
    have c0 : W.cell? ⟨w.heap.size, 0, none⟩ = some (.int .u8 a1_0) := F1 0
    have c1 : W.cell? ⟨w.heap.size, 1, none⟩ = some (.slice a1_1 l1_1 c1_1) := F1 1
    have c2 : W.cell? ⟨w.heap.size, 2, none⟩ = some (.int .u8 a1_2) := F1 2
    have c3 : W.cell? ⟨w.heap.size, 3, none⟩ = some (.string a1_3) := F1 3
    have c4 : W.cell? ⟨w.heap.size, 4, none⟩ = some (.string a1_4) := F1 4
    have c5 : W.cell? ⟨w.heap.size, 5, none⟩ = some (.int .u32 a1_5) := F1 5
    have c6 : W.cell? ⟨w.heap.size, 6, none⟩ = some (.int .i64 a1_6) := F1 6
    have c7 : W.cell? ⟨w.heap.size, 7, none⟩ = some (.int .u64 a1_7) := F1 7
    have c8 : W.cell? ⟨w.heap.size, 8, none⟩ = some (.int .u64 a1_8) := F1 8
    have c9 : W.cell? ⟨w.heap.size, 9, none⟩ = some (.int .i64 a1_9) := F1 9
    have c10 : W.cell? ⟨w.heap.size, 10, none⟩ = some (.bool a1_10) := F1 10
    have d0 : W.cell? ⟨w.heap.size + 1, 0, none⟩ = some (.int .u8 a2_0) := F2 0
    have d1 : W.cell? ⟨w.heap.size + 1, 1, none⟩ = some (.int .u64 a2_1) := F2 1
    have d2 : W.cell? ⟨w.heap.size + 1, 2, none⟩ = some (.string a2_2) := F2 2
    have d3 : W.cell? ⟨w.heap.size + 1, 3, none⟩ = some (.string a2_3) := F2 3
    have d4 : W.cell? ⟨w.heap.size + 1, 4, none⟩ = some (.int .u32 a2_4) := F2 4
    have d5 : W.cell? ⟨w.heap.size + 1, 5, none⟩ = some (.int .u64 a2_5) := F2 5
    have d6 : W.cell? ⟨w.heap.size + 1, 6, none⟩ = some (.int .i64 a2_6) := F2 6
    have d7 : W.cell? ⟨w.heap.size + 1, 7, none⟩ = some (.int .i64 a2_7) := F2 7
    have hl0 : w.heap.size < W.heap.size := by omega
    have hl1 : w.heap.size + 1 < W.heap.size := by omega
    replace hnx := hnx.drew
    clear F1 F2 hs
    go_region_held3 (fun w' => w'.cell? ⟨w.heap.size, 0, none⟩ = some (.int .u8 a1_0) ∧ w'.cell? ⟨w.heap.size, 1, none⟩ = some (.slice a1_1 l1_1 c1_1) ∧ w'.cell? ⟨w.heap.size, 2, none⟩ = some (.int .u8 a1_2) ∧ w'.cell? ⟨w.heap.size, 3, none⟩ = some (.string a1_3) ∧ w'.cell? ⟨w.heap.size, 4, none⟩ = some (.string a1_4) ∧ w'.cell? ⟨w.heap.size, 5, none⟩ = some (.int .u32 a1_5) ∧ w'.cell? ⟨w.heap.size, 6, none⟩ = some (.int .i64 a1_6) ∧ w'.cell? ⟨w.heap.size, 7, none⟩ = some (.int .u64 a1_7) ∧ w'.cell? ⟨w.heap.size, 8, none⟩ = some (.int .u64 a1_8) ∧ w'.cell? ⟨w.heap.size, 9, none⟩ = some (.int .i64 a1_9) ∧ w'.cell? ⟨w.heap.size, 10, none⟩ = some (.bool a1_10) ∧ w'.cell? ⟨w.heap.size + 1, 0, none⟩ = some (.int .u8 a2_0) ∧ w'.cell? ⟨w.heap.size + 1, 1, none⟩ = some (.int .u64 a2_1) ∧ w'.cell? ⟨w.heap.size + 1, 2, none⟩ = some (.string a2_2) ∧ w'.cell? ⟨w.heap.size + 1, 3, none⟩ = some (.string a2_3) ∧ w'.cell? ⟨w.heap.size + 1, 4, none⟩ = some (.int .u32 a2_4) ∧ w'.cell? ⟨w.heap.size + 1, 5, none⟩ = some (.int .u64 a2_5) ∧ w'.cell? ⟨w.heap.size + 1, 6, none⟩ = some (.int .i64 a2_6) ∧ w'.cell? ⟨w.heap.size + 1, 7, none⟩ = some (.int .i64 a2_7))
      (first | exact ⟨c0, c1, c2, c3, c4, c5, c6, c7, c8, c9, c10, d0, d1, d2, d3, d4, d5, d6, d7⟩)
      (first
        | (go_at_call 9; refine (ofw a0 p0 p1' _).mono ?_; rintro e w1 ⟨rfl, hb1⟩; replace c0 := box_cell hb1 hl0 c0; replace c1 := box_cell hb1 hl0 c1; replace c2 := box_cell hb1 hl0 c2; replace c3 := box_cell hb1 hl0 c3; replace c4 := box_cell hb1 hl0 c4; replace c5 := box_cell hb1 hl0 c5; replace c6 := box_cell hb1 hl0 c6; replace c7 := box_cell hb1 hl0 c7; replace c8 := box_cell hb1 hl0 c8; replace c9 := box_cell hb1 hl0 c9; replace c10 := box_cell hb1 hl0 c10; replace d0 := box_cell hb1 hl1 d0; replace d1 := box_cell hb1 hl1 d1; replace d2 := box_cell hb1 hl1 d2; replace d3 := box_cell hb1 hl1 d3; replace d4 := box_cell hb1 hl1 d4; replace d5 := box_cell hb1 hl1 d5; replace d6 := box_cell hb1 hl1 d6; replace d7 := box_cell hb1 hl1 d7; replace hl0 := Nat.lt_of_lt_of_le hl0 hb1.size; replace hl1 := Nat.lt_of_lt_of_le hl1 hb1.size; replace hnx := hnx.trans (hb1.mono hnx.size); clear hb1)
        | (go_at_call 10; refine (rofw a0 p0 p1' _).mono ?_; rintro e w1 ⟨rfl, rfl⟩)
        | (go_at_call 11; refine (answer_any a1_0 (.slice a1_1 l1_1 c1_1) a1_2 a1_3 a1_4 a1_5 a1_6 a1_7 a1_8 a1_9 a1_10 a2_0 a2_1 a2_2 a2_3 a2_4 a2_5 a2_6 a2_7 _ k0 k1' n0 n1' (tabIs_below HT.out hnx)).mono ?_; rintro e w1 ⟨rfl, hb1⟩; replace c0 := box_cell hb1 hl0 c0; replace c1 := box_cell hb1 hl0 c1; replace c2 := box_cell hb1 hl0 c2; replace c3 := box_cell hb1 hl0 c3; replace c4 := box_cell hb1 hl0 c4; replace c5 := box_cell hb1 hl0 c5; replace c6 := box_cell hb1 hl0 c6; replace c7 := box_cell hb1 hl0 c7; replace c8 := box_cell hb1 hl0 c8; replace c9 := box_cell hb1 hl0 c9; replace c10 := box_cell hb1 hl0 c10; replace d0 := box_cell hb1 hl1 d0; replace d1 := box_cell hb1 hl1 d1; replace d2 := box_cell hb1 hl1 d2; replace d3 := box_cell hb1 hl1 d3; replace d4 := box_cell hb1 hl1 d4; replace d5 := box_cell hb1 hl1 d5; replace d6 := box_cell hb1 hl1 d6; replace d7 := box_cell hb1 hl1 d7; replace hl0 := Nat.lt_of_lt_of_le hl0 hb1.size; replace hl1 := Nat.lt_of_lt_of_le hl1 hb1.size; replace hnx := hnx.trans (hb1.mono hnx.size); clear hb1)
        | (go_at_call 13; refine (otherw29 a1_0 a1_1 l1_1 c1_1 a1_2 a1_3 a1_4 a1_5 a1_6 a1_7 a1_8 a1_9 a1_10 _).mono ?_; rintro e w1 ⟨rfl, hb1⟩; replace c0 := box_cell hb1 hl0 c0; replace c1 := box_cell hb1 hl0 c1; replace c2 := box_cell hb1 hl0 c2; replace c3 := box_cell hb1 hl0 c3; replace c4 := box_cell hb1 hl0 c4; replace c5 := box_cell hb1 hl0 c5; replace c6 := box_cell hb1 hl0 c6; replace c7 := box_cell hb1 hl0 c7; replace c8 := box_cell hb1 hl0 c8; replace c9 := box_cell hb1 hl0 c9; replace c10 := box_cell hb1 hl0 c10; replace d0 := box_cell hb1 hl1 d0; replace d1 := box_cell hb1 hl1 d1; replace d2 := box_cell hb1 hl1 d2; replace d3 := box_cell hb1 hl1 d3; replace d4 := box_cell hb1 hl1 d4; replace d5 := box_cell hb1 hl1 d5; replace d6 := box_cell hb1 hl1 d6; replace d7 := box_cell hb1 hl1 d7; replace hl0 := Nat.lt_of_lt_of_le hl0 hb1.size; replace hl1 := Nat.lt_of_lt_of_le hl1 hb1.size; replace hnx := hnx.trans (hb1.mono hnx.size); clear hb1)
        | (go_at_call 12; refine (ranswer_any a1_0 (.slice a1_1 l1_1 c1_1) a1_2 a1_3 a1_4 a1_5 a1_6 a1_7 a1_8 a1_9 a1_10 a2_0 a2_1 a2_2 a2_3 a2_4 a2_5 a2_6 a2_7 _ k0 k1' n0 n1').mono ?_; rintro e w1 ⟨rfl, hb1⟩; replace c0 := box_cell hb1 hl0 c0; replace c1 := box_cell hb1 hl0 c1; replace c2 := box_cell hb1 hl0 c2; replace c3 := box_cell hb1 hl0 c3; replace c4 := box_cell hb1 hl0 c4; replace c5 := box_cell hb1 hl0 c5; replace c6 := box_cell hb1 hl0 c6; replace c7 := box_cell hb1 hl0 c7; replace c8 := box_cell hb1 hl0 c8; replace c9 := box_cell hb1 hl0 c9; replace c10 := box_cell hb1 hl0 c10; replace d0 := box_cell hb1 hl1 d0; replace d1 := box_cell hb1 hl1 d1; replace d2 := box_cell hb1 hl1 d2; replace d3 := box_cell hb1 hl1 d3; replace d4 := box_cell hb1 hl1 d4; replace d5 := box_cell hb1 hl1 d5; replace d6 := box_cell hb1 hl1 d6; replace d7 := box_cell hb1 hl1 d7; replace hl0 := Nat.lt_of_lt_of_le hl0 hb1.size; replace hl1 := Nat.lt_of_lt_of_le hl1 hb1.size; replace hnx := hnx.trans (hb1.mono hnx.size); clear hb1)
        | (go_at_call 14; refine (endw _).mono ?_; rintro e w1 ⟨rfl, rfl⟩)
        | (go_at_call 15; refine (rendw _).mono ?_; rintro e w1 ⟨rfl, rfl⟩)
        | (go_at_call 16; refine (versionw _).mono ?_; rintro e w1 ⟨rfl, rfl⟩)
        | (go_at_call 17; refine (rversionw _).mono ?_; rintro e w1 ⟨rfl, rfl⟩)
        | (go_at_call 8; refine (lives31 _ (tabIs_below HT.out hnx)).mono ?_; rintro e w1 ⟨rfl, hb1⟩; replace c0 := box_cell hb1 hl0 c0; replace c1 := box_cell hb1 hl0 c1; replace c2 := box_cell hb1 hl0 c2; replace c3 := box_cell hb1 hl0 c3; replace c4 := box_cell hb1 hl0 c4; replace c5 := box_cell hb1 hl0 c5; replace c6 := box_cell hb1 hl0 c6; replace c7 := box_cell hb1 hl0 c7; replace c8 := box_cell hb1 hl0 c8; replace c9 := box_cell hb1 hl0 c9; replace c10 := box_cell hb1 hl0 c10; replace d0 := box_cell hb1 hl1 d0; replace d1 := box_cell hb1 hl1 d1; replace d2 := box_cell hb1 hl1 d2; replace d3 := box_cell hb1 hl1 d3; replace d4 := box_cell hb1 hl1 d4; replace d5 := box_cell hb1 hl1 d5; replace d6 := box_cell hb1 hl1 d6; replace d7 := box_cell hb1 hl1 d7; replace hl0 := Nat.lt_of_lt_of_le hl0 hb1.size; replace hl1 := Nat.lt_of_lt_of_le hl1 hb1.size; replace hnx := hnx.trans (hb1.mono hnx.size); clear hb1))
    all_goals
      go_wp2
      go_ret
      exact ⟨rfl, hnx⟩
end Go.Proofs.YtcmogfdbjppdeaaDoor
