/- TellsValue: of whatever answer to whatever command the value is the chapter's. -/
import Derived.Test.YtcmogfdbjppdeaaDoorTws
import Derived.Test.YtcmogfdbjppdeaaDoorTw
import Derived.Test.YtcmogfdbjppdeaaDoorTlv
import Derived.Test.YtcmogfdbjppdeaaDoorUp
import Derived.Deep.RegionHeld3
namespace Go.Proofs.YtcmogfdbjppdeaaDoor
open Go.RowKit
set_option linter.unusedVariables false

/-- The value that is told. -/
def valOf (v k : Int) (ik iv : ByteArray) (f id : Nat) : ByteArray := if k ≠ 11 then ⟨#[]⟩ else if v = 2 then valueB ik (toldB [f, iv.size, id]) iv else valueB ik (toldB [f, iv.size]) iv
theorem value_any (v : Int) (ks : Value) (cv : Int) (ck cval : ByteArray) (cf ce ci cb ex : Int) (q : Bool) (k n : Int) (ik iv : ByteArray) (f id : Nat) (d e2 : Int) (w : World) (hK : ik.size ≤ 4000) (hV : iv.size ≤ 4000) (hf : f < 4294967296) (hid : id < 18446744073709551616) (htab : Lib.TabIs Tryd.prog w "internal/strconv.uint64pow10" .u64 Lib.pow10Tab) :
    Calls Tryd.prog 18 #[.agg #[.int .u8 v, ks, .int .u8 cv, .string ck, .string cval, .int .u32 cf, .int .i64 ce, .int .u64 ci, .int .u64 cb, .int .i64 ex, .bool q], .agg #[.int .u8 k, .int .u64 n, .string ik, .string iv, .int .u32 f, .int .u64 id, .int .i64 d, .int .i64 e2]] w fun e w' => e = .returned (.string (valOf v k ik iv f id)) ∧ Below w.heap.size w w' := by
  by_cases hk : k = 11
  · subst hk
    by_cases hv : v = 2
    · subst hv
      have : valOf 2 11 ik iv f id = valueB ik (toldB [f, iv.size, id]) iv := rfl
      rw [this]
      exact value_gets ks cv ck cval cf ce ci cb ex q n ik iv f id d e2 w hK hV hf hid htab
    · have : valOf v 11 ik iv f id = valueB ik (toldB [f, iv.size]) iv := by unfold valOf; rw [if_neg (by simp), if_neg hv]
      rw [this]
      exact value_get v ks cv ck cval cf ce ci cb ex q n ik iv f id d e2 w (beq_eq_false_iff_ne.mpr hv) hK hV hf hid htab
  · have : valOf v k ik iv f id = ⟨#[]⟩ := by unfold valOf; rw [if_pos hk]
    rw [this]
    exact value_no v ks cv ck cval cf ce ci cb ex q k n ik iv f id d e2 w hk
theorem rvalue_any (v : Int) (ks : Value) (cv : Int) (ck cval : ByteArray) (cf ce ci cb ex : Int) (q : Bool) (k n : Int) (ik iv : ByteArray) (f id : Nat) (d e2 : Int) (w : World) (hK : ik.size ≤ 4000) (hV : iv.size ≤ 4000) (hf : f < 4294967296) (hid : id < 18446744073709551616) :
    Calls Tryd.prog 19 #[.agg #[.int .u8 v, ks, .int .u8 cv, .string ck, .string cval, .int .u32 cf, .int .i64 ce, .int .u64 ci, .int .u64 cb, .int .i64 ex, .bool q], .agg #[.int .u8 k, .int .u64 n, .string ik, .string iv, .int .u32 f, .int .u64 id, .int .i64 d, .int .i64 e2]] w fun e w' => e = .returned (.string (valOf v k ik iv f id)) ∧ Below w.heap.size w w' := by
  by_cases hk : k = 11
  · subst hk
    by_cases hv : v = 2
    · subst hv
      have : valOf 2 11 ik iv f id = valueB ik (toldB [f, iv.size, id]) iv := rfl
      rw [this]
      exact rvalue_gets ks cv ck cval cf ce ci cb ex q n ik iv f id d e2 w hK hV hf hid
    · have : valOf v 11 ik iv f id = valueB ik (toldB [f, iv.size]) iv := by unfold valOf; rw [if_neg (by simp), if_neg hv]
      rw [this]
      exact rvalue_get v ks cv ck cval cf ce ci cb ex q n ik iv f id d e2 w (beq_eq_false_iff_ne.mpr hv) hK hV hf hid
  · have : valOf v k ik iv f id = ⟨#[]⟩ := by unfold valOf; rw [if_pos hk]
    rw [this]
    exact rvalue_no v ks cv ck cval cf ce ci cb ex q k n ik iv f id d e2 w hk
set_option maxHeartbeats 4000000 in
set_option maxRecDepth 100000 in
theorem walk_TellsValue (a0_0 : Int) (a0_1 : Option Addr) (l0_1 c0_1 : Nat) (a0_2 : Int) (a0_3 : ByteArray) (a0_4 : ByteArray) (a0_5 : Int) (a0_6 : Int) (a0_7 : Int) (a0_8 : Int) (a0_9 : Int) (a0_10 : Bool) (a1_0 : Int) (a1_1 : Int) (a1_2 : ByteArray) (a1_3 : ByteArray) (a1_4 : Int) (a1_5 : Int) (a1_6 : Int) (a1_7 : Int) (w : World) (w0_0 : (Lit.int .u8 a0_0).wf = true) (w0_1 : Reads Tryd.prog w 23 (.slice a0_1 l0_1 c0_1)) (w0_2 : (Lit.int .u8 a0_2).wf = true) (w0_3 : a0_3.size ≤ 1048576) (w0_4 : a0_4.size ≤ 1048576) (w0_5 : (Lit.int .u32 a0_5).wf = true) (w0_6 : (Lit.int .i64 a0_6).wf = true) (w0_7 : (Lit.int .u64 a0_7).wf = true) (w0_8 : (Lit.int .u64 a0_8).wf = true) (w0_9 : (Lit.int .i64 a0_9).wf = true) (w1_0 : (Lit.int .u8 a1_0).wf = true) (w1_1 : (Lit.int .u64 a1_1).wf = true) (w1_2 : a1_2.size ≤ 1048576) (w1_3 : a1_3.size ≤ 1048576) (w1_4 : (Lit.int .u32 a1_4).wf = true) (w1_5 : (Lit.int .u64 a1_5).wf = true) (w1_6 : (Lit.int .i64 a1_6).wf = true) (w1_7 : (Lit.int .i64 a1_7).wf = true) (htab : Lib.TabIs Tryd.prog w "internal/strconv.uint64pow10" .u64 Lib.pow10Tab) :
    Calls Tryd.prog 4 #[.agg #[.int .u8 a0_0, .slice a0_1 l0_1 c0_1, .int .u8 a0_2, .string a0_3, .string a0_4, .int .u32 a0_5, .int .i64 a0_6, .int .u64 a0_7, .int .u64 a0_8, .int .i64 a0_9, .bool a0_10], .agg #[.int .u8 a1_0, .int .u64 a1_1, .string a1_2, .string a1_3, .int .u32 a1_4, .int .u64 a1_5, .int .i64 a1_6, .int .i64 a1_7]] w fun e w' => e = .returned (.bool true) ∧ Below w.heap.size w w' := by
  obtain ⟨f0, f1⟩ := bounds_u32 w1_4
  obtain ⟨i0, i1⟩ := bounds_u64 w1_5
  obtain ⟨f, rfl⟩ : ∃ n : Nat, a1_4 = n := ⟨a1_4.toNat, by omega⟩
  obtain ⟨id, rfl⟩ : ∃ n : Nat, a1_5 = n := ⟨a1_5.toNat, by omega⟩
  have hf : f < 4294967296 := by omega
  have hid : id < 18446744073709551616 := by omega
  have HT := Lib.hid htab
  have s1 : IntKind.i64.wrap ((a0_3.size : Int) + a0_4.size) = (a0_3.size : Int) + a0_4.size := IntWalk.i64_in _ (by omega)
  have s2 : IntKind.i64.wrap ((a0_3.size : Int) + a0_4.size + a1_2.size) = (a0_3.size : Int) + a0_4.size + a1_2.size := IntWalk.i64_in _ (by omega)
  have s3 : IntKind.i64.wrap ((a0_3.size : Int) + a0_4.size + a1_2.size + a1_3.size) = (a0_3.size : Int) + a0_4.size + a1_2.size + a1_3.size := IntWalk.i64_in _ (by omega)
  clear w0_0 w0_1 w0_2 w0_5 w0_6 w0_7 w0_8 w0_9 w1_0 w1_1 w1_4 w1_5 w1_6 w1_7 htab f0 f1 i0 i1
  have HF := Lib.hid hf
  have HI := Lib.hid hid
  clear hf hid
  go_enter Tryd.func4, Tryd.ntmps4
  go_wp2_with fail
  all_goals
    generalize hW : (w.alloc _).alloc _ = W
    obtain ⟨F1, F2, hnx, hs⟩ := pair_facts hW
    clear hW
    first
      | (refine (lives31 W (tabIs_below HT.out hnx)).mono ?_
         rintro e w1 ⟨rfl, hb1⟩
         go_wp2_with fail
         go_ret
         exact ⟨rfl, hnx.trans (hb1.mono hnx.size)⟩)
      | skip
  all_goals
    have hK : a1_2.size ≤ 4000 := by omega
    have hV : a1_3.size ≤ 4000 := by omega
    have c0 : W.cell? ⟨w.heap.size, 0, none⟩ = some (.int .u8 a0_0) := F1 0
    have c1 : W.cell? ⟨w.heap.size, 1, none⟩ = some (.slice a0_1 l0_1 c0_1) := F1 1
    have c2 : W.cell? ⟨w.heap.size, 2, none⟩ = some (.int .u8 a0_2) := F1 2
    have c3 : W.cell? ⟨w.heap.size, 3, none⟩ = some (.string a0_3) := F1 3
    have c4 : W.cell? ⟨w.heap.size, 4, none⟩ = some (.string a0_4) := F1 4
    have c5 : W.cell? ⟨w.heap.size, 5, none⟩ = some (.int .u32 a0_5) := F1 5
    have c6 : W.cell? ⟨w.heap.size, 6, none⟩ = some (.int .i64 a0_6) := F1 6
    have c7 : W.cell? ⟨w.heap.size, 7, none⟩ = some (.int .u64 a0_7) := F1 7
    have c8 : W.cell? ⟨w.heap.size, 8, none⟩ = some (.int .u64 a0_8) := F1 8
    have c9 : W.cell? ⟨w.heap.size, 9, none⟩ = some (.int .i64 a0_9) := F1 9
    have c10 : W.cell? ⟨w.heap.size, 10, none⟩ = some (.bool a0_10) := F1 10
    have d0 : W.cell? ⟨w.heap.size + 1, 0, none⟩ = some (.int .u8 a1_0) := F2 0
    have d1 : W.cell? ⟨w.heap.size + 1, 1, none⟩ = some (.int .u64 a1_1) := F2 1
    have d2 : W.cell? ⟨w.heap.size + 1, 2, none⟩ = some (.string a1_2) := F2 2
    have d3 : W.cell? ⟨w.heap.size + 1, 3, none⟩ = some (.string a1_3) := F2 3
    have d4 : W.cell? ⟨w.heap.size + 1, 4, none⟩ = some (.int .u32 (f : Int)) := F2 4
    have d5 : W.cell? ⟨w.heap.size + 1, 5, none⟩ = some (.int .u64 (id : Int)) := F2 5
    have d6 : W.cell? ⟨w.heap.size + 1, 6, none⟩ = some (.int .i64 a1_6) := F2 6
    have d7 : W.cell? ⟨w.heap.size + 1, 7, none⟩ = some (.int .i64 a1_7) := F2 7
    have hl0 : w.heap.size < W.heap.size := by omega
    have hl1 : w.heap.size + 1 < W.heap.size := by omega
    replace hnx := hnx.drew
    clear F1 F2 hs s1 s2 s3
    go_region_held3 (fun w' => w'.cell? ⟨w.heap.size, 0, none⟩ = some (.int .u8 a0_0) ∧ w'.cell? ⟨w.heap.size, 1, none⟩ = some (.slice a0_1 l0_1 c0_1) ∧ w'.cell? ⟨w.heap.size, 2, none⟩ = some (.int .u8 a0_2) ∧ w'.cell? ⟨w.heap.size, 3, none⟩ = some (.string a0_3) ∧ w'.cell? ⟨w.heap.size, 4, none⟩ = some (.string a0_4) ∧ w'.cell? ⟨w.heap.size, 5, none⟩ = some (.int .u32 a0_5) ∧ w'.cell? ⟨w.heap.size, 6, none⟩ = some (.int .i64 a0_6) ∧ w'.cell? ⟨w.heap.size, 7, none⟩ = some (.int .u64 a0_7) ∧ w'.cell? ⟨w.heap.size, 8, none⟩ = some (.int .u64 a0_8) ∧ w'.cell? ⟨w.heap.size, 9, none⟩ = some (.int .i64 a0_9) ∧ w'.cell? ⟨w.heap.size, 10, none⟩ = some (.bool a0_10) ∧ w'.cell? ⟨w.heap.size + 1, 0, none⟩ = some (.int .u8 a1_0) ∧ w'.cell? ⟨w.heap.size + 1, 1, none⟩ = some (.int .u64 a1_1) ∧ w'.cell? ⟨w.heap.size + 1, 2, none⟩ = some (.string a1_2) ∧ w'.cell? ⟨w.heap.size + 1, 3, none⟩ = some (.string a1_3) ∧ w'.cell? ⟨w.heap.size + 1, 4, none⟩ = some (.int .u32 (f : Int)) ∧ w'.cell? ⟨w.heap.size + 1, 5, none⟩ = some (.int .u64 (id : Int)) ∧ w'.cell? ⟨w.heap.size + 1, 6, none⟩ = some (.int .i64 a1_6) ∧ w'.cell? ⟨w.heap.size + 1, 7, none⟩ = some (.int .i64 a1_7))
      (first | exact ⟨c0, c1, c2, c3, c4, c5, c6, c7, c8, c9, c10, d0, d1, d2, d3, d4, d5, d6, d7⟩)
      (first
        | (go_at_call 18; refine (value_any a0_0 (.slice a0_1 l0_1 c0_1) a0_2 a0_3 a0_4 a0_5 a0_6 a0_7 a0_8 a0_9 a0_10 a1_0 a1_1 a1_2 a1_3 f id a1_6 a1_7 _ hK hV HF.out HI.out (tabIs_below HT.out hnx)).mono ?_; rintro e w1 ⟨rfl, hb1⟩; replace c0 := box_cell hb1 hl0 c0; replace c1 := box_cell hb1 hl0 c1; replace c2 := box_cell hb1 hl0 c2; replace c3 := box_cell hb1 hl0 c3; replace c4 := box_cell hb1 hl0 c4; replace c5 := box_cell hb1 hl0 c5; replace c6 := box_cell hb1 hl0 c6; replace c7 := box_cell hb1 hl0 c7; replace c8 := box_cell hb1 hl0 c8; replace c9 := box_cell hb1 hl0 c9; replace c10 := box_cell hb1 hl0 c10; replace d0 := box_cell hb1 hl1 d0; replace d1 := box_cell hb1 hl1 d1; replace d2 := box_cell hb1 hl1 d2; replace d3 := box_cell hb1 hl1 d3; replace d4 := box_cell hb1 hl1 d4; replace d5 := box_cell hb1 hl1 d5; replace d6 := box_cell hb1 hl1 d6; replace d7 := box_cell hb1 hl1 d7; replace hl0 := Nat.lt_of_lt_of_le hl0 hb1.size; replace hl1 := Nat.lt_of_lt_of_le hl1 hb1.size; replace hnx := hnx.trans (hb1.mono hnx.size); clear hb1)
        | (go_at_call 13; refine (otherw29 a0_0 a0_1 l0_1 c0_1 a0_2 a0_3 a0_4 a0_5 a0_6 a0_7 a0_8 a0_9 a0_10 _).mono ?_; rintro e w1 ⟨rfl, hb1⟩; replace c0 := box_cell hb1 hl0 c0; replace c1 := box_cell hb1 hl0 c1; replace c2 := box_cell hb1 hl0 c2; replace c3 := box_cell hb1 hl0 c3; replace c4 := box_cell hb1 hl0 c4; replace c5 := box_cell hb1 hl0 c5; replace c6 := box_cell hb1 hl0 c6; replace c7 := box_cell hb1 hl0 c7; replace c8 := box_cell hb1 hl0 c8; replace c9 := box_cell hb1 hl0 c9; replace c10 := box_cell hb1 hl0 c10; replace d0 := box_cell hb1 hl1 d0; replace d1 := box_cell hb1 hl1 d1; replace d2 := box_cell hb1 hl1 d2; replace d3 := box_cell hb1 hl1 d3; replace d4 := box_cell hb1 hl1 d4; replace d5 := box_cell hb1 hl1 d5; replace d6 := box_cell hb1 hl1 d6; replace d7 := box_cell hb1 hl1 d7; replace hl0 := Nat.lt_of_lt_of_le hl0 hb1.size; replace hl1 := Nat.lt_of_lt_of_le hl1 hb1.size; replace hnx := hnx.trans (hb1.mono hnx.size); clear hb1)
        | (go_at_call 19; refine (rvalue_any a0_0 (.slice a0_1 l0_1 c0_1) a0_2 a0_3 a0_4 a0_5 a0_6 a0_7 a0_8 a0_9 a0_10 a1_0 a1_1 a1_2 a1_3 f id a1_6 a1_7 _ hK hV HF.out HI.out).mono ?_; rintro e w1 ⟨rfl, hb1⟩; replace c0 := box_cell hb1 hl0 c0; replace c1 := box_cell hb1 hl0 c1; replace c2 := box_cell hb1 hl0 c2; replace c3 := box_cell hb1 hl0 c3; replace c4 := box_cell hb1 hl0 c4; replace c5 := box_cell hb1 hl0 c5; replace c6 := box_cell hb1 hl0 c6; replace c7 := box_cell hb1 hl0 c7; replace c8 := box_cell hb1 hl0 c8; replace c9 := box_cell hb1 hl0 c9; replace c10 := box_cell hb1 hl0 c10; replace d0 := box_cell hb1 hl1 d0; replace d1 := box_cell hb1 hl1 d1; replace d2 := box_cell hb1 hl1 d2; replace d3 := box_cell hb1 hl1 d3; replace d4 := box_cell hb1 hl1 d4; replace d5 := box_cell hb1 hl1 d5; replace d6 := box_cell hb1 hl1 d6; replace d7 := box_cell hb1 hl1 d7; replace hl0 := Nat.lt_of_lt_of_le hl0 hb1.size; replace hl1 := Nat.lt_of_lt_of_le hl1 hb1.size; replace hnx := hnx.trans (hb1.mono hnx.size); clear hb1)
        | (go_at_call 8; refine (lives31 _ (tabIs_below HT.out hnx)).mono ?_; rintro e w1 ⟨rfl, hb1⟩; replace c0 := box_cell hb1 hl0 c0; replace c1 := box_cell hb1 hl0 c1; replace c2 := box_cell hb1 hl0 c2; replace c3 := box_cell hb1 hl0 c3; replace c4 := box_cell hb1 hl0 c4; replace c5 := box_cell hb1 hl0 c5; replace c6 := box_cell hb1 hl0 c6; replace c7 := box_cell hb1 hl0 c7; replace c8 := box_cell hb1 hl0 c8; replace c9 := box_cell hb1 hl0 c9; replace c10 := box_cell hb1 hl0 c10; replace d0 := box_cell hb1 hl1 d0; replace d1 := box_cell hb1 hl1 d1; replace d2 := box_cell hb1 hl1 d2; replace d3 := box_cell hb1 hl1 d3; replace d4 := box_cell hb1 hl1 d4; replace d5 := box_cell hb1 hl1 d5; replace d6 := box_cell hb1 hl1 d6; replace d7 := box_cell hb1 hl1 d7; replace hl0 := Nat.lt_of_lt_of_le hl0 hb1.size; replace hl1 := Nat.lt_of_lt_of_le hl1 hb1.size; replace hnx := hnx.trans (hb1.mono hnx.size); clear hb1))
    all_goals
      go_wp2
      go_ret
      exact ⟨rfl, hnx⟩
end Go.Proofs.YtcmogfdbjppdeaaDoor
