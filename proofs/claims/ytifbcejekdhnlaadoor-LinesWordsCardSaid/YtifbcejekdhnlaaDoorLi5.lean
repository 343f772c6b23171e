/- Lines: the chapter's examples. Printed by tools/genli5.py. -/
import Derived.Test.YtifbcejekdhnlaaDoorLi4
namespace Go.Proofs.YtifbcejekdhnlaaDoor
open Go.RowKit Go.Maps
set_option linter.unusedVariables false

theorem lv_p1 : parseC [115, 101, 116, 32, 97, 32, 53, 32, 48, 32, 51] = (⟨3, [[97]], 3, [97], [], 5, 0, 0, 0, 3, false⟩, 0) := by kernel_rfl
theorem lv_p2 : parseC [103, 101, 116, 32, 97, 32, 98] = (⟨1, [[97], [98]], 1, [97], [], 0, 0, 0, 0, -1, false⟩, 0) := by kernel_rfl
theorem lv_p3 : parseC [105, 110, 99, 114, 32, 97, 32, 120] = (Cmd.none, 4) := by kernel_rfl
theorem lv_p4 : parseC [115, 101, 116, 32, 97, 32, 53, 32, 48, 32, 49, 48, 50, 53] = (⟨3, [[97]], 3, [97], [], 5, 0, 0, 0, 1025, false⟩, 5) := by kernel_rfl
theorem lv_p5 : parseC [115, 101, 116, 32, 97, 32, 53, 32, 48] = (Cmd.none, 1) := by kernel_rfl
theorem lv_p6 : parseC [115, 101, 116, 32, 97, 32, 53, 32, 48, 32, 45, 49] = (Cmd.none, 2) := by kernel_rfl
theorem lv_p7 : parseC [71, 69, 84, 32, 97] = (Cmd.none, 1) := by kernel_rfl
theorem lv_p8 : parseC [100, 101, 108, 101, 116, 101, 32, 97, 32, 110, 111, 114, 101, 112, 108, 121] = (⟨7, [[97]], 7, [97], [], 0, 0, 0, 0, -1, true⟩, 0) := by kernel_rfl
theorem lv_p9 : parseC [102, 108, 117, 115, 104, 95, 97, 108, 108, 32, 45, 48, 32, 110, 111, 114, 101, 112, 108, 121] = (flushC, 0) := by kernel_rfl
/-- A command's box, whose keys can be read. -/
structure LvR (W : World) (q : Nat) (c : Cmd) (kv : Value) : Prop where
  box : Cb W q (cmdC c kv)
  keys : KyR W kv c.keys
theorem LvR.on {W W' : World} {q : Nat} {c : Cmd} {kv : Value} (h : LvR W q c kv) (hb : Below W.heap.size W W') : LvR W' q c kv := ⟨h.box.new hb, h.keys.on hb⟩
theorem parsel_lit (s : ByteArray) (w : World) (hs : s.size ≤ maxLen) {c : Cmd} {t : Nat} (h : parseC s.data.toList = (c, t)) : Calls Tryd.prog 10 #[.string s] w fun e w' => ∃ A k, e = .returned (.tuple #[.agg (cmdC c (.slice A c.keys.length k)).toArray, .int .u8 (t : Nat)]) ∧ KyR w' (.slice A c.keys.length k) c.keys ∧ Below w.heap.size w w' := by
  refine (parsel s w hs).mono ?_
  rw [h]
  rintro e w' ⟨kv, rfl, hk, hb⟩
  have hr : KyR w' kv c.keys := (KyS.of_lst (U := fun _ => False) hk (fun _ _ _ e => e)).rd
  obtain ⟨A, k, rfl, -⟩ := hr.form
  exact ⟨A, k, rfl, hr, hb⟩
theorem key_at {W : World} {A : Option Addr} {n c : Nat} {l : List (List UInt8)} {k : Nat} {x : List UInt8} (h : KyR W (.slice A n c) l) (hk : l[k]? = some x) : ∃ g, A = some ⟨g, 0, none⟩ ∧ W.cell? ⟨g, k, none⟩ = some (.string ⟨x.toArray⟩) := by
  obtain ⟨A', c', e, -, -, h3⟩ := h.form
  obtain ⟨g, e2, -, h4⟩ := h3 k x hk
  injection e with e1 e3 e4
  exact ⟨g, e1.trans e2, h4⟩
set_option maxHeartbeats 8000000 in
set_option maxRecDepth 100000 in
theorem lives29 (w : World) : Calls Tryd.prog 9 #[] w fun e w' => e = .returned (.bool true) ∧ Below w.heap.size w w' := by
  have HF := Lib.hid line_flush
  have hB0 : Below w.heap.size w w := Below.refl _ _
  go_enter Tryd.func9, Tryd.ntmps9
  have hp1 := parsel_lit ⟨#[115, 101, 116, 32, 97, 32, 53, 32, 48, 32, 51]⟩ w (by decide) lv_p1
  go_upto_region 2 with (go_at_call 10; refine hp1.mono ?_; rintro e X1 ⟨A1, c1, he1, hk1, hb1⟩; have hf1 : e = .returned (.tuple #[.agg #[.int .u8 3, .slice A1 1 c1, .int .u8 3, .string ⟨#[97]⟩, .string ⟨#[]⟩, .int .u32 5, .int .i64 0, .int .u64 0, .int .u64 0, .int .i64 3, .bool false], .int .u8 0]) := he1; subst hf1; clear he1 hp1)
  have ha1 : Below X1.heap.size X1 (X1.alloc (.cells #[.int .u8 3, .slice A1 1 c1, .int .u8 3, .string ⟨#[97]⟩, .string ⟨#[]⟩, .int .u32 5, .int .i64 0, .int .u64 0, .int .u64 0, .int .i64 3, .bool false] 30)) := (Below.refl _ _).alloc (Nat.le_refl _) _
  have hq1 : Cb (X1.alloc (.cells #[.int .u8 3, .slice A1 1 c1, .int .u8 3, .string ⟨#[97]⟩, .string ⟨#[]⟩, .int .u32 5, .int .i64 0, .int .u64 0, .int .u64 0, .int .i64 3, .bool false] 30)) X1.heap.size (cmdC ⟨3, [[97]], 3, [97], [], 5, 0, 0, 0, 3, false⟩ (.slice A1 1 c1)) := cb_new rfl
  generalize X1.alloc _ = Y1 at *
  have hB1 : Below w.heap.size w Y1 := hB0.trans ((hb1.trans (ha1.mono hb1.size)).mono hB0.size)
  have hl1 := Lib.hid (LvR.mk hq1 (hk1.on ha1))
  clear hb1 ha1 hq1 hk1 hB0
  have hp2 := parsel_lit ⟨#[103, 101, 116, 32, 97, 32, 98]⟩ Y1 (by decide) lv_p2
  go_upto_region 3 with (go_at_call 10; refine hp2.mono ?_; rintro e X2 ⟨A2, c2, he2, hk2, hb2⟩; have hf2 : e = .returned (.tuple #[.agg #[.int .u8 1, .slice A2 2 c2, .int .u8 1, .string ⟨#[97]⟩, .string ⟨#[]⟩, .int .u32 0, .int .i64 0, .int .u64 0, .int .u64 0, .int .i64 (-1), .bool false], .int .u8 0]) := he2; subst hf2; clear he2 hp2)
  have ha2 : Below X2.heap.size X2 (X2.alloc (.cells #[.int .u8 1, .slice A2 2 c2, .int .u8 1, .string ⟨#[97]⟩, .string ⟨#[]⟩, .int .u32 0, .int .i64 0, .int .u64 0, .int .u64 0, .int .i64 (-1), .bool false] 30)) := (Below.refl _ _).alloc (Nat.le_refl _) _
  have hq2 : Cb (X2.alloc (.cells #[.int .u8 1, .slice A2 2 c2, .int .u8 1, .string ⟨#[97]⟩, .string ⟨#[]⟩, .int .u32 0, .int .i64 0, .int .u64 0, .int .u64 0, .int .i64 (-1), .bool false] 30)) X2.heap.size (cmdC ⟨1, [[97], [98]], 1, [97], [], 0, 0, 0, 0, -1, false⟩ (.slice A2 2 c2)) := cb_new rfl
  generalize X2.alloc _ = Y2 at *
  have hB2 : Below w.heap.size w Y2 := hB1.trans ((hb2.trans (ha2.mono hb2.size)).mono hB1.size)
  replace hl1 := (hl1.out.on hb2).on ha2; replace hl1 := Lib.hid hl1
  have hl2 := Lib.hid (LvR.mk hq2 (hk2.on ha2))
  clear hb2 ha2 hq2 hk2 hB1
  have hp3 := parsel_lit ⟨#[105, 110, 99, 114, 32, 97, 32, 120]⟩ Y2 (by decide) lv_p3
  go_upto_region 4 with (go_at_call 10; refine hp3.mono ?_; rintro e X3 ⟨A3, c3, he3, hk3, hb3⟩; have hf3 : e = .returned (.tuple #[.agg #[.int .u8 0, .slice A3 0 c3, .int .u8 0, .string ⟨#[]⟩, .string ⟨#[]⟩, .int .u32 0, .int .i64 0, .int .u64 0, .int .u64 0, .int .i64 0, .bool false], .int .u8 4]) := he3; subst hf3; clear he3 hp3)
  have ha3 : Below X3.heap.size X3 (X3.alloc (.cells #[.int .u8 0, .slice A3 0 c3, .int .u8 0, .string ⟨#[]⟩, .string ⟨#[]⟩, .int .u32 0, .int .i64 0, .int .u64 0, .int .u64 0, .int .i64 0, .bool false] 30)) := (Below.refl _ _).alloc (Nat.le_refl _) _
  have hq3 : Cb (X3.alloc (.cells #[.int .u8 0, .slice A3 0 c3, .int .u8 0, .string ⟨#[]⟩, .string ⟨#[]⟩, .int .u32 0, .int .i64 0, .int .u64 0, .int .u64 0, .int .i64 0, .bool false] 30)) X3.heap.size (cmdC Cmd.none (.slice A3 0 c3)) := cb_new rfl
  generalize X3.alloc _ = Y3 at *
  have hB3 : Below w.heap.size w Y3 := hB2.trans ((hb3.trans (ha3.mono hb3.size)).mono hB2.size)
  replace hl1 := (hl1.out.on hb3).on ha3; replace hl1 := Lib.hid hl1
  replace hl2 := (hl2.out.on hb3).on ha3; replace hl2 := Lib.hid hl2
  clear hb3 ha3 hq3 hk3 hB2
  have hp4 := parsel_lit ⟨#[115, 101, 116, 32, 97, 32, 53, 32, 48, 32, 49, 48, 50, 53]⟩ Y3 (by decide) lv_p4
  go_upto_region 5 with (go_at_call 10; refine hp4.mono ?_; rintro e X4 ⟨A4, c4, he4, hk4, hb4⟩; have hf4 : e = .returned (.tuple #[.agg #[.int .u8 3, .slice A4 1 c4, .int .u8 3, .string ⟨#[97]⟩, .string ⟨#[]⟩, .int .u32 5, .int .i64 0, .int .u64 0, .int .u64 0, .int .i64 1025, .bool false], .int .u8 5]) := he4; subst hf4; clear he4 hp4)
  have ha4 : Below X4.heap.size X4 (X4.alloc (.cells #[.int .u8 3, .slice A4 1 c4, .int .u8 3, .string ⟨#[97]⟩, .string ⟨#[]⟩, .int .u32 5, .int .i64 0, .int .u64 0, .int .u64 0, .int .i64 1025, .bool false] 30)) := (Below.refl _ _).alloc (Nat.le_refl _) _
  have hq4 : Cb (X4.alloc (.cells #[.int .u8 3, .slice A4 1 c4, .int .u8 3, .string ⟨#[97]⟩, .string ⟨#[]⟩, .int .u32 5, .int .i64 0, .int .u64 0, .int .u64 0, .int .i64 1025, .bool false] 30)) X4.heap.size (cmdC ⟨3, [[97]], 3, [97], [], 5, 0, 0, 0, 1025, false⟩ (.slice A4 1 c4)) := cb_new rfl
  generalize X4.alloc _ = Y4 at *
  have hB4 : Below w.heap.size w Y4 := hB3.trans ((hb4.trans (ha4.mono hb4.size)).mono hB3.size)
  replace hl1 := (hl1.out.on hb4).on ha4; replace hl1 := Lib.hid hl1
  replace hl2 := (hl2.out.on hb4).on ha4; replace hl2 := Lib.hid hl2
  have hl4 := Lib.hid (LvR.mk hq4 (hk4.on ha4))
  clear hb4 ha4 hq4 hk4 hB3
  have hp5 := parsel_lit ⟨#[115, 101, 116, 32, 97, 32, 53, 32, 48]⟩ Y4 (by decide) lv_p5
  go_upto_region 6 with (go_at_call 10; refine hp5.mono ?_; rintro e X5 ⟨A5, c5, he5, hk5, hb5⟩; have hf5 : e = .returned (.tuple #[.agg #[.int .u8 0, .slice A5 0 c5, .int .u8 0, .string ⟨#[]⟩, .string ⟨#[]⟩, .int .u32 0, .int .i64 0, .int .u64 0, .int .u64 0, .int .i64 0, .bool false], .int .u8 1]) := he5; subst hf5; clear he5 hp5)
  have ha5 : Below X5.heap.size X5 (X5.alloc (.cells #[.int .u8 0, .slice A5 0 c5, .int .u8 0, .string ⟨#[]⟩, .string ⟨#[]⟩, .int .u32 0, .int .i64 0, .int .u64 0, .int .u64 0, .int .i64 0, .bool false] 30)) := (Below.refl _ _).alloc (Nat.le_refl _) _
  have hq5 : Cb (X5.alloc (.cells #[.int .u8 0, .slice A5 0 c5, .int .u8 0, .string ⟨#[]⟩, .string ⟨#[]⟩, .int .u32 0, .int .i64 0, .int .u64 0, .int .u64 0, .int .i64 0, .bool false] 30)) X5.heap.size (cmdC Cmd.none (.slice A5 0 c5)) := cb_new rfl
  generalize X5.alloc _ = Y5 at *
  have hB5 : Below w.heap.size w Y5 := hB4.trans ((hb5.trans (ha5.mono hb5.size)).mono hB4.size)
  replace hl1 := (hl1.out.on hb5).on ha5; replace hl1 := Lib.hid hl1
  replace hl2 := (hl2.out.on hb5).on ha5; replace hl2 := Lib.hid hl2
  replace hl4 := (hl4.out.on hb5).on ha5; replace hl4 := Lib.hid hl4
  clear hb5 ha5 hq5 hk5 hB4
  have hp6 := parsel_lit ⟨#[115, 101, 116, 32, 97, 32, 53, 32, 48, 32, 45, 49]⟩ Y5 (by decide) lv_p6
  go_upto_region 7 with (go_at_call 10; refine hp6.mono ?_; rintro e X6 ⟨A6, c6, he6, hk6, hb6⟩; have hf6 : e = .returned (.tuple #[.agg #[.int .u8 0, .slice A6 0 c6, .int .u8 0, .string ⟨#[]⟩, .string ⟨#[]⟩, .int .u32 0, .int .i64 0, .int .u64 0, .int .u64 0, .int .i64 0, .bool false], .int .u8 2]) := he6; subst hf6; clear he6 hp6)
  have ha6 : Below X6.heap.size X6 (X6.alloc (.cells #[.int .u8 0, .slice A6 0 c6, .int .u8 0, .string ⟨#[]⟩, .string ⟨#[]⟩, .int .u32 0, .int .i64 0, .int .u64 0, .int .u64 0, .int .i64 0, .bool false] 30)) := (Below.refl _ _).alloc (Nat.le_refl _) _
  have hq6 : Cb (X6.alloc (.cells #[.int .u8 0, .slice A6 0 c6, .int .u8 0, .string ⟨#[]⟩, .string ⟨#[]⟩, .int .u32 0, .int .i64 0, .int .u64 0, .int .u64 0, .int .i64 0, .bool false] 30)) X6.heap.size (cmdC Cmd.none (.slice A6 0 c6)) := cb_new rfl
  generalize X6.alloc _ = Y6 at *
  have hB6 : Below w.heap.size w Y6 := hB5.trans ((hb6.trans (ha6.mono hb6.size)).mono hB5.size)
  replace hl1 := (hl1.out.on hb6).on ha6; replace hl1 := Lib.hid hl1
  replace hl2 := (hl2.out.on hb6).on ha6; replace hl2 := Lib.hid hl2
  replace hl4 := (hl4.out.on hb6).on ha6; replace hl4 := Lib.hid hl4
  clear hb6 ha6 hq6 hk6 hB5
  have hp7 := parsel_lit ⟨#[71, 69, 84, 32, 97]⟩ Y6 (by decide) lv_p7
  go_upto_region 8 with (go_at_call 10; refine hp7.mono ?_; rintro e X7 ⟨A7, c7, he7, hk7, hb7⟩; have hf7 : e = .returned (.tuple #[.agg #[.int .u8 0, .slice A7 0 c7, .int .u8 0, .string ⟨#[]⟩, .string ⟨#[]⟩, .int .u32 0, .int .i64 0, .int .u64 0, .int .u64 0, .int .i64 0, .bool false], .int .u8 1]) := he7; subst hf7; clear he7 hp7)
  have ha7 : Below X7.heap.size X7 (X7.alloc (.cells #[.int .u8 0, .slice A7 0 c7, .int .u8 0, .string ⟨#[]⟩, .string ⟨#[]⟩, .int .u32 0, .int .i64 0, .int .u64 0, .int .u64 0, .int .i64 0, .bool false] 30)) := (Below.refl _ _).alloc (Nat.le_refl _) _
  have hq7 : Cb (X7.alloc (.cells #[.int .u8 0, .slice A7 0 c7, .int .u8 0, .string ⟨#[]⟩, .string ⟨#[]⟩, .int .u32 0, .int .i64 0, .int .u64 0, .int .u64 0, .int .i64 0, .bool false] 30)) X7.heap.size (cmdC Cmd.none (.slice A7 0 c7)) := cb_new rfl
  generalize X7.alloc _ = Y7 at *
  have hB7 : Below w.heap.size w Y7 := hB6.trans ((hb7.trans (ha7.mono hb7.size)).mono hB6.size)
  replace hl1 := (hl1.out.on hb7).on ha7; replace hl1 := Lib.hid hl1
  replace hl2 := (hl2.out.on hb7).on ha7; replace hl2 := Lib.hid hl2
  replace hl4 := (hl4.out.on hb7).on ha7; replace hl4 := Lib.hid hl4
  clear hb7 ha7 hq7 hk7 hB6
  have hp8 := parsel_lit ⟨#[100, 101, 108, 101, 116, 101, 32, 97, 32, 110, 111, 114, 101, 112, 108, 121]⟩ Y7 (by decide) lv_p8
  go_upto_region 9 with (go_at_call 10; refine hp8.mono ?_; rintro e X8 ⟨A8, c8, he8, hk8, hb8⟩; have hf8 : e = .returned (.tuple #[.agg #[.int .u8 7, .slice A8 1 c8, .int .u8 7, .string ⟨#[97]⟩, .string ⟨#[]⟩, .int .u32 0, .int .i64 0, .int .u64 0, .int .u64 0, .int .i64 (-1), .bool true], .int .u8 0]) := he8; subst hf8; clear he8 hp8)
  have ha8 : Below X8.heap.size X8 (X8.alloc (.cells #[.int .u8 7, .slice A8 1 c8, .int .u8 7, .string ⟨#[97]⟩, .string ⟨#[]⟩, .int .u32 0, .int .i64 0, .int .u64 0, .int .u64 0, .int .i64 (-1), .bool true] 30)) := (Below.refl _ _).alloc (Nat.le_refl _) _
  have hq8 : Cb (X8.alloc (.cells #[.int .u8 7, .slice A8 1 c8, .int .u8 7, .string ⟨#[97]⟩, .string ⟨#[]⟩, .int .u32 0, .int .i64 0, .int .u64 0, .int .u64 0, .int .i64 (-1), .bool true] 30)) X8.heap.size (cmdC ⟨7, [[97]], 7, [97], [], 0, 0, 0, 0, -1, true⟩ (.slice A8 1 c8)) := cb_new rfl
  generalize X8.alloc _ = Y8 at *
  have hB8 : Below w.heap.size w Y8 := hB7.trans ((hb8.trans (ha8.mono hb8.size)).mono hB7.size)
  replace hl1 := (hl1.out.on hb8).on ha8; replace hl1 := Lib.hid hl1
  replace hl2 := (hl2.out.on hb8).on ha8; replace hl2 := Lib.hid hl2
  replace hl4 := (hl4.out.on hb8).on ha8; replace hl4 := Lib.hid hl4
  have hl8 := Lib.hid (LvR.mk hq8 (hk8.on ha8))
  clear hb8 ha8 hq8 hk8 hB7
  have hp9 := parsel_lit ⟨#[102, 108, 117, 115, 104, 95, 97, 108, 108, 32, 45, 48, 32, 110, 111, 114, 101, 112, 108, 121]⟩ Y8 (by decide) lv_p9
  go_upto_region 10 with (go_at_call 10; refine hp9.mono ?_; rintro e X9 ⟨A9, c9, he9, hk9, hb9⟩; have hf9 : e = .returned (.tuple #[.agg #[.int .u8 11, .slice A9 0 c9, .int .u8 11, .string ⟨#[]⟩, .string ⟨#[]⟩, .int .u32 0, .int .i64 0, .int .u64 0, .int .u64 0, .int .i64 (-1), .bool true], .int .u8 0]) := he9; subst hf9; clear he9 hp9)
  have ha9 : Below X9.heap.size X9 (X9.alloc (.cells #[.int .u8 11, .slice A9 0 c9, .int .u8 11, .string ⟨#[]⟩, .string ⟨#[]⟩, .int .u32 0, .int .i64 0, .int .u64 0, .int .u64 0, .int .i64 (-1), .bool true] 30)) := (Below.refl _ _).alloc (Nat.le_refl _) _
  have hq9 : Cb (X9.alloc (.cells #[.int .u8 11, .slice A9 0 c9, .int .u8 11, .string ⟨#[]⟩, .string ⟨#[]⟩, .int .u32 0, .int .i64 0, .int .u64 0, .int .u64 0, .int .i64 (-1), .bool true] 30)) X9.heap.size (cmdC flushC (.slice A9 0 c9)) := cb_new rfl
  generalize X9.alloc _ = Y9 at *
  have hB9 : Below w.heap.size w Y9 := hB8.trans ((hb9.trans (ha9.mono hb9.size)).mono hB8.size)
  replace hl1 := (hl1.out.on hb9).on ha9; replace hl1 := Lib.hid hl1
  replace hl2 := (hl2.out.on hb9).on ha9; replace hl2 := Lib.hid hl2
  replace hl4 := (hl4.out.on hb9).on ha9; replace hl4 := Lib.hid hl4
  replace hl8 := (hl8.out.on hb9).on ha9; replace hl8 := Lib.hid hl8
  have hl9 := Lib.hid (LvR.mk hq9 (hk9.on ha9))
  clear hb9 ha9 hq9 hk9 hB8
  obtain ⟨x0, x1, x2, x3, x4, x5, x6, x7, x8, x9, x10⟩ := cb_cells hl9.out.box
  go_upto_region 11 with (go_at_call 13; refine (HF.out _ Y9 hl9.out.keys).mono ?_; rintro e Z ⟨rfl, hbz⟩)
  clear x0 x1 x2 x3 x4 x5 x6 x7 x8 x9 x10
  replace hl1 := hl1.out.on hbz
  obtain ⟨p0, p1, p2, p3, p4, p5, p6, p7, p8, p9, p10⟩ := cb_cells hl1.box
  replace hl2 := hl2.out.on hbz
  obtain ⟨q0, q1, q2, q3, q4, q5, q6, q7, q8, q9, q10⟩ := cb_cells hl2.box
  replace hl4 := hl4.out.on hbz
  obtain ⟨r0, r1, r2, r3, r4, r5, r6, r7, r8, r9, r10⟩ := cb_cells hl4.box
  replace hl8 := hl8.out.on hbz
  obtain ⟨s0, s1, s2, s3, s4, s5, s6, s7, s8, s9, s10⟩ := cb_cells hl8.box
  replace hl9 := hl9.out.on hbz
  obtain ⟨t0, t1, t2, t3, t4, t5, t6, t7, t8, t9, t10⟩ := cb_cells hl9.box
  obtain ⟨g1, rfl, k1⟩ := key_at (k := 0) hl1.keys rfl
  obtain ⟨g2, rfl, k2⟩ := key_at (k := 1) hl2.keys rfl
  simp only [flushC] at t0 t1 t2 t3 t4 t5 t6 t7 t8 t9 t10
  clear hl1 hl2 hl4 hl8 hl9
  go_wp2_with fail
  refine bodyPost_ret (v := .bool true) (by simp [results, Tryd.results9, go_sem]; rfl) rfl ?_
  exact ⟨rfl, hB9.trans (hbz.mono hB9.size)⟩
end Go.Proofs.YtifbcejekdhnlaaDoor
