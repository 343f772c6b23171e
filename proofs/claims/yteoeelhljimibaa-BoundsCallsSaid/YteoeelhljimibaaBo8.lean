/- Bounds: the chapter's examples. -/
import Derived.Test.YteoeelhljimibaaGBc
import Derived.Lib.SlBytesConst
namespace Go.Proofs.Yteoeelhljimibaa
open Go.RowKit Go.Maps
set_option linter.unusedVariables false

/-- A config in a block. -/
structure Cfg (W : World) (p : Nat) (b u t q y : Int) : Prop where
  cells : W.cell? ⟨p, 0, none⟩ = some (.int .i64 b) ∧ W.cell? ⟨p, 1, none⟩ = some (.int .i64 u) ∧ W.cell? ⟨p, 2, none⟩ = some (.int .i64 t) ∧ W.cell? ⟨p, 3, none⟩ = some (.int .i64 q) ∧ W.cell? ⟨p, 4, none⟩ = some (.int .i64 y)
  lt : p < W.heap.size
theorem Cfg.on {W W' : World} {p : Nat} {b u t q y : Int} (h : Cfg W p b u t q y) (hb : Below W.heap.size W W') : Cfg W' p b u t q y := by
  obtain ⟨⟨f0, f1, f2, f3, f4⟩, hl⟩ := h
  exact ⟨⟨(hb.cell (p := ⟨p, 0, none⟩) hl).trans f0, (hb.cell (p := ⟨p, 1, none⟩) hl).trans f1, (hb.cell (p := ⟨p, 2, none⟩) hl).trans f2, (hb.cell (p := ⟨p, 3, none⟩) hl).trans f3, (hb.cell (p := ⟨p, 4, none⟩) hl).trans f4⟩, Nat.lt_of_lt_of_le hl hb.size⟩
def ex40 : List UInt8 := [103, 101, 116, 32, 97, 32, 98, 13, 10, 118, 101, 114, 115, 105, 111, 110, 13, 10, 115, 101, 116, 32, 97, 32, 48, 32, 48, 32, 49, 13, 10, 120, 13, 10]
def cl40 : List Cl := [⟨1, [97], [], 0, 0, 0, 0⟩, ⟨1, [98], [], 0, 0, 0, 0⟩, ⟨3, [97], [120], 0, 0, 0, 0⟩]
theorem ex40_calls : callsL (feedF Fst.new ex40).2 = cl40 := by kernel_rfl
theorem of40_0 : ofI 0 2 8 3 1 16 = 210 := by kernel_rfl
theorem of40_1 : ofI 1 2 8 3 1 16 = 894 := by kernel_rfl
theorem of40_2 : ofI 2 2 8 3 1 16 = 781 := by kernel_rfl
theorem of40_3 : ofI 3 2 8 3 1 16 = 152 := by kernel_rfl
theorem of40_4 : ofI 4 2 8 3 1 16 = 2161 := by kernel_rfl
theorem of40_5 : ofI 5 2 8 3 1 16 = 925 := by kernel_rfl
theorem of40_6 : ofI 6 2 8 3 1 16 = 4 := by kernel_rfl
/-- Bytes that are marked as a string's. -/
theorem calls_lit (L : List UInt8) (C : Array Value) (T : TypeId) (fr : Nat × Nat) (W : World) (n : Nat) (l : List Cl) (hC : C = (byv L).toArray) (hn : L.length = n) (hl : n ≤ 16000) (hf : callsL (feedF Fst.new L).2 = l) :
    Calls Try.prog 20 #[.slice (some ⟨W.heap.size, 0, none⟩) n n] (W.alloc (.cells C T fr)) fun e W' => ∃ a, e = .returned (.slice a l.length l.length) ∧ ClR W' (.slice a l.length l.length) l ∧ Below W.heap.size W W' := by
  subst hC hn hf
  refine Calls.mono (callsB (some ⟨W.heap.size, 0, none⟩) L.length L (W.alloc (.cells (byv L).toArray T fr)) (Nat.le_refl _) (by unfold maxLen; omega) hl ?_) ?_
  · refine fun _ => ⟨_, _, rfl, by simp, fun j hj => ?_⟩
    rw [Nat.zero_add, World.cell?_alloc_mark, List.getElem?_toArray]
    exact byv_at hj
  · rintro e W' ⟨a, rfl, _, hR, hb⟩
    exact ⟨a, rfl, hR, ((Below.refl _ _).alloc (Nat.le_refl _) _).trans (hb.mono (by simp))⟩
set_option maxHeartbeats 4000000 in
set_option maxRecDepth 100000 in
theorem lives40 (w : World) : Calls Try.prog 7 #[] w fun e w' => e = .returned (.bool true) ∧ Below w.heap.size w w' := by
  have kc := fun (w : World) (C : Array Value) (n c : Nat) => Lib.run_convert_bytes_const (P := Try.prog) w 24 5 C n c Try.underlying24 Try.underlying5
  have hc0 : Cfg (w.alloc (.cells #[.int .i64 2, .int .i64 8, .int .i64 3, .int .i64 1, .int .i64 16] 23)) w.heap.size 2 8 3 1 16 := ⟨⟨by simp, by simp, by simp, by simp, by simp⟩, by simp⟩
  have HC0 := Lib.hid hc0
  have hb0 : Below w.heap.size w (w.alloc (.cells #[.int .i64 2, .int .i64 8, .int .i64 3, .int .i64 1, .int .i64 16] 23)) := (Below.refl _ _).alloc (Nat.le_refl _) _
  have HB0 := Lib.hid hb0
  clear hc0 hb0
  go_enter Try.func7, Try.ntmps7
  go_upto_region 2 with (fail)
  generalize w.alloc (.cells #[.int .i64 2, .int .i64 8, .int .i64 3, .int .i64 1, .int .i64 16] 23) = W0 at *
  obtain ⟨p, hp⟩ : ∃ p, w.heap.size = p := ⟨_, rfl⟩
  have HP := Lib.hid hp
  rw [hp] at HC0 ⊢
  clear hp
  go_wp2_with fail
  refine (calls_lit ex40 _ _ _ W0 34 cl40 (by kernel_rfl) rfl (by omega) ex40_calls).mono ?_
  rintro e W1 ⟨a, rfl, hR, hb1⟩
  have HR := Lib.hid hR
  have HC1 := Lib.hid (HC0.out.on hb1)
  have HB1 := Lib.hid (HB0.out.trans (hb1.mono HB0.out.size))
  have HL := Lib.hid (show cl40.length = 3 from rfl)
  rw [HL.out] at HR ⊢
  clear hR hb1 kc
  obtain ⟨f0, f1, f2, f3, f4⟩ := HC1.out.cells
  go_wp2_with fail
  refine (roomw40 2 8 3 1 16 W1).mono ?_
  rintro e W2 ⟨rfl, hb⟩
  rw [show ofI 0 2 8 3 1 16 = 210 from of40_0]
  have HC2 := Lib.hid (HC1.out.on hb)
  have HB2 := Lib.hid (HB1.out.trans (hb.mono HB1.out.size))
  have HR2 := Lib.hid (HR.out.on hb)
  clear f0 f1 f2 f3 f4 hb HC1 HB1 HR
  obtain ⟨f0, f1, f2, f3, f4⟩ := HC2.out.cells
  go_wp2_with fail
  refine (turnw40 2 8 3 1 16 W2).mono ?_
  rintro e W3 ⟨rfl, hb⟩
  rw [show ofI 1 2 8 3 1 16 = 894 from of40_1]
  have HC3 := Lib.hid (HC2.out.on hb)
  have HB3 := Lib.hid (HB2.out.trans (hb.mono HB2.out.size))
  have HR3 := Lib.hid (HR2.out.on hb)
  clear f0 f1 f2 f3 f4 hb HC2 HB2 HR2
  obtain ⟨f0, f1, f2, f3, f4⟩ := HC3.out.cells
  go_wp2_with fail
  refine (evictw40 2 8 3 1 16 W3).mono ?_
  rintro e W4 ⟨rfl, hb⟩
  rw [show ofI 2 2 8 3 1 16 = 781 from of40_2]
  have HC4 := Lib.hid (HC3.out.on hb)
  have HB4 := Lib.hid (HB3.out.trans (hb.mono HB3.out.size))
  have HR4 := Lib.hid (HR3.out.on hb)
  clear f0 f1 f2 f3 f4 hb HC3 HB3 HR3
  obtain ⟨f0, f1, f2, f3, f4⟩ := HC4.out.cells
  go_wp2_with fail
  refine (stepsw40 2 8 3 1 16 1 W4).mono ?_
  rintro e W5 ⟨rfl, hb⟩
  rw [show stepsI 2 8 3 1 16 1 = 152 from of40_3]
  have HC5 := Lib.hid (HC4.out.on hb)
  have HB5 := Lib.hid (HB4.out.trans (hb.mono HB4.out.size))
  have HR5 := Lib.hid (HR4.out.on hb)
  clear f0 f1 f2 f3 f4 hb HC4 HB4 HR4
  obtain ⟨f0, f1, f2, f3, f4⟩ := HC5.out.cells
  go_wp2_with fail
  refine (stepsw40 2 8 3 1 16 3 W5).mono ?_
  rintro e W6 ⟨rfl, hb⟩
  rw [show stepsI 2 8 3 1 16 3 = 2161 from of40_4]
  have HC6 := Lib.hid (HC5.out.on hb)
  have HB6 := Lib.hid (HB5.out.trans (hb.mono HB5.out.size))
  have HR6 := Lib.hid (HR5.out.on hb)
  clear f0 f1 f2 f3 f4 hb HC5 HB5 HR5
  obtain ⟨f0, f1, f2, f3, f4⟩ := HC6.out.cells
  go_wp2_with fail
  refine (stepsw40 2 8 3 1 16 9 W6).mono ?_
  rintro e W7 ⟨rfl, hb⟩
  rw [show stepsI 2 8 3 1 16 9 = 925 from of40_5]
  have HC7 := Lib.hid (HC6.out.on hb)
  have HB7 := Lib.hid (HB6.out.trans (hb.mono HB6.out.size))
  have HR7 := Lib.hid (HR6.out.on hb)
  clear f0 f1 f2 f3 f4 hb HC6 HB6 HR6
  obtain ⟨f0, f1, f2, f3, f4⟩ := HC7.out.cells
  go_wp2_with fail
  refine (stepsw40 2 8 3 1 16 11 W7).mono ?_
  rintro e W8 ⟨rfl, hb⟩
  rw [show stepsI 2 8 3 1 16 11 = 4 from of40_6]
  have HC8 := Lib.hid (HC7.out.on hb)
  have HB8 := Lib.hid (HB7.out.trans (hb.mono HB7.out.size))
  have HR8 := Lib.hid (HR7.out.on hb)
  clear f0 f1 f2 f3 f4 hb HC7 HB7 HR7
  have hw := windowsw 2 8 3 1 16 _ cl40 W8 HR8.out (by decide)
  obtain ⟨f0, f1, f2, f3, f4⟩ := HC8.out.cells
  obtain ⟨g, rfl, hg, c0⟩ := cl_cells (k := 0) HR8.out rfl
  obtain ⟨g', e', -, c1⟩ := cl_cells (k := 1) HR8.out rfl
  injection e' with e'; injection e' with e' _; subst e'
  obtain ⟨g', e', -, c2⟩ := cl_cells (k := 2) HR8.out rfl
  injection e' with e'; injection e' with e' _; subst e'
  have r00 := c0 0 _ rfl; have r01 := c0 1 _ rfl; have r02 := c0 2 _ rfl; have r03 := c0 3 _ rfl; have r04 := c0 4 _ rfl; have r05 := c0 5 _ rfl; have r06 := c0 6 _ rfl
  have r10 := c1 0 _ rfl; have r11 := c1 1 _ rfl; have r12 := c1 2 _ rfl; have r13 := c1 3 _ rfl; have r14 := c1 4 _ rfl; have r15 := c1 5 _ rfl; have r16 := c1 6 _ rfl
  have r20 := c2 0 _ rfl; have r21 := c2 1 _ rfl; have r22 := c2 2 _ rfl; have r23 := c2 3 _ rfl; have r24 := c2 4 _ rfl; have r25 := c2 5 _ rfl; have r26 := c2 6 _ rfl
  clear c0 c1 c2
  simp only [Nat.zero_mul, Nat.one_mul, Nat.zero_add, Nat.add_zero, Nat.reduceAdd, Nat.reduceMul] at r00 r01 r02 r03 r04 r05 r06 r10 r11 r12 r13 r14 r15 r16 r20 r21 r22 r23 r24 r25 r26
  have HW := Lib.hid hw
  clear hw
  go_wp2_with fail
  refine HW.out.mono ?_
  rintro e W9 ⟨rfl, hb⟩
  rw [show winI 2 8 3 1 16 cl40 = 2465 by kernel_rfl]
  go_wp2_with fail
  go_ret
  refine ⟨rfl, ?_⟩
  exact HB8.out.trans (hb.mono HB8.out.size)
end Go.Proofs.Yteoeelhljimibaa
