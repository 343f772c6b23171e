/- The examples of chapter 11. -/
import Derived.Test.YthlebfiedejhhaaGreatGTi
import Derived.Test.YthlebfiedejhhaaGreatBg0
namespace Go.Proofs.YthlebfiedejhhaaGreat
open Go.RowKit Go.Maps
set_option linter.unusedVariables false
section
variable {G : Nat → Prop} {w : World} {A : Ad} {V : Wv} {q : Nat} {C : List Value}
theorem Opw.wd (h : Opw G w A V q C) : WdG G w A V := by
  obtain ⟨S, h1, h2, h3, h4, h5, h6⟩ := h
  exact ⟨S, h1, h2, h6⟩
/-- A new operation beside a world. -/
theorem op_new {w' : World} (h : WdG G w A V) (ho : Ob w' w.heap.size C) (hb : Below w.heap.size w w') : Opw G w' A V w.heap.size C := by
  obtain ⟨S, h1, h2, h3⟩ := h
  exact ⟨S, h1.new hb, h2, fun s => by have := h1.lt _ s; omega, ho, fun g => by have := h3 _ g; omega, fun k g => Nat.lt_of_lt_of_le (h3 k g) hb.size⟩
end
def Bg11 (w : World) (e : Ending) (w' : World) : Prop := ∃ A, e = .returned (.pointer (some ⟨A.p, 0, none⟩)) ∧ WdG (fun k => k < w.heap.size) w' A V10 ∧ Below w.heap.size w w'
set_option maxRecDepth 100000 in
theorem begin11 (w : World) : Calls Tryz.prog 81 #[] w (Bg11 w) := by
  go_enter Tryz.func81, Tryz.ntmps81
  go_wp2_with fail
  refine (begin0 _).mono ?_
  rintro e w1 ⟨A, R, S, T, rfl, hP, hST, hb⟩
  have HP := Lib.hid hP
  have HST := Lib.hid hST
  have HB := Lib.hid hb
  have hfl : ∀ W, (Instr.field 34 (.agg #[.pointer (some ⟨A.p, 0, none⟩), .pointer (some ⟨R.p, 0, none⟩)]) 0).run Tryz.prog W = .ok (.pointer (some ⟨A.p, 0, none⟩)) W := fun W => by kernel_rfl
  clear hP hST hb
  go_wp2_with fail
  go_ret
  exact ⟨A, rfl, ⟨S, HP.out.a, fun k g s => by have := HST.out k (.inl s); omega, fun k g => Nat.lt_of_lt_of_le g HB.out.size⟩, HB.out⟩
def T1 : Wv := (V10.acc (upd V10.f 0 1) 4 0 0 1).tkset 3 1
def T2 : Wv := ((T1.acc T1.f 1 1 0 0).tkset 3 0).hset 3
def T3 : Wv := (T2.acc (upd T2.f 0 2) 4 0 1 2).tkset 5 2
def T4 : Wv := T3.acc T3.f 1 1 0 0
def T5 : Wv := (T4.acc (upd T4.f 1 1) 4 1 0 1).hset (-1)
def T6 : Wv := ((T5.acc T5.f 1 1 1 1).tkset 5 0).hset 5
theorem t_facts : (V10.f 0 = 0 ∧ V10.cnt = 0) ∧ (T1.f 1 = 0 ∧ T1.cnt = 1) ∧ (T2.f 0 = 1 ∧ T2.cnt = 2 ∧ T2.h = 3) ∧ (T3.f 1 = 0 ∧ T3.tk 5 = 2 ∧ T3.cnt = 3) ∧ (T4.f 1 = 0 ∧ T4.tk 5 = 2 ∧ T4.cnt = 4) ∧ (T5.f 1 = 1 ∧ T5.tk 5 = 2 ∧ T5.cnt = 5 ∧ T5.h = -1) ∧ T6.h = 5 := by
  refine ⟨⟨rfl, rfl⟩, ⟨rfl, rfl⟩, ⟨rfl, rfl, rfl⟩, ⟨rfl, rfl, rfl⟩, ⟨rfl, rfl, rfl⟩, ⟨rfl, rfl, rfl, rfl⟩, rfl⟩
set_option maxHeartbeats 2000000 in
set_option maxRecDepth 100000 in
theorem lives11 (w : World) : Calls Tryz.prog 16 #[] w fun e w' => e = .returned (.bool true) ∧ Below w.heap.size w w' := by
  obtain ⟨⟨f0, n0⟩, ⟨f1, n1⟩, ⟨f2, n2, h2'⟩, ⟨f3, t3, n3⟩, ⟨f4, t4, n4⟩, ⟨f5, t5, n5, h5'⟩, h6'⟩ := t_facts
  obtain ⟨G, hG⟩ : ∃ G : Nat → Prop, G = fun k => k < w.heap.size := ⟨_, rfl⟩
  have HGG := Lib.hid hG
  clear hG
  have S1 : Hid (∀ (W : World) (A : Ad) (q : Nat), Opw G W A V10 q (tkC 3 0 false (mV 85 q)) → Calls Tryz.prog 82 #[.pointer (some ⟨q, 0, none⟩), .pointer (some ⟨A.p, 0, none⟩)] W (OpP G W A T1 q (tkC 3 0 true (mV 148 q)) false)) := Lib.hid (fun W A q h => tk_step1 (n := 3) (by decide) h (by rw [n0]; decide) f0 (u := 1) (by decide))
  have S2 : Hid (∀ (W : World) (A : Ad) (q : Nat), Opw G W A T1 q (tkC 3 0 true (mV 148 q)) → Calls Tryz.prog 82 #[.pointer (some ⟨q, 0, none⟩), .pointer (some ⟨A.p, 0, none⟩)] W (OpP G W A T2 q (tkC 3 0 true .nilFunc) true)) := Lib.hid (fun W A q h => tk_step2 (n := 3) (by decide) h (by rw [n1]; decide) f1)
  have S3 : Hid (∀ (W : World) (A : Ad) (q : Nat), Opw G W A T2 q (tkC 5 0 false (mV 85 q)) → Calls Tryz.prog 82 #[.pointer (some ⟨q, 0, none⟩), .pointer (some ⟨A.p, 0, none⟩)] W (OpP G W A T3 q (tkC 5 1 true (mV 148 q)) false)) := Lib.hid (fun W A q h => tk_step1 (n := 5) (by decide) h (by rw [n2]; decide) f2 (u := 2) (by decide))
  have S4 : Hid (∀ (W : World) (A : Ad) (q : Nat), Opw G W A T3 q (tkC 5 1 true (mV 148 q)) → Calls Tryz.prog 82 #[.pointer (some ⟨q, 0, none⟩), .pointer (some ⟨A.p, 0, none⟩)] W (OpP G W A T4 q (tkC 5 1 true (mV 148 q)) false)) := Lib.hid (fun W A q h => tk_step2n h (by rw [n3]; decide) f3 (by decide))
  have S5 : Hid (∀ (W : World) (A : Ad) (y q : Nat), Opw (fun k => G k ∨ k = y) W A T4 q [mV 86 q] → Calls Tryz.prog 83 #[.pointer (some ⟨q, 0, none⟩), .pointer (some ⟨A.p, 0, none⟩)] W (OpP (fun k => G k ∨ k = y) W A T5 q [.nilFunc] true)) := Lib.hid (fun W A y q h => gv_step h (by rw [n4]; decide) f4 (u := 1) (by decide))
  have S6 : Hid (∀ (W : World) (A : Ad) (q : Nat), Opw G W A T5 q (tkC 5 1 true (mV 148 q)) → Calls Tryz.prog 82 #[.pointer (some ⟨q, 0, none⟩), .pointer (some ⟨A.p, 0, none⟩)] W (OpP G W A T6 q (tkC 5 1 true .nilFunc) true)) := Lib.hid (fun W A q h => tk_step2 (n := 5) (by decide) h (by rw [n5]; decide) f5)
  have W3 : Hid (∀ (W : World) (A : Ad), WdG G W A T3 → Calls Tryz.prog 24 #[.pointer (some ⟨A.p, 0, none⟩), .int .i64 5] W fun e w' => e = .returned (.bool true) ∧ Below W.heap.size W w') := Lib.hid (fun W A h => by obtain ⟨S, h1, -⟩ := h; exact waits (n := 5) (by decide) h1 t3 (by decide) (u := 1) (by decide) f3 (by decide))
  have W4 : Hid (∀ (W : World) (A : Ad), WdG G W A T4 → Calls Tryz.prog 24 #[.pointer (some ⟨A.p, 0, none⟩), .int .i64 5] W fun e w' => e = .returned (.bool true) ∧ Below W.heap.size W w') := Lib.hid (fun W A h => by obtain ⟨S, h1, -⟩ := h; exact waits (n := 5) (by decide) h1 t4 (by decide) (u := 1) (by decide) f4 (by decide))
  have W5 : Hid (∀ (W : World) (A : Ad), WdG G W A T5 → Calls Tryz.prog 24 #[.pointer (some ⟨A.p, 0, none⟩), .int .i64 5] W fun e w' => e = .returned (.bool false) ∧ Below W.heap.size W w') := Lib.hid (fun W A h => by obtain ⟨S, h1, -⟩ := h; exact waits (n := 5) (by decide) h1 t5 (by decide) (u := 1) (by decide) f5 (by decide))
  have H2H := Lib.hid h2'
  have H5H := Lib.hid h5'
  have H6H := Lib.hid h6'
  clear f0 n0 f1 n1 f2 n2 h2' f3 t3 n3 f4 t4 n4 f5 t5 n5 h5' h6'
  go_enter Tryz.func16, Tryz.ntmps16
  go_wp2_with fail
  refine (begin11 _).mono ?_
  rintro e w1 ⟨A, rfl, hw1, k1⟩
  rw [← HGG.out] at hw1
  have HW1 := Lib.hid hw1
  have K1 := Lib.hid k1
  clear hw1 k1
  go_wp2_with fail
  refine (newTake 3 (by decide) _).mono ?_
  rintro e w2 ⟨rfl, ho2, k2⟩
  have HX2 := Lib.hid (op_new HW1.out ho2 k2)
  have K2 := Lib.hid (below_then K1.out k2)
  clear ho2 k2
  generalize w1.heap.size = x at *
  go_wp2_with fail
  refine (S1.out _ _ _ HX2.out).mono ?_
  rintro e w3 ⟨rfl, hx3, kp3⟩
  have HX3 := Lib.hid hx3
  have KP3 := Lib.hid kp3
  clear hx3 kp3
  go_wp2_with fail
  refine (S2.out _ _ _ HX3.out).mono ?_
  rintro e w4 ⟨rfl, hx4, kp4⟩
  have HX4 := Lib.hid hx4
  have KP4 := Lib.hid (Kp.to KP3.out kp4)
  have e72 := hx4.box.ch
  rw [H2H.out] at e72
  clear hx4 kp4
  go_wp2_with fail
  refine (newTake 5 (by decide) _).mono ?_
  rintro e w5 ⟨rfl, ho5, k5⟩
  have HY5 := Lib.hid (op_new HX4.out.wd ho5 k5)
  have KP5 := Lib.hid (Kp.to KP4.out (Kp.of k5))
  clear ho5 k5 e72
  generalize w4.heap.size = y at *
  go_wp2_with fail
  refine (S3.out _ _ _ HY5.out).mono ?_
  rintro e w6 ⟨rfl, hy6, kp6⟩
  have HY6 := Lib.hid hy6
  have KP6 := Lib.hid (Kp.to KP5.out kp6)
  clear hy6 kp6
  go_wp2_with fail
  refine (W3.out _ _ HY6.out.wd).mono ?_
  rintro e w7 ⟨rfl, k7⟩
  have HY7 := Lib.hid (HY6.out.new k7)
  have KP7 := Lib.hid (Kp.to KP6.out (Kp.of k7))
  clear k7
  go_wp2_with fail
  refine (S4.out _ _ _ HY7.out).mono ?_
  rintro e w8 ⟨rfl, hy8, kp8⟩
  have HY8 := Lib.hid hy8
  have KP8 := Lib.hid (Kp.to KP7.out kp8)
  clear hy8 kp8
  go_wp2_with fail
  refine (W4.out _ _ HY8.out.wd).mono ?_
  rintro e w9 ⟨rfl, k9⟩
  have HY9 := Lib.hid (HY8.out.new k9)
  have KP9 := Lib.hid (Kp.to KP8.out (Kp.of k9))
  clear k9
  go_wp2_with fail
  refine (newGive _).mono ?_
  rintro e w10 ⟨rfl, ho10, k10⟩
  have HG10 := Lib.hid (op_new HY9.out.wdG ho10 k10)
  have HY10 := Lib.hid (HY9.out.ob.new k10)
  have KP10 := Lib.hid (Kp.to KP9.out (Kp.of k10))
  have HGY := Lib.hid (show ¬ G y by obtain ⟨S, h1, h2, h3, h4, h5, h6⟩ := HY9.out; exact h5)
  clear ho10 k10
  generalize w9.heap.size = g at *
  go_wp2_with fail
  refine (S5.out _ _ _ _ HG10.out).mono ?_
  rintro e w11 ⟨rfl, hg11, kp11⟩
  have hy11 : Ob w11 y (tkC 5 1 true (mV 148 y)) := HY10.out.keep kp11 (fun n => n (.inr rfl))
  have HY11 := Lib.hid (Opw.of hg11.wd hy11 HGY.out)
  have KP11 := Lib.hid (Kp.to KP10.out (Kp.less kp11 (fun k g => .inl g)))
  have e72 := hg11.box.ch
  rw [H5H.out] at e72
  clear hg11 kp11 hy11
  go_wp2_with fail
  refine (W5.out _ _ HY11.out.wd).mono ?_
  rintro e w12 ⟨rfl, k12⟩
  have HY12 := Lib.hid (HY11.out.new k12)
  have KP12 := Lib.hid (Kp.to KP11.out (Kp.of k12))
  clear k12 e72
  go_wp2_with fail
  refine (S6.out _ _ _ HY12.out).mono ?_
  rintro e w13 ⟨rfl, hy13, kp13⟩
  have KP13 := Lib.hid (Kp.to KP12.out kp13)
  have e72 := hy13.box.ch
  rw [H6H.out] at e72
  clear hy13 kp13
  go_wp2_with fail
  go_ret
  have hk := KP13.out
  rw [HGG.out] at hk
  exact ⟨rfl, K2.out.trans (Kp.below hk K2.out.size)⟩
end Go.Proofs.YthlebfiedejhhaaGreat
