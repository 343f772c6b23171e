/- The law TicketsFree. -/
import Derived.Test.YtadaeddklahjjaaGBg
import Derived.Test.YtadaeddklahjjaaTi5
import Derived.Test.YtadaeddklahjjaaOpen
namespace Go.Proofs.Ytadaeddklahjjaa
open Go.RowKit Go.Maps
set_option linter.unusedVariables false
section
variable {G : Nat → Prop} {w : World} {A : Ad} {V : Wv} {q : Nat} {z u : Int} {n : Nat}
theorem fr1 (hn : n < 64) (h : Opw G w A V q (tkC n 0 false (mV 63 q))) (hc : V.cnt ≤ 2000) (f0 : V.f 0 = z) (f1 : V.f 1 = z) (hu : IntKind.u64.wrap (z + 1) = u) :
    Calls Try.prog 30 #[.pointer (some ⟨q, 0, none⟩), .pointer (some ⟨A.p, 0, none⟩)] w fun e w' => e = .returned (.bool false) ∧ (∃ V', Opw G w' A V' q (tkC n z true (mV 104 q)) ∧ V'.f 0 = u ∧ V'.f 1 = z ∧ V'.cnt ≤ 2001) ∧ Kp G w w' := by
  refine (tk_step1 hn h (by omega) f0 hu).mono ?_
  rintro e w' ⟨rfl, h1, k1⟩
  refine ⟨rfl, ⟨_, h1, ?_, ?_, ?_⟩, k1⟩
  · show upd V.f 0 u 0 = _
    exact upd_same _ _ _
  · show upd V.f 0 u 1 = _
    exact (upd_other (by decide)).trans f1
  · show V.cnt + 1 ≤ _
    omega
theorem fr2 (hn : n < 64) (h : Opw G w A V q (tkC n z true (mV 104 q))) (hc : V.cnt ≤ 2001) (f0 : V.f 0 = u) (f1 : V.f 1 = z) :
    Calls Try.prog 30 #[.pointer (some ⟨q, 0, none⟩), .pointer (some ⟨A.p, 0, none⟩)] w fun e w' => e = .returned (.bool true) ∧ (∃ V', Opw G w' A V' q (tkC n z true .nilFunc) ∧ V'.f 0 = u ∧ V'.f 1 = z ∧ V'.h = n ∧ V'.tk n = 0 ∧ V'.cnt ≤ 2002) ∧ Kp G w w' := by
  refine (tk_step2 hn h (by omega) f1).mono ?_
  rintro e w' ⟨rfl, h1, k1⟩
  refine ⟨rfl, ⟨_, h1, f0, f1, rfl, ?_, ?_⟩, k1⟩
  · show tkU V.tk n 0 n = 0
    exact if_pos rfl
  · show V.cnt + 1 ≤ _
    omega
theorem fr3 {y : Nat} (h : Opw (fun j => G j ∨ j = y) w A V q [mV 65 q]) (hc : V.cnt ≤ 2002) (f0 : V.f 0 = u) (f1 : V.f 1 = z) (hu : IntKind.u64.wrap (z + 1) = u) :
    Calls Try.prog 33 #[.pointer (some ⟨q, 0, none⟩), .pointer (some ⟨A.p, 0, none⟩)] w fun e w' => e = .returned (.bool true) ∧ (∃ V', WdG (fun j => G j ∨ j = y) w' A V' ∧ V'.f 0 = u ∧ V'.f 1 = u ∧ V'.h = -1) ∧ Kp (fun j => G j ∨ j = y) w w' := by
  refine (gv_step h (by omega) f1 hu).mono ?_
  rintro e w' ⟨rfl, h1, k1⟩
  refine ⟨rfl, ⟨_, h1.wd, ?_, ?_, rfl⟩, k1⟩
  · show upd V.f 1 u 0 = _
    exact (upd_other (by decide)).trans f0
  · show upd V.f 1 u 1 = _
    exact upd_same _ _ _
end
set_option maxHeartbeats 4000000 in
set_option maxRecDepth 100000 in
theorem walk_TicketsFree (a0_0 : Int) (a0_1 : Int) (a0_2 : Int) (a0_3 : Int) (a0_4 : Int) (a0_5 : Bool) (a0_6 : Option Addr) (l0_6 c0_6 : Nat) (a0_7 : Option Addr) (l0_7 c0_7 : Nat) (a0_8 : Option Addr) (l0_8 c0_8 : Nat) (a0_9 : Int) (a1 : Int) (a2 : Int) (w : World) (w0_0 : (Lit.int .i64 a0_0).wf = true) (w0_1 : (Lit.int .i64 a0_1).wf = true) (w0_2 : (Lit.int .i64 a0_2).wf = true) (w0_3 : (Lit.int .i64 a0_3).wf = true) (w0_4 : (Lit.int .i64 a0_4).wf = true) (w0_6 : Reads Try.prog w 24 (.slice a0_6 l0_6 c0_6)) (w0_7 : Reads Try.prog w 25 (.slice a0_7 l0_7 c0_7)) (w0_8 : Reads Try.prog w 26 (.slice a0_8 l0_8 c0_8)) (w0_9 : (Lit.int .i64 a0_9).wf = true) (w1 : (Lit.int .u64 a1).wf = true) (w2 : (Lit.int .u8 a2).wf = true) :
    Calls Try.prog 5 #[.agg #[.int .i64 a0_0, .int .i64 a0_1, .int .i64 a0_2, .int .i64 a0_3, .int .i64 a0_4, .bool a0_5, .slice a0_6 l0_6 c0_6, .slice a0_7 l0_7 c0_7, .slice a0_8 l0_8 c0_8, .int .i64 a0_9], .int .u64 a1, .int .u8 a2] w fun e w' => e = .returned (.bool true) ∧ Below w.heap.size w w' := by
  obtain ⟨L, hG, hBg⟩ := first_open w0_6 w0_7 w0_8 a0_0 a0_1 a0_2 a0_3 a0_4 a0_9 a0_5
  have CG := Lib.hid hG
  have CB := Lib.hid hBg
  have u1 : isU a1 := by have := bounds_u64 w1; exact ⟨this.1, by omega⟩
  have U1 := Lib.hid u1
  have h8 := bounds_u8 w2
  obtain ⟨n, hn⟩ : ∃ n : Nat, a2.tmod 64 = (n : Int) := ⟨(a2.tmod 64).toNat, by rw [Int.tmod_eq_emod_of_nonneg h8.1]; omega⟩
  have hn64 : n < 64 := by rw [Int.tmod_eq_emod_of_nonneg h8.1] at hn; omega
  have m4 : IntKind.u8.wrap (n : Int) = (n : Int) := IntWalk.u8_in _ (by omega)
  have m5 : IntKind.i64.wrap (n : Int) = (n : Int) := IntWalk.i64_in _ (by omega)
  have M := Lib.hid (And.intro hn (And.intro m4 m5))
  have N64 := Lib.hid hn64
  obtain ⟨u, hu⟩ : ∃ u, IntKind.u64.wrap (a1 + 1) = u := ⟨_, rfl⟩
  have HU := Lib.hid hu
  obtain ⟨G, hGG⟩ : ∃ G : Nat → Prop, G = fun k => k < w.heap.size := ⟨_, rfl⟩
  have HGG := Lib.hid hGG
  clear hG hBg w0_0 w0_1 w0_2 w0_3 w0_4 w0_6 w0_7 w0_8 w0_9 w1 w2 u1 h8 hn hn64 m4 m5 hu hGG
  go_enter Try.func5, Try.ntmps5
  go_wp2_with fail
  obtain ⟨F, hF⟩ : ∃ F, F = w.heap.size := ⟨_, rfl⟩
  generalize hW : World.alloc w _ = W
  have bW : Below w.heap.size w W := by rw [← hW]; exact (Below.refl _ _).alloc (Nat.le_refl _) _
  have HBW := Lib.hid bW
  have KEEP : Hid (∀ X, Below W.heap.size W X → X.cell? ⟨F, 0, none⟩ = some (.int .i64 a0_0) ∧ X.cell? ⟨F, 1, none⟩ = some (.int .i64 a0_1) ∧ X.cell? ⟨F, 2, none⟩ = some (.int .i64 a0_2) ∧ X.cell? ⟨F, 3, none⟩ = some (.int .i64 a0_3) ∧ X.cell? ⟨F, 4, none⟩ = some (.int .i64 a0_4) ∧ X.cell? ⟨F, 5, none⟩ = some (.bool a0_5) ∧ X.cell? ⟨F, 6, none⟩ = some (.slice a0_6 l0_6 c0_6) ∧ X.cell? ⟨F, 7, none⟩ = some (.slice a0_7 l0_7 c0_7) ∧ X.cell? ⟨F, 8, none⟩ = some (.slice a0_8 l0_8 c0_8) ∧ X.cell? ⟨F, 9, none⟩ = some (.int .i64 a0_9)) := Lib.hid (fun X hb => by
    have lt : F < W.heap.size := by rw [← hW, hF]; simp
    have up : ∀ {j v}, W.cell? ⟨F, j, none⟩ = some v → X.cell? ⟨F, j, none⟩ = some v := fun {j v} hc => (hb.cell (p := ⟨F, j, none⟩) lt).trans hc
    refine ⟨up ?_, up ?_, up ?_, up ?_, up ?_, up ?_, up ?_, up ?_, up ?_, up ?_⟩ <;> (rw [← hW, hF]; exact new_at rfl rfl))
  rw [← hF]
  clear hW bW
  refine (CG.out _ HBW.out).mono ?_
  rintro e w1 ⟨r, rfl, k1, hr⟩
  obtain ⟨f0, f1, f2, f3, f4, f5, f6, f7, f8, f9⟩ := KEEP.out _ k1
  have HB1 := Lib.hid (below_then HBW.out k1)
  clear k1 hF
  cases r with
  | true =>
    clear f0 f1 f2 f3 f4 f5 f6 f7 f8 f9 hr
    go_wp2_with (go_at_call 23; refine (lives11 _).mono ?_; rintro e w9 ⟨rfl, hk9⟩)
    go_ret
    exact ⟨rfl, below_then HB1.out hk9⟩
  | false =>
    have HBIG := Lib.hid (show BigOk l0_6 l0_7 l0_8 L from hr rfl)
    clear hr
    go_wp2_with fail
    refine (CB.out _ HB1.out HBIG.out).mono ?_
    rintro e w2 ⟨A, R, V, S, T, rfl, hP, -, -, -, hcnt, hST, k2⟩
    have hG2 : PwG G w2 A R V := by
      rw [HGG.out]
      exact (PwG.of_begin (L := L) hP hST k2).less (fun k g => Nat.lt_of_lt_of_le g HB1.out.size)
    have HB2 := Lib.hid (below_then HB1.out k2)
    have HG2 := Lib.hid hG2
    have HC := Lib.hid hcnt
    clear hP hST k2 hG2 hcnt f0 f1 f2 f3 f4 f5 f6 f7 f8 f9 KEEP CG CB HBIG
    go_wp2_with fail
    obtain ⟨P, hPq⟩ : ∃ P, P = w2.heap.size := ⟨_, rfl⟩
    generalize hW3 : World.alloc w2 _ = W3
    rw [← hPq]
    have k23 : Below w2.heap.size w2 W3 := by rw [← hW3]; exact bs_alloc (Below.refl _ _)
    have p0 : W3.cell? ⟨P, 0, none⟩ = some (.pointer (some ⟨A.p, 0, none⟩)) := by rw [← hW3, hPq]; exact new_at rfl rfl
    have p1 : W3.cell? ⟨P, 1, none⟩ = some (.pointer (some ⟨R.p, 0, none⟩)) := by rw [← hW3, hPq]; exact new_at rfl rfl
    have HG3 := Lib.hid (HG2.out.add k23 (q := P) (by omega) (by rw [← hW3, hPq]; simp))
    have HB3 := Lib.hid (below_then HB2.out k23)
    clear hW3 k23 hPq
    refine (HG3.out.store (a := 0) (by have := HC.out; omega) ⟨by decide, by decide⟩ U1.out).mono ?_
    rintro e w4 ⟨rfl, h4, k4⟩
    replace p0 := k4.cell (p := ⟨P, 0, none⟩) (fun n => n (.inr rfl)) p0
    replace p1 := k4.cell (p := ⟨P, 1, none⟩) (fun n => n (.inr rfl)) p1
    have H4 := Lib.hid h4
    have K4 := Lib.hid k4
    clear h4 k4
    go_wp2_with fail
    refine (H4.out.store (a := 1) (by show V.cnt + 1 < _; have := HC.out; omega) ⟨by decide, by decide⟩ U1.out).mono ?_
    rintro e w5 ⟨rfl, h5, k5⟩
    replace p0 := k5.cell (p := ⟨P, 0, none⟩) (fun n => n (.inr rfl)) p0
    replace p1 := k5.cell (p := ⟨P, 1, none⟩) (fun n => n (.inr rfl)) p1
    obtain ⟨V5, h5', e0, e1, ec⟩ : ∃ V5, WdG G w5 A V5 ∧ V5.f 0 = a1 ∧ V5.f 1 = a1 ∧ V5.cnt ≤ 1002 := by
      refine ⟨_, (h5.less (fun k g => .inl g)).wd, ?_, ?_, ?_⟩
      · show upd (upd V.f 0 a1) 1 a1 0 = a1
        rw [upd_other (by decide), upd_same]
      · show upd (upd V.f 0 a1) 1 a1 1 = a1
        exact upd_same _ _ _
      · show V.cnt + 1 + 1 ≤ _
        have := HC.out
        omega
    have H5 := Lib.hid h5'
    have HE := Lib.hid (And.intro e0 (And.intro e1 ec))
    have KP5 := Lib.hid (show Kp G w w5 from by
      have kk : Kp (fun k => G k ∨ k = P) W3 w5 := Kp.to K4.out k5
      exact Kp.to (Kp.of HB3.out) (kk.less (fun k g => .inl g)))
    clear h5 h5' k5 e0 e1 ec p1 H4 K4 HG3 HB3 HG2 HB2 HC
    obtain ⟨hn, m4, m5⟩ := M.out
    have hn64 := N64.out
    go_wp2_with fail
    clear p0 hn m4 m5
    refine (newTake (n : Int) (decide_eq_true (by omega)) _).mono ?_
    rintro e w6 ⟨rfl, ho6, k6⟩
    have HX6 := Lib.hid (op_new H5.out ho6 k6)
    have KP6 := Lib.hid (Kp.to KP5.out (Kp.of k6))
    clear ho6 k6
    generalize w5.heap.size = x at *
    go_wp2_with fail
    refine (fr1 N64.out HX6.out (by have := HE.out.2.2; omega) HE.out.1 HE.out.2.1 HU.out).mono ?_
    rintro e w7 ⟨rfl, ⟨V7, hx7, g0, g1, gc⟩, kp7⟩
    have HX7 := Lib.hid hx7
    have HE7 := Lib.hid (And.intro g0 (And.intro g1 gc))
    have KP7 := Lib.hid (Kp.to KP6.out kp7)
    clear hx7 g0 g1 gc kp7 HX6 HE KP6 KP5 H5
    go_wp2_with fail
    refine (fr2 N64.out HX7.out HE7.out.2.2 HE7.out.1 HE7.out.2.1).mono ?_
    rintro e w8 ⟨rfl, ⟨V8, hx8, g0, g1, gh, gt, gc⟩, kp8⟩
    have e72 := hx8.box.ch
    have et := hx8.box.ct n hn64
    rw [gh] at e72
    rw [gt] at et
    have HX8 := Lib.hid hx8
    have HE8 := Lib.hid (And.intro g0 (And.intro g1 gc))
    have KP8 := Lib.hid (Kp.to KP7.out kp8)
    have j0 : (0 : Int) ≤ (n : Int) := by omega
    have j1 : (n : Int) < 64 := by omega
    have j2 : ((n : Int) != (n : Int)) = false := by simp
    clear hx8 g0 g1 gc gh gt kp8 HX7 HE7 KP7
    go_wp2_with fail
    clear e72 et j2
    refine (tk_got HX8.out.ob).mono ?_
    rintro e w9 ⟨rfl, rfl⟩
    go_wp2_with fail
    refine (newGive _).mono ?_
    rintro e w10 ⟨rfl, ho10, k10⟩
    have HG10 := Lib.hid (op_new HX8.out.wdG ho10 k10)
    have KP10 := Lib.hid (Kp.to KP8.out (Kp.of k10))
    clear ho10 k10
    generalize w8.heap.size = gv at *
    go_wp2_with fail
    refine (fr3 HG10.out HE8.out.2.2 HE8.out.1 HE8.out.2.1 HU.out).mono ?_
    rintro e w11 ⟨rfl, ⟨V11, hx11, g0, g1, gh⟩, kp11⟩
    obtain ⟨S11, hd11, -⟩ := id hx11
    have e72 := hd11.box.ch
    rw [gh] at e72
    have e0 := hd11.box.c0
    have P0 := Lib.hid (wpeek hd11 (a := 0) ⟨by decide, by decide⟩)
    have P1 := Lib.hid (wpeek hd11 (a := 1) ⟨by decide, by decide⟩)
    rw [g0] at P0
    rw [g1] at P1
    have KP11 := Lib.hid (Kp.to KP10.out (kp11.less (fun k g => .inl g)))
    have hu := HU.out
    clear hx11 hd11 g0 g1 gh kp11 HX8 HE8 KP8 KP10 HG10 hn64
    go_wp2_with (first
      | (go_at_call 19; first | ((with_reducible refine P0.out.mono ?_); rintro e w12 ⟨rfl, rfl⟩) | ((with_reducible refine P1.out.mono ?_); rintro e w12 ⟨rfl, rfl⟩))
      | (go_at_call 23; refine (lives11 _).mono ?_; rintro e w13 ⟨rfl, hk13⟩))
    go_ret
    have kb : Below w.heap.size w w11 := by
      have kk := KP11.out
      rw [HGG.out] at kk
      exact kk.below (Nat.le_refl _)
    exact ⟨rfl, below_then kb hk13⟩
end Go.Proofs.Ytadaeddklahjjaa
