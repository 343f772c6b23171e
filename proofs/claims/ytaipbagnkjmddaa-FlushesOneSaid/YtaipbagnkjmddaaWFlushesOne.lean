/- The law FlushesOne. -/
import Derived.Test.YtaipbagnkjmddaaFo
import Derived.Deep.Cut
import Derived.Deep.CutBlock
import Derived.Deep.RegionHeld3
namespace Go.Proofs.Ytaipbagnkjmddaa
open Go.RowKit Go.Maps
set_option linter.unusedVariables false
theorem FoV.le {G : Nat → Prop} {W X : World} {A : Ad} {V : Wv} {q n : Nat} {d now st at_ c0 c1 : Int} (h : FoV G W X A V q d n now st at_ c0) (hc : c0 ≤ c1) : FoV G W X A V q d n now st at_ c1 := ⟨h.1, h.2.1, by have := h.2.2.1; omega, h.2.2.2⟩
theorem fo_mod {a : Int} (h0 : 0 ≤ a) (h1 : a ≤ 255) : ∃ m : Nat, a.tmod 41 = (m : Int) ∧ m ≤ 40 ∧ IntKind.i64.wrap (m : Int) = (m : Int) := by
  have h2 := Int.emod_nonneg a (show (41 : Int) ≠ 0 by decide)
  have h3 := Int.emod_lt_of_pos a (show (0 : Int) < 41 by decide)
  have h4 := Int.tmod_eq_emod_of_nonneg h0 (b := 41)
  exact ⟨(a.tmod 41).toNat, by omega, by omega, IntWalk.i64_in _ (by omega)⟩
theorem fo_set {w : World} {q i j : Nat} {u v : Value} (h : i ≠ j) (hc : w.cell? ⟨q, j, none⟩ = some v) : (w.setCell ⟨q, i, none⟩ u).cell? ⟨q, j, none⟩ = some v :=
  (World.cell?_setCell_other _ ⟨q, i, none⟩ ⟨q, j, none⟩ _ (by intro e; injection e with _ e; exact h e)).trans hc
set_option maxHeartbeats 8000000 in
set_option maxRecDepth 100000 in
theorem walk_FlushesOne (a0 : Int) (a1 : Int) (a2_0 : Int) (a2_1 : Int) (a2_2 : Int) (a2_3 : Int) (w : World) (w0 : (Lit.int .u64 a0).wf = true) (w1 : (Lit.int .i64 a1).wf = true) (w2_0 : (Lit.int .u8 a2_0).wf = true) (w2_1 : (Lit.int .u8 a2_1).wf = true) (w2_2 : (Lit.int .u8 a2_2).wf = true) (w2_3 : (Lit.int .u8 a2_3).wf = true) :
    Calls Try.prog 4 #[.int .u64 a0, .int .i64 a1, .agg #[.int .u8 a2_0, .int .u8 a2_1, .int .u8 a2_2, .int .u8 a2_3]] w fun e w' => e = .returned (.bool true) ∧ Below w.heap.size w w' := by
  have q0 := bounds_u64 w0
  have hU : isU a0 := ⟨q0.1, by omega⟩
  have q_0 := bounds_u8 w2_0
  obtain ⟨m0, hm0, hl0, hw0⟩ := fo_mod (a := a2_0) (by omega) (by omega)
  have q_1 := bounds_u8 w2_1
  obtain ⟨m1, hm1, hl1, hw1⟩ := fo_mod (a := a2_1) (by omega) (by omega)
  have q_2 := bounds_u8 w2_2
  obtain ⟨m2, hm2, hl2, hw2⟩ := fo_mod (a := a2_2) (by omega) (by omega)
  have q_3 := bounds_u8 w2_3
  obtain ⟨m3, hm3, hl3, hw3⟩ := fo_mod (a := a2_3) (by omega) (by omega)
  have CW := Lib.hid (fun X => worldF 1 ⟨by decide, by decide⟩ X)
  have CN := Lib.hid (fun X => newFlush ((9 : Nat) : Int) a1 (by decide) X)
  clear w0 w1 w2_0 w2_1 w2_2 w2_3 q0 q_0 q_1 q_2 q_3
  go_enter Try.func4, Try.ntmps4
  go_upto_region 1 with (fail)
  obtain ⟨F, hF⟩ : ∃ F, F = w.heap.size := ⟨_, rfl⟩
  generalize hW1 : World.alloc w _ = W1
  have b1 : Below w.heap.size w W1 := by rw [← hW1]; exact fl_bs (Below.refl _ _)
  have l1 : F < W1.heap.size := by rw [← hW1, hF]; simp
  have t0 : W1.cell? ⟨F, 0, none⟩ = some (.int .u8 a2_0) := by rw [← hW1, hF]; exact fl_new rfl rfl
  have t1 : W1.cell? ⟨F, 1, none⟩ = some (.int .u8 a2_1) := by rw [← hW1, hF]; exact fl_new rfl rfl
  have t2 : W1.cell? ⟨F, 2, none⟩ = some (.int .u8 a2_2) := by rw [← hW1, hF]; exact fl_new rfl rfl
  have t3 : W1.cell? ⟨F, 3, none⟩ = some (.int .u8 a2_3) := by rw [← hW1, hF]; exact fl_new rfl rfl
  rw [← hF]
  have HB1 := Lib.hid (And.intro b1 l1)
  have HT1 := Lib.hid (And.intro t0 (And.intro t1 (And.intro t2 t3)))
  clear hW1 hF b1 l1 t0 t1 t2 t3
  go_wp2_with fail
  refine (CW.out _).mono ?_
  rintro e w2 ⟨A, rfl, hW2, k2⟩
  have HG2 := Lib.hid (hW2.g k2.size)
  have K2 := Lib.hid k2
  have c0 := HG2.out.box.c0
  have CS := Lib.hid (fl_gstore HG2.out (a := 8) (v := a0) ⟨by decide, by decide⟩ hU (by decide))
  clear hW2 k2 CW
  go_upto_region 5 with (go_at_call 12; (refine CS.out.mono ?_; rintro e w3 ⟨rfl, h3, k3⟩; have HG3 := Lib.hid h3; have K3 := Lib.hid (Kp.to (Kp.of (G := fun k => k < W1.heap.size) K2.out) k3); clear h3 k3))
  obtain ⟨V1, hV1⟩ : ∃ V1, V1 = (V0 ⟨1, 8, 3, 1, 16⟩).acc (upd (V0 ⟨1, 8, 3, 1, 16⟩).f 8 a0) 2 8 ((V0 ⟨1, 8, 3, 1, 16⟩).f 8) a0 := ⟨_, rfl⟩
  have FV1 := Lib.hid (show V1.f 0 = 0 ∧ V1.f 1 = 0 ∧ V1.h = -1 ∧ V1.f 8 = a0 ∧ V1.cnt ≤ 1 by rw [hV1]; exact ⟨rfl, rfl, rfl, (show upd (V0 ⟨1, 8, 3, 1, 16⟩).f 8 a0 8 = a0 from upd_same _ _ _), (show (0 : Int) + 1 ≤ 1 by decide)⟩)
  have HG3' := Lib.hid (show WdG (fun k => k < W1.heap.size) w3 A V1 by rw [hV1]; exact HG3.out)
  clear c0 CS HG2 K2 HG3 hV1
  go_upto_region 8 with (fail)
  go_upto_region 9 with (go_at_call 13; (refine (CN.out _).mono ?_; rintro e w4 hnw; obtain ⟨q, rfl, hA, hq, b4⟩ := fl_begin HG3'.out hnw; have HA := Lib.hid (And.intro hA b4); clear hnw hA hq b4))
  clear CN HG3'
  obtain ⟨G, hGd⟩ : ∃ G : Nat → Prop, G = fun k => k < W1.heap.size := ⟨_, rfl⟩
  have hk14 : Kp G W1 w4 := by rw [hGd]; exact Kp.to K3.out (Kp.of HA.out.2)
  have HF0 := Lib.hid (show FoV G w4 w4 A V1 q a1 0 a0 a0 0 1 from ⟨.inl ⟨rfl, by rw [hGd]; exact HA.out.1, FV1.out.1, FV1.out.2.1, FV1.out.2.2.1⟩, FV1.out.2.2.2.1, FV1.out.2.2.2.2, Keeps.refl _ _⟩)
  have PK : Hid (∀ X, Kp G w4 X → (X.cell? ⟨F, 0, none⟩ = some (.int .u8 a2_0) ∧ X.cell? ⟨F, 1, none⟩ = some (.int .u8 a2_1) ∧ X.cell? ⟨F, 2, none⟩ = some (.int .u8 a2_2) ∧ X.cell? ⟨F, 3, none⟩ = some (.int .u8 a2_3)) ∧ Below w.heap.size w X) := Lib.hid (fun X hx => by
    have hk := Kp.to hk14 hx
    have up : ∀ {j v}, W1.cell? ⟨F, j, none⟩ = some v → X.cell? ⟨F, j, none⟩ = some v := fun {j v} hc => hk.cell (p := ⟨F, j, none⟩) (fun n => n (by rw [hGd]; exact HB1.out.2)) hc
    refine ⟨⟨up HT1.out.1, up HT1.out.2.1, up HT1.out.2.2.1, up HT1.out.2.2.2⟩, HB1.out.1.trans ?_⟩
    have hb : Below W1.heap.size W1 X := Kp.below (by rw [hGd] at hk; exact hk) (Nat.le_refl _)
    exact hb.mono HB1.out.1.size)
  have HU0 := Lib.hid hU
  clear hk14 HA K3 FV1 hGd hU
  go_wp2_with fail
  go_loopw [8, 9, 10, 12] (fun s8 s9 s10 s12 X => ∃ (n : Nat) (i : Int) (V : Wv) (now st at_ : Int), n ≤ 4 ∧ i = (n : Int) ∧ s12 = .int .i64 i ∧ s8 = .int .u64 now ∧ s9 = .int .u64 st ∧ s10 = .int .i64 at_ ∧ FoV G w4 X A V q a1 n now st at_ (1 + 41 * n) ∧ isU st) (fun _ _ _ s12 _ => 4 - (intOf s12).toNat)
  case atStart => exact ⟨0, 0, V1, a0, a0, 0, by omega, rfl, rfl, rfl, rfl, rfl, HF0.out, HU0.out⟩
  case round =>
    clear HF0
    obtain ⟨n, i, V, now, st, at_, hn, hi, rfl, rfl, rfl, rfl, hF, hsu⟩ := hrel
    have HSU := Lib.hid hsu
    clear hsu
    rcases (by omega : n = 0 ∨ n = 1 ∨ n = 2 ∨ n = 3 ∨ n = 4) with hn0 | hn0 | hn0 | hn0 | hn0
    · subst hn0
      obtain rfl : i = 0 := hi
      have HF := Lib.hid hF
      have h41 : ((41 : Int) == 0) = false := by decide
      clear hF hn
      go_wp2_with fail
      go_loopw [8, 13] (fun s8 s13 X => ∃ (j : Nat) (V : Wv) (nw : Int), j ≤ m0 ∧ s13 = .int .i64 (j : Int) ∧ s8 = .int .u64 nw ∧ FoV G w4 X A V q a1 0 nw st at_ (1 + 41 * 0 + j)) (fun _ s13 _ => m0 - (intOf s13).toNat)
      case atStart => exact ⟨0, V, now, by omega, rfl, rfl, HF.out.le (by simp)⟩
      case round =>
        clear HF
        obtain ⟨j, V, nw, hj, rfl, rfl, hF⟩ := hrel
        have HF := Lib.hid hF
        have hFU := hF.isU
        have f0 := (PK.out _ hF.2.2.2).1.1
        clear hF
        by_cases hlt : j < m0
        · have CT := Lib.hid (fo_tick HF.out (by omega))
          have CE := Lib.hid (fun X => tickw nw X hFU.1 (by have := hFU.2; omega))
          have j0 : (0 : Int) ≤ (j : Int) := by omega
          have j1 : (j : Int) < (m0 : Int) := by omega
          clear hFU
          go_wp2_with (first
            | (go_at_call 14; (refine CT.out.mono ?_; rintro e w6 ⟨rfl, V6, h6⟩; have H6 := Lib.hid h6; clear h6 f0))
            | (go_at_call 15; ((with_reducible refine (CE.out _).mono ?_); rintro e w7 ⟨rfl, b7⟩; have B7 := Lib.hid b7; clear b7)))
          go_roundw
          case rel => exact ⟨j + 1, V6, _, by omega, by go_num, rfl, (H6.out.new B7.out).le (by omega)⟩
          case measure => simp [intOf]; omega
        · obtain rfl : j = m0 := by omega
          have CS := Lib.hid (fo_s0 HF.out (by omega))
          have hne : (nw != nw) = false := by simp
          clear hFU
          go_upto_region 18 with (go_at_call 16; (refine CS.out.mono ?_; rintro e w7 ⟨rfl, V7, hx, ha, hh⟩; have H7 := Lib.hid hx; have HAv := Lib.hid ha; have HH := Lib.hid hh; clear hx ha hh f0))
          clear CS
          have c0 := H7.out.box.c0
          have ch := H7.out.box.ch
          rw [HH.out] at ch
          have hfd : ∀ W, (Instr.field 59 (.agg #[.int .u8 V7.k, .int .u64 0, .int .u64 V7.x, .int .u64 V7.y]) 1).run Try.prog W = .ok (.int .u64 0) W := fun W => by kernel_rfl
          have cl := fo_last H7.out
          rw [HAv.out] at cl
          have CL := Lib.hid cl
          clear cl
          go_upto_region 20 with (go_at_call 17; ((with_reducible refine CL.out.mono ?_); rintro e w8 ⟨rfl, b8⟩; have H8 := Lib.hid (H7.out.new b8); clear b8 c0 ch; have c0 := H8.out.box.c0; have ch := H8.out.box.ch; rw [HH.out] at ch))
          have CP := Lib.hid (fo_peek H8.out)
          go_wp2_with (go_at_call 10; ((with_reducible refine CP.out.mono ?_); rintro e w9 ⟨rfl, rfl⟩))
          go_roundw
          case rel => exact ⟨1, _, V7, _, _, _, by omega, rfl, by go_num, rfl, rfl, rfl, H8.out.le (by omega), HSU.out⟩
          case measure => simp [intOf]
    · subst hn0
      obtain rfl : i = 1 := hi
      have HF := Lib.hid hF
      have h41 : ((41 : Int) == 0) = false := by decide
      clear hF hn
      go_wp2_with fail
      go_loopw [8, 13] (fun s8 s13 X => ∃ (j : Nat) (V : Wv) (nw : Int), j ≤ m1 ∧ s13 = .int .i64 (j : Int) ∧ s8 = .int .u64 nw ∧ FoV G w4 X A V q a1 1 nw st at_ (1 + 41 * 1 + j)) (fun _ s13 _ => m1 - (intOf s13).toNat)
      case atStart => exact ⟨0, V, now, by omega, rfl, rfl, HF.out.le (by simp)⟩
      case round =>
        clear HF
        obtain ⟨j, V, nw, hj, rfl, rfl, hF⟩ := hrel
        have HF := Lib.hid hF
        have hFU := hF.isU
        have f1 := (PK.out _ hF.2.2.2).1.2.1
        clear hF
        by_cases hlt : j < m1
        · have CT := Lib.hid (fo_tick HF.out (by omega))
          have CE := Lib.hid (fun X => tickw nw X hFU.1 (by have := hFU.2; omega))
          have j0 : (0 : Int) ≤ (j : Int) := by omega
          have j1 : (j : Int) < (m1 : Int) := by omega
          clear hFU
          go_wp2_with (first
            | (go_at_call 14; (refine CT.out.mono ?_; rintro e w6 ⟨rfl, V6, h6⟩; have H6 := Lib.hid h6; clear h6 f1))
            | (go_at_call 15; ((with_reducible refine (CE.out _).mono ?_); rintro e w7 ⟨rfl, b7⟩; have B7 := Lib.hid b7; clear b7)))
          go_roundw
          case rel => exact ⟨j + 1, V6, _, by omega, by go_num, rfl, (H6.out.new B7.out).le (by omega)⟩
          case measure => simp [intOf]; omega
        · obtain rfl : j = m1 := by omega
          have CS := Lib.hid (fo_s1 HF.out (by omega))
          have hne : (nw != nw) = false := by simp
          clear hFU
          go_upto_region 18 with (go_at_call 16; (refine CS.out.mono ?_; rintro e w7 ⟨rfl, V7, hx, ha, hh⟩; have H7 := Lib.hid hx; have HAv := Lib.hid ha; have HH := Lib.hid hh; clear hx ha hh f1))
          clear CS
          have c0 := H7.out.box.c0
          have ch := H7.out.box.ch
          rw [HH.out] at ch
          have hfd : ∀ W, (Instr.field 59 (.agg #[.int .u8 V7.k, .int .u64 1, .int .u64 V7.x, .int .u64 V7.y]) 1).run Try.prog W = .ok (.int .u64 1) W := fun W => by kernel_rfl
          have cl := fo_last H7.out
          rw [HAv.out] at cl
          have CL := Lib.hid cl
          clear cl
          go_upto_region 20 with (go_at_call 17; ((with_reducible refine CL.out.mono ?_); rintro e w8 ⟨rfl, b8⟩; have H8 := Lib.hid (H7.out.new b8); clear b8 c0 ch; have c0 := H8.out.box.c0; have ch := H8.out.box.ch; rw [HH.out] at ch))
          have CP := Lib.hid (fo_peek H8.out)
          go_wp2_with (go_at_call 10; ((with_reducible refine CP.out.mono ?_); rintro e w9 ⟨rfl, rfl⟩))
          go_roundw
          case rel => exact ⟨2, _, V7, _, _, _, by omega, rfl, by go_num, rfl, rfl, rfl, H8.out.le (by omega), HSU.out⟩
          case measure => simp [intOf]
    · subst hn0
      obtain rfl : i = 2 := hi
      have HF := Lib.hid hF
      have h41 : ((41 : Int) == 0) = false := by decide
      clear hF hn
      go_wp2_with fail
      go_loopw [8, 13] (fun s8 s13 X => ∃ (j : Nat) (V : Wv) (nw : Int), j ≤ m2 ∧ s13 = .int .i64 (j : Int) ∧ s8 = .int .u64 nw ∧ FoV G w4 X A V q a1 2 nw st at_ (1 + 41 * 2 + j)) (fun _ s13 _ => m2 - (intOf s13).toNat)
      case atStart => exact ⟨0, V, now, by omega, rfl, rfl, HF.out.le (by simp)⟩
      case round =>
        clear HF
        obtain ⟨j, V, nw, hj, rfl, rfl, hF⟩ := hrel
        have HF := Lib.hid hF
        have hFU := hF.isU
        have f2 := (PK.out _ hF.2.2.2).1.2.2.1
        clear hF
        by_cases hlt : j < m2
        · have CT := Lib.hid (fo_tick HF.out (by omega))
          have CE := Lib.hid (fun X => tickw nw X hFU.1 (by have := hFU.2; omega))
          have j0 : (0 : Int) ≤ (j : Int) := by omega
          have j1 : (j : Int) < (m2 : Int) := by omega
          clear hFU
          go_wp2_with (first
            | (go_at_call 14; (refine CT.out.mono ?_; rintro e w6 ⟨rfl, V6, h6⟩; have H6 := Lib.hid h6; clear h6 f2))
            | (go_at_call 15; ((with_reducible refine (CE.out _).mono ?_); rintro e w7 ⟨rfl, b7⟩; have B7 := Lib.hid b7; clear b7)))
          go_roundw
          case rel => exact ⟨j + 1, V6, _, by omega, by go_num, rfl, (H6.out.new B7.out).le (by omega)⟩
          case measure => simp [intOf]; omega
        · obtain rfl : j = m2 := by omega
          have CS := Lib.hid (fo_s2 HF.out (by omega))
          have CFL := Lib.hid (fun X => flushw nw a1 X hFU.1 (by have := hFU.2; omega))
          have HNU := Lib.hid hFU
          have hne : (flushf nw a1 != flushf nw a1) = false := by simp
          clear hFU
          go_upto_region 18 with (go_at_call 16; (refine CS.out.mono ?_; rintro e w7 ⟨rfl, V7, hx, hh⟩; have H7 := Lib.hid hx; have HH := Lib.hid hh; clear hx hh f2))
          clear CS
          have c0 := H7.out.box.c0
          have ch := H7.out.box.ch
          rw [HH.out] at ch
          have CC := Lib.hid (fo_stepsc H7.out)
          go_upto_region 24 with (first
            | (go_at_call 18; ((with_reducible refine CC.out.mono ?_); rintro e w8 ⟨rfl, rfl⟩))
            | (go_at_call 19; ((with_reducible refine (CFL.out _).mono ?_); rintro e w8 ⟨rfl, b8⟩; have H8 := Lib.hid (H7.out.new b8); clear b8 c0 ch; have c0 := H8.out.box.c0; have ch := H8.out.box.ch; rw [HH.out] at ch)))
          have CP := Lib.hid (fo_peek H8.out)
          go_wp2_with (go_at_call 10; ((with_reducible refine CP.out.mono ?_); rintro e w9 ⟨rfl, rfl⟩))
          go_roundw
          case rel => exact ⟨3, _, V7, _, _, _, by omega, rfl, by go_num, rfl, rfl, rfl, H8.out.le (by omega), HNU.out⟩
          case measure => simp [intOf]
    · subst hn0
      obtain rfl : i = 3 := hi
      have HF := Lib.hid hF
      have h41 : ((41 : Int) == 0) = false := by decide
      clear hF hn
      go_wp2_with fail
      go_loopw [8, 13] (fun s8 s13 X => ∃ (j : Nat) (V : Wv) (nw : Int), j ≤ m3 ∧ s13 = .int .i64 (j : Int) ∧ s8 = .int .u64 nw ∧ FoV G w4 X A V q a1 3 nw st at_ (1 + 41 * 3 + j)) (fun _ s13 _ => m3 - (intOf s13).toNat)
      case atStart => exact ⟨0, V, now, by omega, rfl, rfl, HF.out.le (by simp)⟩
      case round =>
        clear HF
        obtain ⟨j, V, nw, hj, rfl, rfl, hF⟩ := hrel
        have HF := Lib.hid hF
        have hFU := hF.isU
        have f3 := (PK.out _ hF.2.2.2).1.2.2.2
        clear hF
        by_cases hlt : j < m3
        · have CT := Lib.hid (fo_tick HF.out (by omega))
          have CE := Lib.hid (fun X => tickw nw X hFU.1 (by have := hFU.2; omega))
          have j0 : (0 : Int) ≤ (j : Int) := by omega
          have j1 : (j : Int) < (m3 : Int) := by omega
          clear hFU
          go_wp2_with (first
            | (go_at_call 14; (refine CT.out.mono ?_; rintro e w6 ⟨rfl, V6, h6⟩; have H6 := Lib.hid h6; clear h6 f3))
            | (go_at_call 15; ((with_reducible refine (CE.out _).mono ?_); rintro e w7 ⟨rfl, b7⟩; have B7 := Lib.hid b7; clear b7)))
          go_roundw
          case rel => exact ⟨j + 1, V6, _, by omega, by go_num, rfl, (H6.out.new B7.out).le (by omega)⟩
          case measure => simp [intOf]; omega
        · obtain rfl : j = m3 := by omega
          have CS := Lib.hid (fo_s3 HF.out (by omega))
          have hne : (nw != nw) = false := by simp
          clear hFU
          go_upto_region 18 with (go_at_call 16; (refine CS.out.mono ?_; rintro e w7 ⟨rfl, V7, hx, hh⟩; have H7 := Lib.hid hx; have HH := Lib.hid hh; clear hx hh f3))
          clear CS
          have c0 := H7.out.box.c0
          have ch := H7.out.box.ch
          rw [HH.out] at ch
          have CP := Lib.hid (fo_peek H7.out)
          go_wp2_with (go_at_call 10; ((with_reducible refine CP.out.mono ?_); rintro e w9 ⟨rfl, rfl⟩))
          go_roundw
          case rel => exact ⟨4, _, V7, _, _, _, by omega, rfl, by go_num, rfl, rfl, rfl, H7.out.le (by omega), HSU.out⟩
          case measure => simp [intOf]
    · subst hn0
      obtain rfl : i = 4 := hi
      have HF := Lib.hid hF
      have HS := HSU
      have hap : A.p < wr.heap.size := World.block_lt_of_cell? _ _ hF.box.c0
      have hww := (PK.out _ hF.2.2.2).2.size
      have hHh := fo_h4 hF
      clear hF hn
      have CFL := Lib.hid (fun X => flushw st a1 X HS.out.1 (by have := HS.out.2; omega))
      have hst : (st == st) = true := by simp
      have hat : (at_ == at_) = true := by simp
      cases hf : flushes st with
      | true =>
        have hk : flK st = 10 := by unfold flK; rw [hf]; rfl
        have cg := fo_got HF.out
        rw [hk] at cg
        unfold anV at cg
        have CG := Lib.hid cg
        have CFL := Lib.hid (fun X => by have h := CFL.out X; rw [hf] at h; exact h)
        clear cg hk hf
        go_upto_region 27 with (go_at_call 20; ((with_reducible refine CG.out.mono ?_); rintro e w6 ⟨rfl, b6⟩; have B6 := Lib.hid b6; clear b6))
        generalize hW7 : World.alloc w6 _ = W7
        obtain ⟨M, hM⟩ : ∃ M, M = w6.heap.size := ⟨_, rfl⟩
        rw [← hM]
        have b7 : Below w6.heap.size w6 W7 := by rw [← hW7]; exact fl_bs (Below.refl _ _)
        have l7 : M < W7.heap.size := by rw [← hW7, hM]; simp
        have m0 : W7.cell? ⟨M, 0, none⟩ = some (.int .u8 10) := by rw [← hW7]; exact fl_new hM rfl
        have m1 : W7.cell? ⟨M, 1, none⟩ = some (.int .u64 0) := by rw [← hW7]; exact fl_new hM rfl
        have m2 : W7.cell? ⟨M, 2, none⟩ = some (.string ⟨#[]⟩) := by rw [← hW7]; exact fl_new hM rfl
        have m3 : W7.cell? ⟨M, 3, none⟩ = some (.string ⟨#[]⟩) := by rw [← hW7]; exact fl_new hM rfl
        have m4 : W7.cell? ⟨M, 4, none⟩ = some (.int .u32 0) := by rw [← hW7]; exact fl_new hM rfl
        have m5 : W7.cell? ⟨M, 5, none⟩ = some (.int .u64 0) := by rw [← hW7]; exact fl_new hM rfl
        have m6 : W7.cell? ⟨M, 6, none⟩ = some (.int .i64 0) := by rw [← hW7]; exact fl_new hM rfl
        have m7 : W7.cell? ⟨M, 7, none⟩ = some (.int .i64 0) := by rw [← hW7]; exact fl_new hM rfl
        have B7 := Lib.hid (below_then B6.out b7)
        clear hW7 hM b7 CG B6
        go_upto_region 28 with (fail)
        generalize hW8 : World.alloc W7 _ = W8
        obtain ⟨N, hN⟩ : ∃ N, N = W7.heap.size := ⟨_, rfl⟩
        rw [← hN]
        have b8 : Below W7.heap.size W7 W8 := by rw [← hW8]; exact fl_bs (Below.refl _ _)
        have n0 : W8.cell? ⟨N, 0, none⟩ = some (.int .u8 10) := by rw [← hW8]; exact fl_new hN rfl
        have n1 : W8.cell? ⟨N, 1, none⟩ = some (.int .u64 0) := by rw [← hW8]; exact fl_new hN rfl
        have n2 : W8.cell? ⟨N, 2, none⟩ = some (.string ⟨#[]⟩) := by rw [← hW8]; exact fl_new hN rfl
        have n3 : W8.cell? ⟨N, 3, none⟩ = some (.string ⟨#[]⟩) := by rw [← hW8]; exact fl_new hN rfl
        have n4 : W8.cell? ⟨N, 4, none⟩ = some (.int .u32 0) := by rw [← hW8]; exact fl_new hN rfl
        have n5 : W8.cell? ⟨N, 5, none⟩ = some (.int .u64 0) := by rw [← hW8]; exact fl_new hN rfl
        have n6 : W8.cell? ⟨N, 6, none⟩ = some (.int .i64 0) := by rw [← hW8]; exact fl_new hN rfl
        have n7 : W8.cell? ⟨N, 7, none⟩ = some (.int .i64 0) := by rw [← hW8]; exact fl_new hN rfl
        have ny : W8.frozen? ⟨N, 0, none⟩ = false := by rw [← hW8, hN]; simp
        replace m0 := fl_up b8 m0
        replace m1 := fl_up b8 m1
        replace m2 := fl_up b8 m2
        replace m3 := fl_up b8 m3
        replace m4 := fl_up b8 m4
        replace m5 := fl_up b8 m5
        replace m6 := fl_up b8 m6
        replace m7 := fl_up b8 m7
        have hMN : ¬ M = N := by omega
        have hbs := B7.out.size
        have HNN := Lib.hid (show w.heap.size ≤ N ∧ ¬ A.p = N by omega)
        have B8 := Lib.hid (below_then B7.out b8)
        clear hW8 hN b8 l7 B7 hbs hap hww
        go_upto_region 29 with (go_at_call 19; ((with_reducible refine (CFL.out _).mono ?_); rintro e w9 ⟨rfl, b9⟩; have HN0 := Lib.hid (World.block_lt_of_cell? _ _ n0); replace m0 := fl_up b9 m0; replace n0 := fl_up b9 n0; replace m1 := fl_up b9 m1; replace n1 := fl_up b9 n1; replace m2 := fl_up b9 m2; replace n2 := fl_up b9 n2; replace m3 := fl_up b9 m3; replace n3 := fl_up b9 n3; replace m4 := fl_up b9 m4; replace n4 := fl_up b9 n4; replace m5 := fl_up b9 m5; replace n5 := fl_up b9 n5; replace m6 := fl_up b9 m6; replace n6 := fl_up b9 n6; replace m7 := fl_up b9 m7; replace n7 := fl_up b9 n7; replace ny := (b9.frozen (p := ⟨N, 0, none⟩) HN0.out).trans ny; have B9 := Lib.hid (below_then B8.out b9); clear b9))
        clear CFL B8
        have ch := (HF.out.new B9.out).box.ch
        rw [hHh] at ch
        have BX := Lib.hid (PK.out _ (Kp.to HF.out.2.2.2 (Kp.of B9.out))).2
        go_wp2_with (go_at_call 21; refine (lives27 _).mono ?_; rintro e w12 ⟨rfl, hk12⟩; have HK12 := Lib.hid (below_then BX.out hk12); clear hk12)
        go_ret
        exact ⟨rfl, HK12.out⟩
      | false =>
        have hk : flK st = 5 := by unfold flK; rw [hf]; rfl
        have cg := fo_got HF.out
        rw [hk] at cg
        unfold anV at cg
        have CG := Lib.hid cg
        have CFL := Lib.hid (fun X => by have h := CFL.out X; rw [hf] at h; exact h)
        clear cg hk hf
        go_upto_region 27 with (go_at_call 20; ((with_reducible refine CG.out.mono ?_); rintro e w6 ⟨rfl, b6⟩; have B6 := Lib.hid b6; clear b6))
        generalize hW7 : World.alloc w6 _ = W7
        obtain ⟨M, hM⟩ : ∃ M, M = w6.heap.size := ⟨_, rfl⟩
        rw [← hM]
        have b7 : Below w6.heap.size w6 W7 := by rw [← hW7]; exact fl_bs (Below.refl _ _)
        have l7 : M < W7.heap.size := by rw [← hW7, hM]; simp
        have m0 : W7.cell? ⟨M, 0, none⟩ = some (.int .u8 5) := by rw [← hW7]; exact fl_new hM rfl
        have m1 : W7.cell? ⟨M, 1, none⟩ = some (.int .u64 0) := by rw [← hW7]; exact fl_new hM rfl
        have m2 : W7.cell? ⟨M, 2, none⟩ = some (.string ⟨#[]⟩) := by rw [← hW7]; exact fl_new hM rfl
        have m3 : W7.cell? ⟨M, 3, none⟩ = some (.string ⟨#[]⟩) := by rw [← hW7]; exact fl_new hM rfl
        have m4 : W7.cell? ⟨M, 4, none⟩ = some (.int .u32 0) := by rw [← hW7]; exact fl_new hM rfl
        have m5 : W7.cell? ⟨M, 5, none⟩ = some (.int .u64 0) := by rw [← hW7]; exact fl_new hM rfl
        have m6 : W7.cell? ⟨M, 6, none⟩ = some (.int .i64 0) := by rw [← hW7]; exact fl_new hM rfl
        have m7 : W7.cell? ⟨M, 7, none⟩ = some (.int .i64 0) := by rw [← hW7]; exact fl_new hM rfl
        have B7 := Lib.hid (below_then B6.out b7)
        clear hW7 hM b7 CG B6
        go_upto_region 28 with (fail)
        generalize hW8 : World.alloc W7 _ = W8
        obtain ⟨N, hN⟩ : ∃ N, N = W7.heap.size := ⟨_, rfl⟩
        rw [← hN]
        have b8 : Below W7.heap.size W7 W8 := by rw [← hW8]; exact fl_bs (Below.refl _ _)
        have n0 : W8.cell? ⟨N, 0, none⟩ = some (.int .u8 10) := by rw [← hW8]; exact fl_new hN rfl
        have n1 : W8.cell? ⟨N, 1, none⟩ = some (.int .u64 0) := by rw [← hW8]; exact fl_new hN rfl
        have n2 : W8.cell? ⟨N, 2, none⟩ = some (.string ⟨#[]⟩) := by rw [← hW8]; exact fl_new hN rfl
        have n3 : W8.cell? ⟨N, 3, none⟩ = some (.string ⟨#[]⟩) := by rw [← hW8]; exact fl_new hN rfl
        have n4 : W8.cell? ⟨N, 4, none⟩ = some (.int .u32 0) := by rw [← hW8]; exact fl_new hN rfl
        have n5 : W8.cell? ⟨N, 5, none⟩ = some (.int .u64 0) := by rw [← hW8]; exact fl_new hN rfl
        have n6 : W8.cell? ⟨N, 6, none⟩ = some (.int .i64 0) := by rw [← hW8]; exact fl_new hN rfl
        have n7 : W8.cell? ⟨N, 7, none⟩ = some (.int .i64 0) := by rw [← hW8]; exact fl_new hN rfl
        have ny : W8.frozen? ⟨N, 0, none⟩ = false := by rw [← hW8, hN]; simp
        replace m0 := fl_up b8 m0
        replace m1 := fl_up b8 m1
        replace m2 := fl_up b8 m2
        replace m3 := fl_up b8 m3
        replace m4 := fl_up b8 m4
        replace m5 := fl_up b8 m5
        replace m6 := fl_up b8 m6
        replace m7 := fl_up b8 m7
        have hMN : ¬ M = N := by omega
        have hbs := B7.out.size
        have HNN := Lib.hid (show w.heap.size ≤ N ∧ ¬ A.p = N by omega)
        have B8 := Lib.hid (below_then B7.out b8)
        clear hW8 hN b8 l7 B7 hbs hap hww
        go_upto_region 29 with (go_at_call 19; ((with_reducible refine (CFL.out _).mono ?_); rintro e w9 ⟨rfl, b9⟩; have HN0 := Lib.hid (World.block_lt_of_cell? _ _ n0); replace m0 := fl_up b9 m0; replace n0 := fl_up b9 n0; replace m1 := fl_up b9 m1; replace n1 := fl_up b9 n1; replace m2 := fl_up b9 m2; replace n2 := fl_up b9 n2; replace m3 := fl_up b9 m3; replace n3 := fl_up b9 n3; replace m4 := fl_up b9 m4; replace n4 := fl_up b9 n4; replace m5 := fl_up b9 m5; replace n5 := fl_up b9 n5; replace m6 := fl_up b9 m6; replace n6 := fl_up b9 n6; replace m7 := fl_up b9 m7; replace n7 := fl_up b9 n7; replace ny := (b9.frozen (p := ⟨N, 0, none⟩) HN0.out).trans ny; have B9 := Lib.hid (below_then B8.out b9); clear b9))
        clear CFL B8
        go_upto_region 31 with (fail)
        generalize hW10 : World.setCell w9 _ _ = W10
        have kz : Keeps (fun j => j = N) w9 W10 := by rw [← hW10]; exact Keeps.setCell (S := fun j => j = N) (Keeps.refl _ w9) (p := ⟨N, 0, none⟩) (.inl rfl) _
        replace m0 := kz.cell (p := ⟨M, 0, none⟩) hMN m0
        replace m1 := kz.cell (p := ⟨M, 1, none⟩) hMN m1
        replace m2 := kz.cell (p := ⟨M, 2, none⟩) hMN m2
        replace m3 := kz.cell (p := ⟨M, 3, none⟩) hMN m3
        replace m4 := kz.cell (p := ⟨M, 4, none⟩) hMN m4
        replace m5 := kz.cell (p := ⟨M, 5, none⟩) hMN m5
        replace m6 := kz.cell (p := ⟨M, 6, none⟩) hMN m6
        replace m7 := kz.cell (p := ⟨M, 7, none⟩) hMN m7
        have x0 : W10.cell? ⟨N, 0, none⟩ = some (.int .u8 5) := by rw [← hW10]; exact World.cell?_setCell_same _ _ _ n0
        have x1 : W10.cell? ⟨N, 1, none⟩ = some (.int .u64 0) := by rw [← hW10]; exact fo_set (by decide) n1
        have x2 : W10.cell? ⟨N, 2, none⟩ = some (.string ⟨#[]⟩) := by rw [← hW10]; exact fo_set (by decide) n2
        have x3 : W10.cell? ⟨N, 3, none⟩ = some (.string ⟨#[]⟩) := by rw [← hW10]; exact fo_set (by decide) n3
        have x4 : W10.cell? ⟨N, 4, none⟩ = some (.int .u32 0) := by rw [← hW10]; exact fo_set (by decide) n4
        have x5 : W10.cell? ⟨N, 5, none⟩ = some (.int .u64 0) := by rw [← hW10]; exact fo_set (by decide) n5
        have x6 : W10.cell? ⟨N, 6, none⟩ = some (.int .i64 0) := by rw [← hW10]; exact fo_set (by decide) n6
        have x7 : W10.cell? ⟨N, 7, none⟩ = some (.int .i64 0) := by rw [← hW10]; exact fo_set (by decide) n7
        have hBX : Below w.heap.size w W10 := by
          rw [← hW10]
          have h4 := (PK.out _ (Kp.to HF.out.2.2.2 (Kp.of B9.out))).2
          exact h4.setCell HNN.out.1 _
        have ch : W10.cell? ⟨A.p, 72, none⟩ = some (.int .i64 (-1)) := kz.cell (p := ⟨A.p, 72, none⟩) HNN.out.2 (by rw [← hHh]; exact (HF.out.new B9.out).box.ch)
        have BX := Lib.hid hBX
        clear hW10 kz hBX n0 n1 n2 n3 n4 n5 n6 n7 ny hMN
        go_wp2_with (go_at_call 21; refine (lives27 _).mono ?_; rintro e w12 ⟨rfl, hk12⟩; have HK12 := Lib.hid (below_then BX.out hk12); clear hk12)
        go_ret
        exact ⟨rfl, HK12.out⟩
end Go.Proofs.Ytaipbagnkjmddaa
