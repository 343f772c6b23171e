/- The law StripesTwice. -/
import Derived.Test.YthlebfiedejhhaaGreatStX
import Derived.Test.YthlebfiedejhhaaGreatGBg
import Derived.Test.YthlebfiedejhhaaGreatOpen
import Derived.Deep.Cut
import Derived.Deep.CutBlock
import Derived.Deep.RegionHeld3
import Derived.Deep.CutRange
import Derived.StillTailTactics
import Derived.BigQuiet
import Derived.Deep.QuietTactic
namespace Go.Proofs.YthlebfiedejhhaaGreat
open Go.RowKit Go.Maps
set_option linter.unusedVariables false
set_option maxHeartbeats 8000000 in
set_option maxRecDepth 100000 in
theorem walk_StripesTwice (a0_0 : Int) (a0_1 : Int) (a0_2 : Int) (a0_3 : Int) (a0_4 : Int) (a0_5 : Bool) (a0_6 : Option Addr) (l0_6 c0_6 : Nat) (a0_7 : Option Addr) (l0_7 c0_7 : Nat) (a0_8 : Option Addr) (l0_8 c0_8 : Nat) (a0_9 : Int) (a1 : Option Addr) (l1 c1 : Nat) (w : World) (w0_0 : (Lit.int .i64 a0_0).wf = true) (w0_1 : (Lit.int .i64 a0_1).wf = true) (w0_2 : (Lit.int .i64 a0_2).wf = true) (w0_3 : (Lit.int .i64 a0_3).wf = true) (w0_4 : (Lit.int .i64 a0_4).wf = true) (w0_6 : Reads Tryz.prog w 24 (.slice a0_6 l0_6 c0_6)) (w0_7 : Reads Tryz.prog w 25 (.slice a0_7 l0_7 c0_7)) (w0_8 : Reads Tryz.prog w 26 (.slice a0_8 l0_8 c0_8)) (w0_9 : (Lit.int .i64 a0_9).wf = true) (w1 : Reads Tryz.prog w 73 (.slice a1 l1 c1)) :
    Calls Tryz.prog 6 #[.agg #[.int .i64 a0_0, .int .i64 a0_1, .int .i64 a0_2, .int .i64 a0_3, .int .i64 a0_4, .bool a0_5, .slice a0_6 l0_6 c0_6, .slice a0_7 l0_7 c0_7, .slice a0_8 l0_8 c0_8, .int .i64 a0_9], .slice a1 l1 c1] w fun e w' => e = .returned (.bool true) ∧ Below w.heap.size w w' := by
  obtain ⟨L, hLl, hG, hBg⟩ := first_open w0_6 w0_7 w0_8 a0_0 a0_1 a0_2 a0_3 a0_4 a0_9 a0_5
  obtain ⟨hp0, hpm, hpc, P, hlay⟩ := reads_placesX w1
  have CG := Lib.hid hG
  have CB := Lib.hid hBg
  have HLL := Lib.hid hLl
  have HLY := Lib.hid (And.intro hp0 (And.intro hpm (And.intro hpc hlay)))
  clear hG hBg hLl hp0 hpm hpc hlay w0_0 w0_1 w0_2 w0_3 w0_4 w0_6 w0_7 w0_8 w0_9 w1
  go_enter Tryz.func6, Tryz.ntmps6
  go_wp2_with fail
  obtain ⟨F, hF⟩ : ∃ F, F = w.heap.size := ⟨_, rfl⟩
  generalize hW : World.alloc w _ = W
  have bW : Below w.heap.size w W := by rw [← hW]; exact (Below.refl _ _).alloc (Nat.le_refl _) _
  have HBW := Lib.hid bW
  have KEEP : Hid (∀ X, Below W.heap.size W X → X.cell? ⟨F, 0, none⟩ = some (.int .i64 a0_0) ∧ X.cell? ⟨F, 1, none⟩ = some (.int .i64 a0_1) ∧ X.cell? ⟨F, 2, none⟩ = some (.int .i64 a0_2) ∧ X.cell? ⟨F, 3, none⟩ = some (.int .i64 a0_3) ∧ X.cell? ⟨F, 4, none⟩ = some (.int .i64 a0_4) ∧ X.cell? ⟨F, 5, none⟩ = some (.bool a0_5) ∧ X.cell? ⟨F, 6, none⟩ = some (.slice a0_6 l0_6 c0_6) ∧ X.cell? ⟨F, 7, none⟩ = some (.slice a0_7 l0_7 c0_7) ∧ X.cell? ⟨F, 8, none⟩ = some (.slice a0_8 l0_8 c0_8) ∧ X.cell? ⟨F, 9, none⟩ = some (.int .i64 a0_9)) := Lib.hid (fun X hb => by
    have lt : F < W.heap.size := by rw [← hW, hF]; simp
    have up : ∀ {j v}, W.cell? ⟨F, j, none⟩ = some v → X.cell? ⟨F, j, none⟩ = some v := fun {j v} hc => (hb.cell (p := ⟨F, j, none⟩) lt).trans hc
    refine ⟨up ?_, up ?_, up ?_, up ?_, up ?_, up ?_, up ?_, up ?_, up ?_, up ?_⟩ <;> (rw [← hW, hF]; exact new_at rfl rfl))
  rw [← hF]
  clear hW bW hF
  refine (CG.out _ HBW.out).mono ?_
  rintro e w1 ⟨r, rfl, k1, hr⟩
  obtain ⟨f0, f1, f2, f3, f4, f5, f6, f7, f8, f9⟩ := KEEP.out _ k1
  have HB1 := Lib.hid (below_then HBW.out k1)
  clear k1
  cases r with
  | true =>
    clear f0 f1 f2 f3 f4 f5 f6 f7 f8 f9 hr
    go_wp2_with (go_at_call 26; refine (lives12 _).mono ?_; rintro e w9 ⟨rfl, hk9⟩)
    go_ret
    exact ⟨rfl, below_then HB1.out hk9⟩
  | false =>
    have HBIG := Lib.hid (show BigOk l0_6 l0_7 l0_8 L from hr rfl)
    clear hr
    by_cases hl : l1 ≤ 30
    rotate_left
    · have hd : decide ((30 : Int) < (l1 : Int)) = true := decide_eq_true (by omega)
      clear f0 f1 f2 f3 f4 f5 f6 f7 f8 f9
      go_wp2_with (go_at_call 26; refine (lives12 _).mono ?_; rintro e w9 ⟨rfl, hk9⟩)
      go_ret
      exact ⟨rfl, below_then HB1.out hk9⟩
    have hd : decide ((30 : Int) < (l1 : Int)) = false := decide_eq_false (by omega)
    have HL := Lib.hid hl
    clear hl
    go_wp2_with fail
    refine (CB.out _ HB1.out HBIG.out).mono ?_
    rintro e w2 ⟨A, R, V, S, T, rfl, hP, ⟨hM0, -, -⟩, -, hI, hcnt, hST, k2⟩
    have hPG : PwG (fun k => k < w.heap.size) w2 A R V := (PwG.of_begin (L := L) hP hST k2).less (fun k g => Nat.lt_of_lt_of_le g HB1.out.size)
    have HG2 := Lib.hid hPG.wd
    have HB2 := Lib.hid (below_then HB1.out k2)
    have HC := Lib.hid hcnt
    clear hP hM0 hI hcnt hST k2 hPG f0 f1 f2 f3 f4 f5 f6 f7 f8 f9 KEEP CG CB hd
    have C1 := Lib.hid (strOf (HLY.out.2.2.2.new HB2.out) (by have := HL.out; omega))
    have CN := Lib.hid (fun (W : World) (hb : Below w.heap.size w W) => newMark (HLY.out.2.2.2.new hb) (by have := HL.out; omega))
    have HDF := Lib.hid (And.intro (show (strsF P).length ≤ 30 by have h1 := strsF_len P P.length; rw [List.take_length] at h1; have h2 := HLY.out.2.2.2.1; have := HL.out; omega) (And.intro (strsF_nd P) (strsF_uX (L := P))))
    generalize strsF P = D at *
    have hfl := pair_w A.p R.p
    have hmm := @run_makeMap Tryz.prog
    go_upto_region 6 with (go_at_call 31; ((with_reducible refine C1.out.mono ?_); rintro e w3 ⟨aa, rfl, hAl, hb3⟩))
    obtain ⟨m, hm⟩ : ∃ m, m = w3.heap.size := ⟨_, rfl⟩
    generalize hW4 : World.alloc w3 _ = W4
    rw [← hm]
    have hb4 : Below w3.heap.size w3 W4 := by rw [← hW4]; exact bs_alloc (Below.refl _ _)
    have hMu : Mu W4 m 0 (.map []) (fun _ => 0) := by rw [← hW4, hm]; exact Mu.made w3
    obtain ⟨hA1, hA2⟩ := lst_own hAl
    have HA1 := Lib.hid hA1
    have HA4 := Lib.hid (hA2.new hb4)
    have HMU := Lib.hid hMu
    have HM := Lib.hid hm
    have HB34 := Lib.hid (below_then hb3 hb4)
    have HB23 := Lib.hid hb3
    have hMul := Lib.hid hMu.lt
    have h4 := HG2.out.new HB34.out
    have c0 := h4.box.c0
    have CW := Lib.hid (h4.words (by have := HC.out; omega))
    clear hm hfl hmm C1 hW4 hb3 hb4 hMu hAl hA1 hA2 h4
    go_upto_region 7 with (go_at_call 32; ((with_reducible refine CW.out.mono ?_); rintro e w5 ⟨v, Lw, rfl, hls, hwl, hb5⟩))
    obtain ⟨aw, rfl, hwm, g, hwg⟩ := hwl.form
    have HLS := Lib.hid hls
    have HWG := Lib.hid hwg
    have HWM := Lib.hid hwm
    obtain ⟨nw, hnw⟩ : ∃ nw, nw = Lw.length := ⟨_, rfl⟩
    rw [← hnw]
    have HNW := Lib.hid hnw
    have hb25 := below_then HB34.out hb5
    have H5 := Lib.hid (HG2.out.addN hb25)
    have M5 := Lib.hid (HMU.out.keep (S := fun _ => False) (Keeps.of_new hb5) (fun s => s))
    have A5 := Lib.hid (HA4.out.new hb5)
    have hmm : m = w3.heap.size := HM.out
    have hm5 : w2.heap.size ≤ m ∧ m < W4.heap.size ∧ m < w5.heap.size := by
      have h1 := hMul.out
      have := HB34.out.size
      have := hb5.size
      have := HB23.out.size
      omega
    have HM5 := Lib.hid hm5
    have HB5 := Lib.hid (below_then HB2.out hb25)
    clear hls hwl hwg hwm hnw hb5 hb25 hmm hm5 HB34 HMU HA4 CW c0
    go_wp2_with fail
    go_loopw [9] (fun i X => ∃ (k : Nat) (Dk : DataW Unit), k ≤ nw ∧ i = .int .i64 k ∧ Mu X m k Dk (wordsF (Lw.take k)) ∧ Keeps (fun j => j = m) w5 X) (fun i _ => nw - (intOf i).toNat)
    case atStart => exact ⟨0, _, by omega, rfl, by simpa [wordsF] using M5.out, Keeps.refl _ _⟩
    case round =>
      obtain ⟨k, Dk, hk, rfl, hM, hK⟩ := hrel
      by_cases hlt : k < nw
      · obtain ⟨⟨xa, xv⟩, hx⟩ : ∃ x, Lw[k]? = some x := ⟨_, List.getElem?_eq_getElem (by have := HNW.out; omega)⟩
        obtain ⟨rfl, g1, g2, e0, e1⟩ := HWG.out k _ hx
        have hgm : ¬ g = m := by have := HM5.out.2.1; omega
        have f0 : wr.drew.cell? ⟨g, k * 2, none⟩ = some (.int .u64 xa) := hK.cell (p := ⟨g, k * 2, none⟩) hgm e0
        have f1 : wr.drew.cell? ⟨g, k * 2 + 1, none⟩ = some (.int .u64 xv) := hK.cell (p := ⟨g, k * 2 + 1, none⟩) hgm e1
        obtain ⟨ux, uv, -, -⟩ := HLS.out.at_ _ (List.mem_of_getElem? hx)
        have hd : Below wr.heap.size wr wr.drew := (Below.refl _ _).drew
        have HMd := Lib.hid (hM.keep (S := fun _ => False) (Keeps.of_new hd) (fun s => s))
        have HKd := Lib.hid (hK.new hd)
        have HX := Lib.hid hx
        have hnM : k < maxLen := by have := HWM.out; have := HNW.out; omega
        have hkm : k < 9223372036854775807 := by have := hnM; unfold maxLen at this; omega
        have j0 : (0 : Int) ≤ (k : Int) := by omega
        have j1 : (k : Int) < (nw : Int) := by omega
        have y0 : wr.cell? ⟨g, k * 2, none⟩ = some (.int .u64 xa) := f0
        have y1 : wr.cell? ⟨g, k * 2 + 1, none⟩ = some (.int .u64 xv) := f1
        have HU := Lib.hid (And.intro ux uv)
        clear hM hK e0 e1 hd hx g1 g2 hgm
        go_upto_region 10 with (fail)
        go_still_tail 11, (by kernel_rfl)
        change wpList _ _ _ _ _ wr.drew
        refine wpList_mapUpdate_own _ rfl _ _ _ 88 rfl 44 37 lawA Tryz.underlying88 (plainElem Tryz.prog 37) m k Dk rfl HMd.out.1 hnM _ _ (kA xa) rfl rfl (keyA HU.out.1) (.lit (.int .u64 xv)) [] (plainElem_int Tryz.underlying37 (isU_wf HU.out.2)) ?_
        intro w7 own7 hg7
        have hK7 := HKd.out.grown hg7 (fun k e => by simp at e; exact .inl e.symm)
        have hM7 : Mu w7 m (k + 1) (Dk.put (kA xa) (.lit (.int .u64 xv))) (wordsF (Lw.take (k + 1))) := by
          rw [wordsF_take HX.out]
          exact Mu.put HMd.out HU.out.1 HU.out.2 own7
        clear own7 hg7 f0 f1 y0 y1
        go_wp2_with fail
        go_roundw
        case rel => exact ⟨k + 1, _, by omega, by go_num, hM7, hK7⟩
        case measure => simp [intOf]; omega
      · obtain rfl : nw = k := by omega
        have e1 : wordsF (Lw.take nw) = wordsF Lw := by rw [List.take_of_length_le (by have := HNW.out; omega)]
        rw [e1] at hM
        obtain ⟨Da, hDa⟩ : ∃ Da, Da = Dk := ⟨_, rfl⟩
        rw [← hDa] at hM
        clear hDa
        have HM6 := Lib.hid (hM.congr (fun a ha => HLS.out.words ha))
        have HK6 := Lib.hid hK
        have hKG : ∀ j, j = m → j < w.heap.size ∨ w2.heap.size ≤ j ∧ j < w5.heap.size := fun j e => by have := HM5.out; omega
        have H6 := Lib.hid (H5.out.keep hK hKG)
        have A6 := Lib.hid (A5.out.keepS hK (fun g h0 e => by
          obtain ⟨g', e', h1, h2⟩ := HA1.out h0
          rw [e] at e'
          simp at e'
          have := HM.out
          intro h; omega))
        have hb6 : Below w.heap.size w wr := HB5.out.trans (hK.to_below (fun j _ e => by have := HM5.out.1; have := HB2.out.size; omega) HB5.out.size)
        have HB6 := Lib.hid hb6
        clear hM hK e1 hKG hb6 M5 H5 A5
        generalize wr = w6 at *
        go_wp2_with fail
        have hne : ((D.length : Int) != (D.length : Int)) = false := by simp
        have hmm := @run_makeMap Tryz.prog
        refine (CN.out _ HB6.out).mono ?_
        rintro e w7 ⟨q, gq, vq, rfl, hv, ho, hq, hgq, hb7⟩
        have HMW := Lib.hid (mw_new H6.out hv ho hq hgq hb7)
        have HB7 := Lib.hid (below_then HB6.out hb7)
        have HK7 := Lib.hid hb7
        clear hv ho hq hgq hb7
        go_wp2_with fail
        refine (runMk HMW.out (by have := HDF.out.1; omega) HDF.out.2.2 (by have := HC.out; omega)).mono ?_
        rintro e w8 ⟨rfl, ⟨V1, h8, hf8, hc8⟩, k8⟩
        have HB8 := Lib.hid (HB7.out.trans ((k8.less (fun j h => .inl h)).below HB7.out.size))
        have HK8 := Lib.hid (Kp.to (Kp.of HK7.out) k8)
        have HE8 := Lib.hid (And.intro h8 (And.intro hf8 hc8))
        clear h8 hf8 hc8 k8
        go_wp2_with fail
        refine (CN.out _ HB8.out).mono ?_
        rintro e w9 ⟨q2, gq2, vq2, rfl, hv, ho, hq, hgq, hb9⟩
        have HMW2 := Lib.hid (mw_new HE8.out.1 hv ho hq hgq hb9)
        have HB9 := Lib.hid (below_then HB8.out hb9)
        have HK9 := Lib.hid (Kp.to HK8.out (Kp.of hb9))
        clear hv ho hq hgq hb9
        go_wp2_with fail
        refine (runMk HMW2.out (by have := HDF.out.1; omega) HDF.out.2.2 (by have := HC.out; have := HDF.out.1; have := HE8.out.2.2; omega)).mono ?_
        rintro e w10 ⟨rfl, ⟨V2, h10, hf10, hc10⟩, k10⟩
        have hb10 := HB9.out.trans ((k10.less (fun j h => .inl h)).below HB9.out.size)
        have HK10 := Kp.to HK9.out k10
        have ef : V2.f = mkF (mkF V.f D) D := by rw [hf10, HE8.out.2.1]
        have ec : V2.cnt ≤ 1000000 := by have := HC.out; have := HDF.out.1; have := HE8.out.2.2; omega
        have HM10 := Lib.hid (HM6.out.keep HK10 (fun n => n (by have := HM5.out; omega)))
        have HA10 := Lib.hid (A6.out.keepS HK10 (fun g h0 e n => n (by
          obtain ⟨g', e', h1, h2⟩ := HA1.out h0
          rw [e] at e'
          simp at e'
          have := HM.out
          have := HM5.out.2.2
          omega)))
        have HE10 := Lib.hid (And.intro h10 (And.intro ef ec))
        have HB10 := Lib.hid hb10
        clear h10 hf10 hc10 k10 hb10 HK10 ef ec HMW HMW2 HE8 HK8 HK9 HB7 HB8 HB9 HK7 CN HM6 A6 H6 HB6 HK6
        go_upto_region 14 with (fail)
        clear hne hmm
        obtain ⟨m2, hm2⟩ : ∃ m2, m2 = w10.heap.size := ⟨_, rfl⟩
        generalize hW11 : World.alloc w10 _ = W11
        rw [← hm2]
        have hb11 : Below w10.heap.size w10 W11 := by rw [← hW11]; exact bs_alloc (Below.refl _ _)
        have HMT := Lib.hid (show Mu W11 m2 0 (.map []) (twoF (D.take 0)) from (show Mu W11 m2 0 (.map []) (fun _ => 0) by rw [← hW11, hm2]; exact Mu.made w10).congr (fun a _ => by simp [twoF]))
        have HM11 := Lib.hid (HM10.out.keep (S := fun _ => False) (Keeps.of_new hb11) (fun s => s))
        have HA11 := Lib.hid (HA10.out.new hb11)
        have h11 := HE10.out.1.addN hb11
        have HE11 := Lib.hid (And.intro h11 HE10.out.2)
        have hlt := HMT.out.lt
        have HM2 := Lib.hid (And.intro hm2 (And.intro hlt HM10.out.lt))
        have HB11 := Lib.hid (below_then HB10.out hb11)
        clear hW11 hm2 hb11 h11 hlt HM10 HA10 HE10 HB10
        go_wp2_with fail
        go_loopw [11] (fun i X => ∃ (k : Nat) (Dk : DataW Unit), k ≤ D.length ∧ i = .int .i64 k ∧ Mu X m2 k Dk (twoF (D.take k)) ∧ Keeps (fun j => j = m2) W11 X) (fun i _ => D.length - (intOf i).toNat)
        case atStart => exact ⟨0, _, by omega, rfl, HMT.out, Keeps.refl _ _⟩
        case round =>
          clear hk hlt
          obtain ⟨k, Dk, hk, rfl, hMk, hKk⟩ := hrel
          have hmm2 : ¬ m = m2 := by have := HM2.out; omega
          have hG2 : ∀ j, j = m2 → (j < w.heap.size ∨ w2.heap.size ≤ j ∧ j < w5.heap.size) ∨ w10.heap.size ≤ j ∧ j < W11.heap.size := fun j e => by have := HM2.out; omega
          by_cases hlt : k < D.length
          · obtain ⟨x, hx⟩ : ∃ x, D[k]? = some x := ⟨_, List.getElem?_eq_getElem hlt⟩
            have hxm := List.mem_of_getElem? hx
            have ux := HDF.out.2.2 x hxm
            obtain ⟨ga, rfl, -, -, -, e0⟩ := HA11.out.u64 rfl hx
            obtain ⟨g', e', g1, g2⟩ := HA1.out (by omega)
            have hgm : ¬ ga = m2 := by
              simp at e'
              have := HM.out
              have := HM2.out
              omega
            have KX : Hid (∀ X, Keeps (fun j => j = m2) W11 X → X.cell? ⟨ga, k, none⟩ = some (.int .u64 x) ∧ (∃ Da, Mu X m nw Da V.f) ∧ WdG (fun j => (j < w.heap.size ∨ w2.heap.size ≤ j ∧ j < w5.heap.size) ∨ w10.heap.size ≤ j ∧ j < W11.heap.size) X A V2) := Lib.hid (fun X hX => ⟨hX.cell (p := ⟨ga, k, none⟩) hgm e0, ⟨_, HM11.out.keep hX hmm2⟩, HE11.out.1.keep hX hG2⟩)
            have a0 := (KX.out _ hKk).1
            have j0 : (0 : Int) ≤ (k : Int) := by omega
            have j1 : (k : Int) < (D.length : Int) := by omega
            have hk30 : k < 30 := by have := HDF.out.1; omega
            have hkm : k < maxLen := by unfold maxLen; omega
            obtain ⟨z, hz⟩ : ∃ z, z = V.f x := ⟨_, rfl⟩
            have uz : isU z := hz ▸ HM11.out.2.2 x ux
            obtain ⟨z2, hz2⟩ : ∃ z2, IntKind.u64.wrap (z + 2) = z2 := ⟨_, rfl⟩
            have ev : V2.f x = z2 := by rw [HE11.out.2.1, mkF_two HDF.out.2.1 V.f x (hz ▸ uz), ← hz, ← hz2]; unfold twoF; rw [if_pos hxm]
            have uz2 : isU z2 := ev ▸ HE11.out.1.rng ux
            obtain ⟨b, hb⟩ : ∃ b, (z % 2 == 1) = b := ⟨_, rfl⟩
            have CO : Hid (∀ v W, (v = z2 ∨ v = z) → Calls Tryz.prog 36 #[.int .u64 v] W fun e w' => e = .returned (.bool b) ∧ W = w') := Lib.hid (fun v W hv => by
              rcases hv with rfl | rfl
              · have := oddw v ⟨uz2.1, by have := uz2.2; omega⟩ W
                rwa [← hz2, two_odd z uz, hb, hz2] at this
              · have := oddw v ⟨uz.1, by have := uz.2; omega⟩ W
                rwa [hb] at this)
            have HMk := Lib.hid hMk
            have HKk := Lib.hid hKk
            have HZ := Lib.hid (And.intro hz.symm (And.intro ev (And.intro ux hx)))
            have HKL := Lib.hid (And.intro hk hlt)
            clear hMk hKk hz ev uz uz2 hb e0 e' g1 g2 hgm hxm hx hmm2 hG2 hlt hk
            go_upto_region 18 with (at_mapUpdate; refine wpList_mapUpdate_own _ rfl _ _ _ 88 rfl 44 37 lawA Tryz.underlying88 (plainElem Tryz.prog 37) m2 k Dk rfl HMk.out.1 hkm _ _ (kA x) rfl rfl (keyA HZ.out.2.2.1) (.lit (.int .u64 2)) [] (plainElem_int Tryz.underlying37 (isU_wf ⟨by decide, by decide⟩)) ?_; intro w12 own12 hg12)
            have hK12 := HKk.out.grown hg12 (fun k e => by simp at e; exact .inl e.symm)
            have hM12 : Mu w12 m2 (k + 1) (Dk.put (kA x) (.lit (.int .u64 2))) (twoF (D.take (k + 1))) := by
              rw [← twoF_snoc HZ.out.2.2.2]
              exact Mu.put HMk.out HZ.out.2.2.1 ⟨by decide, by decide⟩ own12
            obtain ⟨a1, ⟨Da, hMa⟩, hW12⟩ := KX.out _ hK12
            have c0 := hW12.box.c0
            have P1 := Lib.hid (fun n => hW12.peekN HZ.out.2.2.1 HZ.out.2.1 n)
            have LK : ∀ n, (Instr.lookup 88 (.map (some m)) (.int .u64 x) false).run Tryz.prog (w12.drewN n) = .ok (.int .u64 z) (w12.drewN n) := fun n => by
              rw [← HZ.out.1]
              exact (hMa.keep (S := fun _ => False) (Keeps.of_new (belowNd (Below.refl _ _) n)) (fun s => s)).look HZ.out.2.2.1
            have HK12 := Lib.hid hK12
            have HM12 := Lib.hid hM12
            clear own12 hg12 hK12 hM12 hMa hW12 a0
            go_quiet ((first
              | (go_at_call 35; with_reducible exact quiet_left (P1.out _))
              | (go_at_call 36; exact quiet_left (CO.out _ _ (by first | exact .inl rfl | exact .inr rfl)))))
            have hbq : Below w12.heap.size w12 (w12.drewN nq) := belowNd (Below.refl _ _) nq
            have hR := Lib.hid (And.intro (HM12.out.keep (S := fun _ => False) (Keeps.of_new hbq) (fun s => s)) (HK12.out.new hbq))
            clear hbq a1 c0 LK
            generalize w12.drewN nq = w13 at *
            go_wp2_with fail
            go_roundw
            case rel => exact ⟨k + 1, _, by have := HKL.out; omega, by go_num, hR.out.1, hR.out.2⟩
            case measure => have := HKL.out; simp [intOf]; omega
          · obtain rfl : k = D.length := by omega
            rw [List.take_length] at hMk
            have h12 := HE11.out.1.keep hKk hG2
            have HM2b := Lib.hid hMk
            have HMa := Lib.hid (HM11.out.keep hKk hmm2)
            have HB12 := Lib.hid (HB11.out.trans (hKk.to_below (fun j _ e => by have := HM2.out.1; have := HB11.out.size; have := HM2.out.2.2; have := HB5.out.size; have := HM5.out; have := HB2.out.size; omega) HB11.out.size))
            have c0 := h12.box.c0
            have CW := Lib.hid (h12.words HE11.out.2.2)
            have HE12 := Lib.hid h12
            clear h12 hMk hKk hmm2 hG2 hlt hk HMT HM11 HA11
            generalize wr = w12 at *
            go_upto_region 21 with (go_at_call 32; ((with_reducible refine CW.out.mono ?_); rintro e w13 ⟨v2, L2, rfl, hls, hwl, hb13⟩))
            obtain ⟨aw2, rfl, hwm2, g2, hwg2⟩ := hwl.form
            obtain ⟨n2, hn2⟩ : ∃ n2, n2 = L2.length := ⟨_, rfl⟩
            rw [← hn2]
            have hn2m : n2 ≤ 9223372036854775807 := by unfold maxLen at hwm2; omega
            have HLS2 := Lib.hid hls
            have HWG2 := Lib.hid hwg2
            have HN2 := Lib.hid hn2
            have HE13 := Lib.hid (HE12.out.new hb13)
            have HMa13 := Lib.hid (HMa.out.keep (S := fun _ => False) (Keeps.of_new hb13) (fun s => s))
            have HM2b13 := Lib.hid (HM2b.out.keep (S := fun _ => False) (Keeps.of_new hb13) (fun s => s))
            have HB13 := Lib.hid (below_then HB12.out hb13)
            clear hls hwl hwm2 hwg2 hn2 hb13 CW c0 HE12 HMa HM2b HB12
            go_wp2_with fail
            go_loopw [12] (fun i X => ∃ k : Nat, k ≤ n2 ∧ i = .int .i64 k ∧ Below w13.heap.size w13 X) (fun i _ => n2 - (intOf i).toNat)
            case atStart => exact ⟨0, by omega, rfl, Below.refl _ _⟩
            case round =>
              obtain ⟨k, hk, rfl, hbk⟩ := hrel
              by_cases hlt : k < n2
              · obtain ⟨⟨xa, xv⟩, hx⟩ : ∃ x, L2[k]? = some x := ⟨_, List.getElem?_eq_getElem (by have := HN2.out; omega)⟩
                obtain ⟨rfl, g1, g2', e0, e1⟩ := HWG2.out k _ hx
                have f0 := (hbk.cell (p := ⟨g2, k * 2, none⟩) g2').trans e0
                have f1 := (hbk.cell (p := ⟨g2, k * 2 + 1, none⟩) g2').trans e1
                obtain ⟨ux, uv, -, hfx⟩ := HLS2.out.at_ _ (List.mem_of_getElem? hx)
                have j0 : (0 : Int) ≤ (k : Int) := by omega
                have j1 : (k : Int) < (n2 : Int) := by omega
                have hk63 : k < 9223372036854775807 := by omega
                have hMa := HMa13.out.keep (S := fun _ => False) (Keeps.of_new hbk) (fun s => s)
                have hMb := HM2b13.out.keep (S := fun _ => False) (Keeps.of_new hbk) (fun s => s)
                obtain ⟨z, hz⟩ : ∃ z, V.f xa = z := ⟨_, rfl⟩
                obtain ⟨y, hy⟩ : ∃ y, twoF D xa = y := ⟨_, rfl⟩
                have hs : IntKind.u64.wrap (z + y) = xv := by
                  have h1 := mkF_two HDF.out.2.1 V.f xa (hMa.2.2 xa ux)
                  rw [hz, hy] at h1
                  rw [← h1, ← HE11.out.2.1]
                  exact hfx
                have LK1 : ∀ n, (Instr.lookup 88 (.map (some m)) (.int .u64 xa) false).run Tryz.prog (wr.drewN n) = .ok (.int .u64 z) (wr.drewN n) := fun n => by
                  rw [← hz]
                  exact (hMa.keep (S := fun _ => False) (Keeps.of_new (belowNd (Below.refl _ _) n)) (fun s => s)).look ux
                have LK2 : ∀ n, (Instr.lookup 88 (.map (some m2)) (.int .u64 xa) false).run Tryz.prog (wr.drewN n) = .ok (.int .u64 y) (wr.drewN n) := fun n => by
                  rw [← hy]
                  exact (hMb.keep (S := fun _ => False) (Keeps.of_new (belowNd (Below.refl _ _) n)) (fun s => s)).look ux
                have HKL := Lib.hid (And.intro hk (And.intro hlt hbk))
                clear hMa hMb hz hy e0 e1 g1 g2' hfx hx ux uv hbk hk
                go_upto_region 24 with (fail)
                go_quiet (fail)
                have hbq := Lib.hid (HKL.out.2.2.trans ((belowNd (Below.refl wr.heap.size wr) nq).mono HKL.out.2.2.size))
                clear f0 f1 LK1 LK2
                generalize wr.drewN nq = w14 at *
                go_wp2_with fail
                go_roundw
                case rel => exact ⟨k + 1, by have := HKL.out; omega, by go_num, hbq.out⟩
                case measure => have := HKL.out; simp [intOf]; omega
              · obtain rfl : k = n2 := by omega
                have hMa := HMa13.out.keep (S := fun _ => False) (Keeps.of_new hbk) (fun s => s)
                have HMb := Lib.hid (HM2b13.out.keep (S := fun _ => False) (Keeps.of_new hbk) (fun s => s))
                have HE14 := Lib.hid (HE13.out.new hbk)
                have HB14 := Lib.hid (below_then HB13.out hbk)
                have hown := hMa.1
                have HMa := Lib.hid hMa
                clear hMa hbk hk hlt HMa13 HM2b13 HE13 HB13
                generalize wr = w14 at *
                go_wp2_with (at_range; refine wpList_range_own _ rfl _ 88 rfl 44 37 lawA Tryz.underlying88 (plainElem Tryz.prog 37) m nw _ rfl hown ?_; intro w15 hrg0 hg0 hs0)
                have HB15 := Lib.hid ((Below.refl w14.heap.size w14).grown hg0 (Nat.le_refl _) (fun k e => by simp at e))
                have HRG0 := Lib.hid hrg0
                have HSZ0 := Lib.hid hs0
                clear hown hrg0 hg0 hs0
                obtain ⟨r, hr⟩ : ∃ r, r = w14.heap.size := ⟨_, rfl⟩
                rw [← hr] at HRG0 HSZ0
                rw [← hr]
                have HR := Lib.hid hr
                clear hr
                go_frame
                go_loopw [13, 14] (fun _ _ X => ∃ (left : Lit → Bool) (q : Nat), X.ranges Tryz.prog 44 (plainElem Tryz.prog 37) m r nw Da left q ∧ Below w14.heap.size w14 X ∧ r < X.heap.size) (fun _ _ X => X.rangeLeft m r)
                case atStart => exact ⟨_, _, HRG0.out, HB15.out, by have := HSZ0.out; omega⟩
                case round =>
                  obtain ⟨left, q, hrg, hbr, hrl⟩ := hrel
                  have HLEFT := Lib.hid hrg.left_eq
                  go_wp2_with (at_next; refine wpList_next_ranges_ii _ rfl _ rfl 44 37 .u64 .u64 lawA Tryz.underlying44 Tryz.underlying37 m r nw Da left q rfl hrg (fun hq0 hdone => ?_) (fun x c w16 q1 hkx hcx hl hat hrg1 hlt1 hgr hsz1 hen => ?_))
                  · clear hrg hdone hq0
                    have HBR := Lib.hid hbr
                    clear hbr HLEFT
                    go_wp2_with (go_at_call 26; refine (lives12 _).mono ?_; rintro e w9 ⟨rfl, hk9⟩)
                    go_ret
                    exact ⟨rfl, below_then (below_then HB14.out HBR.out) hk9⟩
                  · have ux : isU x := wf_isU hkx
                    have ec : c = V.f x := by
                      have h1 := HMa.out.2.1 x ux
                      have h2 := hat (.lit (.int .u64 0))
                      rw [show Lit.int .u64 x = kA x from rfl, h1] at h2
                      injection h2 with h2
                      injection h2 with _ h2
                      exact h2.symm
                    have hbs := hbr.size
                    have hb16 : Below w14.heap.size w14 w16 := hbr.grown hgr (by omega) (fun k e => by have := HR.out; simp at e; omega)
                    obtain ⟨y, hy⟩ : ∃ y, twoF D x = y := ⟨_, rfl⟩
                    obtain ⟨s, hs⟩ : ∃ s, IntKind.u64.wrap (c + y) = s := ⟨_, rfl⟩
                    have ev : V2.f x = s := by
                      have h1 := mkF_two HDF.out.2.1 V.f x (HMa.out.2.2 x ux)
                      rw [hy, ← ec, hs] at h1
                      rw [← h1, ← HE11.out.2.1]
                    have P1 := Lib.hid (fun n => (HE14.out.new hb16).peekN ux ev n)
                    have c0 := (HE14.out.new hb16).box.c0
                    have LK2 : ∀ n, (Instr.lookup 88 (.map (some m2)) (.int .u64 x) false).run Tryz.prog (w16.drewN n) = .ok (.int .u64 y) (w16.drewN n) := fun n => by
                      rw [← hy]
                      exact (HMb.out.keep (S := fun _ => False) (Keeps.of_new (hb16.trans ((belowNd (Below.refl w16.heap.size w16) n).mono hb16.size))) (fun s => s)).look ux
                    have HRG1 := Lib.hid hrg1
                    have HX := Lib.hid (And.intro hb16 (And.intro hlt1 hsz1))
                    have hrl1 : r < w16.heap.size := by omega
                    clear hbs hrg hbr hat hgr hrg1 hb16 hkx hcx hl ux ec hy ev hsz1 hlt1
                    go_upto_region 29 with (fail)
                    go_quiet ((go_at_call 35; with_reducible exact quiet_left (P1.out _)))
                    have hbq : Below w16.heap.size w16 (w16.drewN nq) := belowNd (Below.refl _ _) nq
                    have hrg3 := ranges_keep HRG1.out (S := fun _ => False) (Keeps.of_new hbq) (fun s => s) (fun s => s)
                    have hleft : (w16.drewN nq).rangeLeft m r = q1 := hrg3.left_eq
                    have hb17 := HX.out.1.trans (hbq.mono HX.out.1.size)
                    have hs17 : r < (w16.drewN nq).heap.size := Nat.lt_of_lt_of_le hrl1 hbq.size
                    clear hbq LK2 c0 hen
                    generalize w16.drewN nq = w17 at *
                    go_wp2_with fail
                    go_roundw
                    case rel => exact ⟨_, q1, hrg3, hb17, hs17⟩
                    case measure => rw [hleft, HLEFT.out]; exact HX.out.2.1
end Go.Proofs.YthlebfiedejhhaaGreat
