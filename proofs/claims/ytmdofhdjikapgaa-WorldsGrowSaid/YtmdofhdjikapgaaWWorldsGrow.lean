/- The law WorldsGrow. -/
import Derived.Test.YtmdofhdjikapgaaWd4
import Derived.Test.YtmdofhdjikapgaaOpen
namespace Go.Proofs.Ytmdofhdjikapgaa
open Go.RowKit Go.Maps
set_option linter.unusedVariables false
theorem wd0 {b : Int} (h1 : 1 ≤ b) (h2 : b ≤ 12) : wordf b 0 = b ∧ asO b = b ∧ asN b = 0 ∧ spotsf b = 4 * szf b ∧ isU b := by
  have e1 : b % 256 = b := by omega
  have e2 : b / 256 % 256 = 0 := by omega
  have eo : asO b = b := by unfold asO; rw [e1, if_pos ⟨h1, h2⟩]
  have en : asN b = 0 := by unfold asN; rw [e2, eo, if_neg (by omega)]
  refine ⟨by unfold wordf; omega, eo, en, ?_, ⟨by omega, by omega⟩⟩
  unfold spotsf
  rw [eo, en]
  have : szf 0 = 0 := by decide
  omega
theorem wd1 {b : Int} (h1 : 1 ≤ b) (h2 : b ≤ 11) : asN (wordf b (b + 1)) = b + 1 ∧ spotsf (wordf b (b + 1)) = 4 * szf b + 4 * szf (b + 1) ∧ isU (wordf b (b + 1)) := by
  have hw : wordf b (b + 1) = b + (b + 1) * 256 := by unfold wordf; omega
  have e1 : wordf b (b + 1) % 256 = b := by rw [hw]; omega
  have e2 : wordf b (b + 1) / 256 % 256 = b + 1 := by
    clear e1
    rw [hw, show (b + (b + 1) * 256) / 256 = b + 1 by rw [Int.add_mul_ediv_right _ _ (by decide)]; omega]
    omega
  have eo : asO (wordf b (b + 1)) = b := by unfold asO; rw [e1, if_pos (by omega)]
  have en : asN (wordf b (b + 1)) = b + 1 := by unfold asN; rw [e2, eo, if_pos (by omega)]
  refine ⟨en, by unfold spotsf; rw [eo, en], ?_⟩
  rw [hw]
  exact ⟨by omega, by omega⟩
set_option maxHeartbeats 1500000 in
set_option maxRecDepth 100000 in
theorem walk_WorldsGrow (a0_0 : Int) (a0_1 : Int) (a0_2 : Int) (a0_3 : Int) (a0_4 : Int) (w : World) (w0_0 : (Lit.int .i64 a0_0).wf = true) (w0_1 : (Lit.int .i64 a0_1).wf = true) (w0_2 : (Lit.int .i64 a0_2).wf = true) (w0_3 : (Lit.int .i64 a0_3).wf = true) (w0_4 : (Lit.int .i64 a0_4).wf = true) :
    Calls Try.prog 6 #[.agg #[.int .i64 a0_0, .int .i64 a0_1, .int .i64 a0_2, .int .i64 a0_3, .int .i64 a0_4]] w fun e w' => e = .returned (.bool true) ∧ Below w.heap.size w w' := by
  clear w0_0 w0_1 w0_2 w0_3 w0_4
  obtain ⟨Q, hQ⟩ : ∃ Q, Q = w.heap.size := ⟨_, rfl⟩
  obtain ⟨W, hW⟩ : ∃ W, W = w.alloc (.cells #[.int .i64 a0_0, .int .i64 a0_1, .int .i64 a0_2, .int .i64 a0_3, .int .i64 a0_4] 23) := ⟨_, rfl⟩
  have hBw : Below w.heap.size w W := by rw [hW]; exact (Below.refl _ _).alloc (Nat.le_refl _) _
  have q0 : W.cell? ⟨Q, 0, none⟩ = some (.int .i64 a0_0) := by rw [hQ, hW]; simp
  have q1 : W.cell? ⟨Q, 1, none⟩ = some (.int .i64 a0_1) := by rw [hQ, hW]; simp
  have q2 : W.cell? ⟨Q, 2, none⟩ = some (.int .i64 a0_2) := by rw [hQ, hW]; simp
  have q3 : W.cell? ⟨Q, 3, none⟩ = some (.int .i64 a0_3) := by rw [hQ, hW]; simp
  have q4 : W.cell? ⟨Q, 4, none⟩ = some (.int .i64 a0_4) := by rw [hQ, hW]; simp
  have hsQ : Q < W.heap.size := by rw [hQ, hW]; simp
  have HQ := Lib.hid hQ
  have HW := Lib.hid hW
  have HB := Lib.hid hBw
  have hsW := hBw.size
  have Q0 := Lib.hid (fun X (hb : Below W.heap.size W X) => (hb.cell (p := ⟨Q, 0, none⟩) hsQ).trans q0)
  have Q1 := Lib.hid (fun X (hb : Below W.heap.size W X) => (hb.cell (p := ⟨Q, 1, none⟩) hsQ).trans q1)
  have Q2 := Lib.hid (fun X (hb : Below W.heap.size W X) => (hb.cell (p := ⟨Q, 2, none⟩) hsQ).trans q2)
  have Q3 := Lib.hid (fun X (hb : Below W.heap.size W X) => (hb.cell (p := ⟨Q, 3, none⟩) hsQ).trans q3)
  have Q4 := Lib.hid (fun X (hb : Below W.heap.size W X) => (hb.cell (p := ⟨Q, 4, none⟩) hsQ).trans q4)
  clear hQ hW hBw q0 q1 q2 q3 q4
  cases hm : mayc a0_0 a0_1 a0_2 a0_3 a0_4 with
  | false =>
    have C := Lib.hid (fun W => newW_no a0_0 a0_1 a0_2 a0_3 a0_4 W hm)
    have CM := fun W => wmay a0_0 a0_1 a0_2 a0_3 a0_4 W
    rw [hm] at CM
    have HCM := Lib.hid CM
    clear hm CM
    go_enter Try.func6, Try.ntmps6
    go_wp2_with fail
    rw [← HQ.out, ← HW.out]
    refine (C.out _).mono ?_
    rintro e w2 ⟨rfl, K2⟩
    have d0 := Q0.out _ K2
    have d1 := Q1.out _ K2
    have d2 := Q2.out _ K2
    have d3 := Q3.out _ K2
    have d4 := Q4.out _ K2
    have H2 := Lib.hid K2
    clear K2
    go_wp2_with fail
    refine (HCM.out _).mono ?_
    rintro e w3 ⟨rfl, K3⟩
    have H3 := Lib.hid (below_then H2.out K3)
    clear K3 d0 d1 d2 d3 d4
    go_wp2_with fail
    refine (lives10 _).mono ?_
    rintro e w4 ⟨rfl, K4⟩
    have H4 := Lib.hid (HB.out.trans ((below_then H3.out K4).mono hsW))
    clear K4
    go_wp2_with fail
    go_ret
    exact ⟨rfl, H4.out⟩
  | true =>
    have C := Lib.hid (fun W => newW a0_0 a0_1 a0_2 a0_3 a0_4 W hm)
    have CM := fun W => wmay a0_0 a0_1 a0_2 a0_3 a0_4 W
    rw [hm] at CM
    have HCM := Lib.hid CM
    have hmm := of_decide_eq_true (show decide _ = true from hm)
    have b1 : 1 ≤ a0_1 := by omega
    have b2 : a0_1 ≤ 65536 := by omega
    have g1 : 1 ≤ a0_0 := by omega
    have g2 : a0_0 ≤ 12 := by omega
    clear hm hmm CM
    obtain ⟨x1, x2, x3, x4, x5⟩ := wd0 g1 g2
    obtain ⟨z1, z2⟩ := szf_range a0_0
    obtain ⟨s, hs⟩ : ∃ s, s = 4 * szf a0_0 := ⟨_, rfl⟩
    have CWd := fun W => wordw8 a0_0 0 W
    rw [x1] at CWd
    have HCW := Lib.hid CWd
    have CSp := fun W => spotsw a0_0 W x5.1 x5.2
    rw [x4, ← hs] at CSp
    have HCS := Lib.hid CSp
    have s1 : 0 ≤ s := by omega
    have s2 : s ≤ 16384 := by omega
    obtain ⟨mx, hmx⟩ : ∃ mx, mx = max a0_1 s := ⟨_, rfl⟩
    have HS := Lib.hid hs
    have HMX := Lib.hid hmx
    clear CWd CSp x1 x2 x3 x4 x5 hs hmx z1 z2
    go_enter Try.func6, Try.ntmps6
    go_wp2_with fail
    rw [← HQ.out, ← HW.out]
    refine (C.out _).mono ?_
    rintro e w2 ⟨A, rfl, hW2, K2⟩
    have d0 := Q0.out _ K2
    have d1 := Q1.out _ K2
    have HW2 := Lib.hid hW2
    have HK2 := Lib.hid K2
    clear hW2 K2
    go_wp2_with fail
    have e0 : w2.drew.cell? ⟨Q, 0, none⟩ = some (.int .i64 a0_0) := d0
    have e1 : w2.drew.cell? ⟨Q, 1, none⟩ = some (.int .i64 a0_1) := d1
    clear d0 d1
    by_cases hcm : s ≤ a0_1
    all_goals
      go_region_held3 (fun w' => w'.cell? ⟨Q, 0, none⟩ = some (.int .i64 a0_0) ∧ w'.cell? ⟨Q, 1, none⟩ = some (.int .i64 a0_1))
        (first | exact ⟨by assumption, by assumption⟩)
        (first
          | (go_at_call 36; ((with_reducible refine (HCW.out _).mono ?_); rintro e w3 ⟨rfl, rfl⟩))
          | (go_at_call 35; ((with_reducible refine (HCS.out _).mono ?_); rintro e w3 ⟨rfl, K3⟩; have hK3 := HK2.out.drew.trans (K3.mono (show W.heap.size ≤ w2.heap.size from HK2.out.size)); replace e0 := Q0.out _ hK3; replace e1 := Q1.out _ hK3; have HK3 := Lib.hid hK3; have HN3 := Lib.hid K3; clear K3 hK3)))
      clear e0 e1
      go_wp2_with fail
      have hW3 := (HW2.out.new (Below.refl w2.heap.size w2).drew).new HN3.out
      have hw8 : IntKind.i64.wrap (8 * a0_1) = 8 * a0_1 ∧ IntKind.i64.wrap (8 * s) = 8 * s := ⟨IntWalk.i64_in _ (by omega), IntWalk.i64_in _ (by omega)⟩
      have hmv : mx = a0_1 ∨ mx = s := by have := HMX.out; omega
      have hmx1 : 0 ≤ mx ∧ mx ≤ 65536 := by omega
      first
        | (rw [hw8.1, show 8 * a0_1 = 8 * mx by have := HMX.out; omega])
        | (rw [hw8.2, show 8 * s = 8 * mx by have := HMX.out; omega])
      have HW3 := Lib.hid hW3
      clear hW3 hw8 hmv hcm
      go_loopw [5, 7] (fun bv iv wr => ∃ (b : Int) (i : Nat) (V : Wv), bv = .int .i64 b ∧ iv = .int .i64 i ∧ Hid (b = a0_0 + i) ∧ b ≤ 12 ∧ WdB wr A V W.heap.size ∧ Below W.heap.size W wr ∧ Hid (V.f 2 = b ∧ V.c = ⟨a0_0, a0_1, a0_2, a0_3, a0_4⟩ ∧ V.cnt ≤ 2 * i)) (fun _ iv _ => 12 - (intOf iv).toNat)
      case atStart => exact ⟨a0_0, 0, _, rfl, rfl, Lib.hid (by omega), g2, HW3.out, HK3.out, Lib.hid ⟨rfl, rfl, by simp [V0]⟩⟩
      case round =>
        obtain ⟨b, i, V, rfl, rfl, hbi, hb12, hWr, hBr, hV⟩ := hrel
        have hbi' := hbi.out
        have i11 : (i : Int) ≤ 11 := by omega
        have hb1 : 1 ≤ b := by omega
        obtain ⟨hV1, hV2, hV3⟩ := hV.out
        obtain ⟨y1, y2, y3, y4, y5⟩ := wd0 hb1 hb12
        have hgr : growsF V = mayf a0_0 a0_1 b := by unfold growsF; rw [hV1, hV2, y2, y3]; rfl
        have CG : ∀ X, Below wr.heap.size wr X → Calls Try.prog 19 #[.pointer (some ⟨A.p, 0, none⟩)] X fun e w' => e = .returned (.bool (mayf a0_0 a0_1 b)) ∧ Below X.heap.size X w' := fun X hb => by
          have := bgrows (hWr.new hb)
          rwa [hgr] at this
        have hsr := hBr.size
        have i12 : i < 12 := by omega
        obtain ⟨z1, z2⟩ := szf_range b
        obtain ⟨z3, z4⟩ := szf_range (b + 1)
        have HG := Lib.hid CG
        have HWr := Lib.hid hWr
        have HBr := Lib.hid hBr
        clear CG hgr hbi' hWr hBr y1 y2 y3 y4 y5 hV1 hV2 hV3
        cases hmy : mayf a0_0 a0_1 b with
        | true =>
          have hmm := of_decide_eq_true (show decide _ = true from hmy)
          rw [hmy] at HG
          have hb11 : b ≤ 11 := by omega
          obtain ⟨e1, e2, e3⟩ := wd1 hb1 hb11
          obtain ⟨sp, hsp⟩ : ∃ sp, sp = 4 * szf b + 4 * szf (b + 1) := ⟨_, rfl⟩
          have hle : decide (8 * mx < sp) = false := decide_eq_false (by have := HMX.out; have := HS.out; omega)
          have CW := Lib.hid (fun W => wordw8 b (b + 1) W)
          generalize wordf b (b + 1) = x at *
          have CSp := fun W => spotsw x W e3.1 e3.2
          rw [e2, ← hsp] at CSp
          have HSp := Lib.hid CSp
          have E1 := Lib.hid e1
          have E3 := Lib.hid e3
          have yb : IntKind.i64.wrap (b + 1) = b + 1 := IntWalk.i64_in _ (by omega)
          clear hmy hmm CSp hsp e1 e2 e3 z1 z2 z3 z4
          go_wp2_with fail
          refine (HG.out _ (Below.refl _ _)).mono ?_
          rintro e w4 ⟨rfl, K4⟩
          have hW4 := HWr.out.new K4
          have HB4 := Lib.hid (HBr.out.trans (K4.mono hsr))
          have c0 := hW4.box.c0
          have hs4 : W.heap.size ≤ w4.heap.size := HB4.out.size
          have CS := Lib.hid (bstore hW4 hs4 (a := 2) (v := x) ⟨by decide, by decide⟩ E3.out (by have := hV.out.2.2; omega))
          clear hW4 K4
          go_wp2_with fail
          refine (CW.out _).mono ?_
          rintro e w5 ⟨rfl, rfl⟩
          go_wp2_with fail
          refine CS.out.mono ?_
          rintro e w5 ⟨rfl, hW5, K5⟩
          have HB5 := Lib.hid (HB4.out.trans K5)
          have HW5 := Lib.hid hW5
          clear CS hW5 K5 c0
          go_wp2_with fail
          refine (HSp.out _).mono ?_
          rintro e w6 ⟨rfl, K6⟩
          have hW6 := HW5.out.new K6
          have hs5 := HB5.out.size
          have HB6 := Lib.hid (HB5.out.trans (K6.mono hs5))
          have CG := bgrows hW6
          have hgf : growsF (V.acc (upd V.f 2 x) 2 2 (V.f 2) x) = false := by
            unfold growsF
            rw [acc_upd, E1.out, show (b + 1 == 0) = false from by simp; omega]
            rfl
          rw [hgf] at CG
          have HG6 := Lib.hid CG
          have HW6 := Lib.hid hW6
          clear CG hW6 K6
          go_wp2_with fail
          refine HG6.out.mono ?_
          rintro e w7 ⟨rfl, K7⟩
          have hs6 := HB6.out.size
          have hW7 : WdB w7.drew A _ _ := HW6.out.new K7.drew
          have HB7 := Lib.hid (HB6.out.trans (K7.mono hs6)).drew
          have c0 := hW7.box.c0
          have hs7 : W.heap.size ≤ w7.drew.heap.size := HB7.out.size
          obtain ⟨y1, y2, y3, y4, y5⟩ := wd0 (b := b + 1) (by omega) (by omega)
          have CW2 := fun W => wordw8 (b + 1) 0 W
          rw [y1] at CW2
          have HCW2 := Lib.hid CW2
          have CS := Lib.hid (bstore hW7 hs7 (a := 2) (v := b + 1) ⟨by decide, by decide⟩ y5 (by have := hV.out.2.2; show V.cnt + 1 < _; omega))
          clear hW7 K7 y1 y2 y3 y4 y5 CW2
          go_wp2_with fail
          go_region_held3 (fun w' => w'.cell? ⟨A.p, 0, none⟩ = some (.pointer (some ⟨A.pc, 0, none⟩)))
            (first | assumption)
            (first
              | (go_at_call 36; ((with_reducible refine (HCW2.out _).mono ?_); rintro e w8 ⟨rfl, rfl⟩))
              | (go_at_call 37; ((with_reducible refine CS.out.mono ?_); rintro e w8 ⟨rfl, hW8, K8⟩; replace c0 := hW8.box.c0; have HW8 := Lib.hid hW8; have HB8 := Lib.hid (HB7.out.trans K8); clear CS hW8 K8)))
          clear c0
          go_wp2_with fail
          go_roundw
          case rel => exact ⟨b + 1, i + 1, _, rfl, by go_num, Lib.hid (by have := hbi.out; omega), by omega, HW8.out, HB8.out, Lib.hid ⟨acc_upd _ _ _ _ _ _ _ _, hV.out.2.1, by have := hV.out.2.2; show V.cnt + 1 + 1 ≤ _; omega⟩⟩
          case measure => simp [intOf]; omega
        | false =>
          rw [hmy] at HG
          have hgt : b < 12 → mx * 8 < 4 * szf b + 4 * szf (b + 1) := by
            intro hb
            rcases Int.lt_or_le (mx * 8) (4 * szf b + 4 * szf (b + 1)) with h | h
            · exact h
            · exfalso
              have : mayf a0_0 a0_1 b = true := decide_eq_true (by have := HMX.out; have := HS.out; omega)
              rw [hmy] at this
              exact absurd this (by decide)
          clear hmy
          go_wp2_with fail
          refine (HG.out _ (Below.refl _ _)).mono ?_
          rintro e w4 ⟨rfl, K4⟩
          have HK4 := Lib.hid K4
          clear K4
          go_wp2_with fail
          refine (HG.out _ HK4.out).mono ?_
          rintro e w5 ⟨rfl, K5⟩
          have hB5 := HBr.out.trans ((below_then HK4.out K5).mono hsr)
          have HB5 := Lib.hid hB5
          clear K5 hB5
          by_cases hb : b < 12
          · have hgt' := hgt hb
            obtain ⟨e1, e2, e3⟩ := wd1 hb1 (by omega)
            obtain ⟨sp, hsp⟩ : ∃ sp, sp = 4 * szf b + 4 * szf (b + 1) := ⟨_, rfl⟩
            have hle : decide (sp ≤ 8 * mx) = false := decide_eq_false (by omega)
            have CW := Lib.hid (fun W => wordw8 b (b + 1) W)
            generalize wordf b (b + 1) = x at *
            have CSp := fun W => spotsw x W e3.1 e3.2
            rw [e2, ← hsp] at CSp
            have HSp := Lib.hid CSp
            have yb : IntKind.i64.wrap (b + 1) = b + 1 := IntWalk.i64_in _ (by omega)
            clear CSp hsp e1 e2 e3 z1 z2 z3 z4 hgt hgt'
            go_wp2_with fail
            refine (CW.out _).mono ?_
            rintro e w6 ⟨rfl, rfl⟩
            go_wp2_with fail
            refine (HSp.out _).mono ?_
            rintro e w6 ⟨rfl, K6⟩
            have hs5 := HB5.out.size
            have hB6 := HB5.out.trans (K6.mono hs5)
            have HB6 := Lib.hid hB6
            have d0 := Q0.out _ hB6
            have d1 := Q1.out _ hB6
            have d2 := Q2.out _ hB6
            have d3 := Q3.out _ hB6
            have d4 := Q4.out _ hB6
            clear K6 hB6
            go_wp2_with fail
            refine (HCM.out _).mono ?_
            rintro e w7 ⟨rfl, K7⟩
            have H7 := Lib.hid (HB6.out.trans (K7.mono HB6.out.size))
            clear K7 d0 d1 d2 d3 d4
            go_wp2_with fail
            refine (lives10 _).mono ?_
            rintro e w8 ⟨rfl, K8⟩
            have H8 := Lib.hid (HB.out.trans ((H7.out.trans (K8.mono H7.out.size)).mono hsW))
            clear K8
            go_wp2_with fail
            go_ret
            exact ⟨rfl, H8.out⟩
          · have hb' : decide (b < 12) = false := decide_eq_false hb
            have d0 := Q0.out _ HB5.out
            have d1 := Q1.out _ HB5.out
            have d2 := Q2.out _ HB5.out
            have d3 := Q3.out _ HB5.out
            have d4 := Q4.out _ HB5.out
            clear hgt z1 z2 z3 z4
            go_wp2_with fail
            refine (HCM.out _).mono ?_
            rintro e w7 ⟨rfl, K7⟩
            have H7 := Lib.hid (HB5.out.trans (K7.mono HB5.out.size))
            clear K7 d0 d1 d2 d3 d4
            go_wp2_with fail
            refine (lives10 _).mono ?_
            rintro e w8 ⟨rfl, K8⟩
            have H8 := Lib.hid (HB.out.trans ((H7.out.trans (K8.mono H7.out.size)).mono hsW))
            clear K8
            go_wp2_with fail
            go_ret
            exact ⟨rfl, H8.out⟩
end Go.Proofs.Ytmdofhdjikapgaa
