/- Growths and swaps of tables: the examples of chapter 19. -/
import Derived.Test.YtepkpbhhiianpaaGw3
namespace Go.Proofs.Ytepkpbhhiianpaa
open Go.RowKit Go.Maps
set_option linter.unusedVariables false
theorem asO_one {b : Int} (h : 1 ≤ b ∧ b ≤ 12) : asO b = b ∧ asN b = 0 := by
  have e : b % 256 = b := by omega
  have ho : asO b = b := by unfold asO; rw [e, if_pos h]
  refine ⟨ho, ?_⟩
  unfold asN
  rw [ho, if_neg (by omega)]
theorem asO_two {b : Int} (h : 1 ≤ b ∧ b ≤ 11) : asO (wordf b (b + 1)) = b ∧ asN (wordf b (b + 1)) = b + 1 := by
  have hw : wordf b (b + 1) = b + (b + 1) * 256 := by unfold wordf; omega
  have e : (b + (b + 1) * 256) % 256 = b := by omega
  have e2 : (b + (b + 1) * 256) / 256 % 256 = b + 1 := by omega
  have ho : asO (b + (b + 1) * 256) = b := by unfold asO; rw [e, if_pos ⟨h.1, by omega⟩]
  rw [hw]
  refine ⟨ho, ?_⟩
  unfold asN
  rw [ho, e2, if_pos ⟨rfl, by omega⟩]
theorem addL_len19 (L : List Nv) (x : Nv) : (addL L x).length ≤ L.length + 1 := by
  unfold addL
  split <;> simp
set_option maxHeartbeats 2000000 in
set_option maxRecDepth 100000 in
theorem lives19 (w : World) : Calls Try.prog 26 #[] w fun e w' => e = .returned (.bool true) ∧ Below w.heap.size w w' := by
  have CN := Lib.hid (fun X => newGrow 2 X ⟨by decide, by decide⟩ (o := 2) (by decide) (by decide) (by decide))
  have CS := Lib.hid (fun X => newSwap 770 X ⟨by decide, by decide⟩ (o := 2) (n := 3) (by decide) (by decide) (by decide))
  have N1 := Lib.hid (fun X => newGrow_no 770 X ⟨by decide, by decide⟩ (.inl (by decide)))
  have N2 := Lib.hid (fun X => newSwap_no 3 X ⟨by decide, by decide⟩ (by decide))
  have N3 := Lib.hid (fun X => newGrow_no 12 X ⟨by decide, by decide⟩ (.inr (by decide)))
  have CW := Lib.hid (fun X => worldN 2 ⟨by decide, by decide⟩ X)
  go_enter Try.func26, Try.ntmps26
  go_wp2_with fail
  refine (CW.out _).mono ?_
  rintro e w1 ⟨A, rfl, hW1, K1⟩
  have g1 := hW1.g K1.size
  have HK1 := Lib.hid K1
  have HG1 := Lib.hid g1
  clear hW1 K1 g1
  go_wp2_with fail
  refine (CN.out _).mono ?_
  rintro e w2 ⟨q, b, rfl, hq, hb, hs, lq, lb, hqb, k2⟩
  have CR := Lib.hid (gwRun HG1.out k2 hq hb hs lq lb hqb (t := 770) (by decide) (by decide) (by decide) ⟨by decide, by decide⟩)
  have HK2 := Lib.hid (Kp.of (G := fun k => k < w.heap.size) k2)
  clear hq hb hs lq lb hqb k2
  go_wp2_with fail
  refine CR.out.mono ?_
  rintro e w3 ⟨rfl, V3, hW3, ⟨f2, f3, fc, fh, fg, fM⟩, K3⟩
  clear CR
  have c0 := hW3.box.c0
  have cp := gpeek hW3 (a := 2) ⟨by decide, by decide⟩
  rw [f2] at cp
  have CP := Lib.hid cp
  have HW3 := Lib.hid hW3
  have HV3 := Lib.hid (show V3.cnt ≤ 10 ∧ V3.M.length ≤ 10 by
    refine ⟨by rw [fc]; decide, ?_⟩
    rw [fM]
    have := addL_len19 (V0 ⟨2, 8, 3, 1, 16⟩).M ((V0 ⟨2, 8, 3, 1, 16⟩).cnt + 2, (V0 ⟨2, 8, 3, 1, 16⟩).h, 4, 0, 0, 0, 0, 2 + 1)
    have e0 : (V0 ⟨2, 8, 3, 1, 16⟩).M.length = 0 := rfl
    omega)
  have HF3 := Lib.hid f3
  have HK3 := Lib.hid (Kp.to HK2.out K3)
  clear hW3 f2 f3 fc fh fg fM K3 cp
  go_wp2_with fail
  refine CP.out.mono ?_
  rintro e w4 ⟨rfl, rfl⟩
  clear c0 CP
  go_wp2_with fail
  refine (CS.out _).mono ?_
  rintro e w5 ⟨q, b, rfl, hq, hb, hs, lq, lb, hqb, k5⟩
  have CR := Lib.hid (swRun HW3.out k5 hq hb hs lq lb hqb (t := 3) (by have := HV3.out; omega) (by have := HV3.out; omega) (by decide) ⟨by decide, by decide⟩)
  have HK5 := Lib.hid (Kp.to HK3.out (Kp.of k5))
  clear hq hb hs lq lb hqb k5
  go_wp2_with fail
  refine CR.out.mono ?_
  rintro e w6 ⟨rfl, V6, hW6, ⟨f2, f3, fc, fh, fg, fM⟩, K6⟩
  clear CR
  have c0 := hW6.box.c0
  have cp := gpeek hW6 (a := 2) ⟨by decide, by decide⟩
  rw [f2] at cp
  have CP := Lib.hid cp
  have cp3 := gpeek hW6 (a := 3) ⟨by decide, by decide⟩
  rw [f3, HF3.out] at cp3
  have CP3 := Lib.hid cp3
  have HK6 := Lib.hid (HK1.out.trans (Kp.below (Kp.to HK5.out K6) HK1.out.size))
  clear hW6 f2 f3 fc fh fg fM K6 cp cp3
  go_wp2_with fail
  refine CP3.out.mono ?_
  rintro e w7 ⟨rfl, rfl⟩
  go_wp2_with fail
  refine CP.out.mono ?_
  rintro e w7 ⟨rfl, rfl⟩
  clear c0
  go_wp2_with fail
  refine (N1.out _).mono ?_
  rintro e w8 ⟨q, rfl, hq, hs, lq, k8⟩
  have CO := Lib.hid (gov_t hq)
  have HK8 := Lib.hid (below_then HK6.out k8)
  clear hq hs lq k8
  go_wp2_with fail
  refine CO.out.mono ?_
  rintro e w9 ⟨rfl, rfl⟩
  clear CO
  go_wp2_with fail
  refine (N2.out _).mono ?_
  rintro e w9 ⟨q, rfl, hq, hs, lq, k9⟩
  have CO := Lib.hid (sov_t hq)
  have HK9 := Lib.hid (below_then HK8.out k9)
  clear hq hs lq k9
  go_wp2_with fail
  refine CO.out.mono ?_
  rintro e w10 ⟨rfl, rfl⟩
  clear CO
  go_wp2_with fail
  refine (N3.out _).mono ?_
  rintro e w10 ⟨q, rfl, hq, hs, lq, k10⟩
  have CO := Lib.hid (gov_t hq)
  have HK10 := Lib.hid (below_then HK9.out k10)
  clear hq hs lq k10
  go_wp2_with fail
  refine CO.out.mono ?_
  rintro e w11 ⟨rfl, rfl⟩
  clear CO
  go_wp2_with fail
  go_ret
  exact ⟨rfl, HK10.out⟩
end Go.Proofs.Ytepkpbhhiianpaa
