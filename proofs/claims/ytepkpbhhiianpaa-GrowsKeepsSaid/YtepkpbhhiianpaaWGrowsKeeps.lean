/- The law GrowsKeeps. -/
import Derived.Test.YtepkpbhhiianpaaGk
import Derived.Deep.Cut
import Derived.Deep.CutBlock
import Derived.Deep.QuietTactic
import Derived.BigQuiet
namespace Go.Proofs.Ytepkpbhhiianpaa
open Go.RowKit Go.Maps
set_option linter.unusedVariables false
set_option maxHeartbeats 8000000 in
set_option maxRecDepth 100000 in
theorem walk_GrowsKeeps (a0 : ByteArray) (a1 : Int) (w : World) (w0 : a0.size ≤ maxLen) (w1 : (Lit.int .u8 a1).wf = true) :
    Calls Try.prog 5 #[.string a0, .int .u8 a1] w fun e w' => e = .returned (.bool true) ∧ Below w.heap.size w w' := by
  have q1 := bounds_u8 w1
  obtain ⟨tm, htm⟩ : ∃ tm, a1.tmod 11 = tm := ⟨_, rfl⟩
  obtain ⟨n, hn⟩ : ∃ n, 1 + tm = n := ⟨_, rfl⟩
  have hnr : 1 ≤ n ∧ n ≤ 11 := by rw [Int.tmod_eq_emod_of_nonneg q1.1] at htm; omega
  have y0 : IntKind.i64.wrap a1 = a1 := IntWalk.i64_in _ (by omega)
  have y1 : IntKind.i64.wrap tm = tm := IntWalk.i64_in _ (by omega)
  have y2 : IntKind.i64.wrap (1 + tm) = n := by rw [IntWalk.i64_in _ (by omega)]; exact hn
  have HN := Lib.hid hnr
  have CW := Lib.hid (fun X => worldN n ⟨hnr.1, by omega⟩ X)
  have CH := Lib.hid (fun X => hash a0 X w0)
  have hz : isU (hsl a0.data.toList) := by exact hsl_UK _
  generalize hsl a0.data.toList = z at *
  have HZ := Lib.hid hz
  have HS0 := Lib.hid w0
  clear w0 w1 q1 hn hz hnr
  go_enter Try.func5, Try.ntmps5
  go_upto_region 3 with (go_at_call 7; ((with_reducible refine (CW.out _).mono ?_); rintro e w1 ⟨A, rfl, hW, hb1⟩; have HW1 := Lib.hid (hW.g hb1.size); have HB1 := Lib.hid hb1; clear hW hb1))
  clear y0 y1 y2 htm
  by_cases h2000 : 2000 < a0.size
  · have d0 : decide ((2000 : Int) < (a0.size : Int)) = true := decide_eq_true (by omega)
    clear h2000
    go_wp2_with (go_at_call 26; refine (lives19 _).mono ?_; rintro e w9 ⟨rfl, hk9⟩)
    go_ret
    exact ⟨rfl, below_then HB1.out hk9⟩
  have d0 : decide ((2000 : Int) < (a0.size : Int)) = false := decide_eq_false (by omega)
  clear h2000
  go_upto_region 6 with (go_at_call 27; ((with_reducible refine (CH.out _).mono ?_); rintro e w2 ⟨rfl, hb2⟩; have HW2 := Lib.hid (HW1.out.new hb2); have HK2 := Lib.hid (Kp.of (G := fun k => k < w.heap.size) hb2); clear hb2))
  clear d0
  obtain ⟨L1, hL1⟩ : ∃ L1, L1 = placesF z n := ⟨_, rfl⟩
  obtain ⟨L3, hL3⟩ : ∃ L3, L3 = placesF z (n + 1) := ⟨_, rfl⟩
  have hp1 := places_one z n ⟨HN.out.1, by have := HN.out; omega⟩
  have hp3 := places_one z (n + 1) ⟨by have := HN.out; omega, by have := HN.out; omega⟩
  have hp2 := places_two z n HN.out
  rw [← hL1] at hp1 hp2
  rw [← hL3] at hp3 hp2
  have cA := allK HW2.out HZ.out (t := n) (show upd (fun _ => 0) 2 n 2 = n from upd_same _ _ _)
  rw [← hL1] at cA
  have CA := Lib.hid (cA.mono fun e w' h => clp_at h hp1.1)
  obtain ⟨m1, hm1⟩ : ∃ m1, m1 = L1.length := ⟨_, rfl⟩
  rw [← hm1] at CA
  have HM1 := Lib.hid hm1
  have HL1 := Lib.hid hL1
  have HL3 := Lib.hid hL3
  have HP1 := Lib.hid hp1
  have HP2 := Lib.hid hp2
  have HP3 := Lib.hid hp3
  clear cA hL1 hL3 hp1 hp2 hp3 hm1
  go_upto_region 7 with (go_at_call 28; ((with_reducible refine CA.out.mono ?_); rintro e w3 ⟨g1, rfl, hA1, lg1, hb3⟩; have HA1 := Lib.hid hA1; have hw3 := HW2.out.addN hb3; have HG1 := Lib.hid (And.intro lg1 hA1.1); have HK3 := Lib.hid (Kp.to HK2.out (Kp.of hb3)); clear hA1 hb3 lg1))
  obtain ⟨G3, hG3⟩ : ∃ G3 : Nat → Prop, G3 = fun k => k < w.heap.size ∨ (w2.heap.size ≤ k ∧ k < w3.heap.size) := ⟨_, rfl⟩
  rw [← hG3] at hw3
  have HG3 := Lib.hid (show G3 g1 ∧ ∀ k, k < w.heap.size → G3 k by rw [hG3]; exact ⟨.inr HG1.out, fun k h => .inl h⟩)
  have c0 := hw3.box.c0
  have cp := gpeek hw3 (a := 2) ⟨by decide, by decide⟩
  rw [show (V0 ⟨n, 8, 3, 1, 16⟩).f 2 = n from (show upd (fun _ => 0) 2 n 2 = n from upd_same _ _ _)] at cp
  have CP := Lib.hid cp
  have HW3 := Lib.hid hw3
  obtain ⟨t, ht⟩ : ∃ t, t = wordf n (n + 1) := ⟨_, rfl⟩
  have hto := asO_two HN.out
  rw [← ht] at hto
  have htU : isU t := by rw [ht]; have := HN.out; unfold wordf; exact ⟨by omega, by omega⟩
  have hn1 := asO_one (b := n) ⟨HN.out.1, by have := HN.out; omega⟩
  have CN := Lib.hid (fun X => newGrow n X ⟨by have := HN.out; omega, by have := HN.out; omega⟩ hn1.2 hn1.1 (by have := HN.out; omega))
  have CS := Lib.hid (fun X => newSwap t X htU hto.2 hto.1 (by have := HN.out; omega))
  have HT := Lib.hid (And.intro ht htU)
  clear cp hw3 hto htU hn1 ht CA hG3 HG1 HW2 HK2
  go_upto_region 8 with (first
    | (go_at_call 12; ((with_reducible refine CP.out.mono ?_); rintro e w4 ⟨rfl, rfl⟩))
    | (go_at_call 21; ((with_reducible refine (CN.out _).mono ?_); rintro e w4 ⟨q, b, rfl, hq, hb, hs, lq, lb, hqb, k4⟩; have CR := Lib.hid (gwRun HW3.out k4 hq hb hs lq lb hqb (t := t) (show (0 : Int) < 100000000 by decide) (show 0 ≤ 1000000 by decide) HT.out.1.symm HT.out.2); have HK4 := Lib.hid (Kp.to HK3.out (Kp.of k4)); have HA4 := Lib.hid (HA1.out.new k4); clear c0 hq hb hs lq lb hqb k4))
    | (go_at_call 20; ((with_reducible refine CR.out.mono ?_); rintro e w5 ⟨rfl, V5, hW5, ⟨f2, f3, fc, fh, fg, fM⟩, K5⟩; have HW5 := Lib.hid hW5; have HA5 := Lib.hid (HA4.out.keep K5 (fun n => n HG3.out.1)); have HK5 := Lib.hid (Kp.to HK4.out (K5.less HG3.out.2)); have cA := allK hW5 HZ.out (t := t) f2; have HF5 := Lib.hid (And.intro f2 (And.intro (show V5.cnt ≤ 10 by rw [fc]; show (0 : Int) + 2 ≤ 10; decide) (show V5.M.length ≤ 10 by rw [fM]; have := addL_len19 (V0 ⟨n, 8, 3, 1, 16⟩).M ((V0 ⟨n, 8, 3, 1, 16⟩).cnt + 2, (V0 ⟨n, 8, 3, 1, 16⟩).h, 4, 0, 0, 0, 0, n + 1); have e0 : (V0 ⟨n, 8, 3, 1, 16⟩).M.length = 0 := rfl; omega))); clear hW5 f2 f3 fc fh fg fM K5 CR)))
  rw [HT.out.1, HP2.out] at cA
  have CA := Lib.hid (cA.mono fun e w' h => clp_at h (by have := HP1.out.1; rw [List.length_append]; omega))
  obtain ⟨m3, hm3⟩ : ∃ m3, m3 = L3.length := ⟨_, rfl⟩
  rw [List.length_append, ← HM1.out, ← hm3] at CA
  have HM3 := Lib.hid hm3
  clear cA hm3
  go_upto_region 9 with (go_at_call 28; ((with_reducible refine CA.out.mono ?_); rintro e w6 ⟨g2, rfl, hA2, lg2, hb6⟩; have HA2 := Lib.hid hA2; have HA6 := Lib.hid (HA5.out.new hb6); have hw6 := HW5.out.addN hb6; have HG2 := Lib.hid (And.intro lg2 hA2.1); have HK6 := Lib.hid (Kp.to HK5.out (Kp.of hb6)); clear hA2 hb6 lg2))
  obtain ⟨G6, hG6⟩ : ∃ G6 : Nat → Prop, G6 = fun k => G3 k ∨ (w5.heap.size ≤ k ∧ k < w6.heap.size) := ⟨_, rfl⟩
  rw [← hG6] at hw6
  have HG6 := Lib.hid (show (G6 g1 ∧ G6 g2) ∧ ∀ k, k < w.heap.size → G6 k by rw [hG6]; exact ⟨⟨.inl HG3.out.1, .inr HG2.out⟩, fun k h => .inl (HG3.out.2 k h)⟩)
  have c0 := hw6.box.c0
  have cp := gpeek hw6 (a := 2) ⟨by decide, by decide⟩
  rw [HF5.out.1] at cp
  have CP := Lib.hid cp
  have HW6 := Lib.hid hw6
  clear cp hw6 CA hG6 HG2 HW5 HK5
  go_upto_region 10 with (first
    | (go_at_call 12; ((with_reducible refine CP.out.mono ?_); rintro e w7 ⟨rfl, rfl⟩))
    | (go_at_call 18; ((with_reducible refine (CS.out _).mono ?_); rintro e w7 ⟨q, b, rfl, hq, hb, hs, lq, lb, hqb, k7⟩; have CR := Lib.hid (swRun HW6.out k7 hq hb hs lq lb hqb (t := n + 1) (by have := HF5.out; omega) (by have := HF5.out; omega) (by have := HN.out; unfold wordf; omega) ⟨by have := HN.out; omega, by have := HN.out; omega⟩); have HK7 := Lib.hid (Kp.to HK6.out (Kp.of k7)); have HA7 := Lib.hid (And.intro (HA6.out.new k7) (HA2.out.new k7)); clear c0 hq hb hs lq lb hqb k7))
    | (go_at_call 20; ((with_reducible refine CR.out.mono ?_); rintro e w8 ⟨rfl, V8, hW8, ⟨f2, f3, fc, fh, fg, fM⟩, K8⟩; have HA8 := Lib.hid (And.intro (HA7.out.1.keep K8 (fun n => n HG6.out.1.1)) (HA7.out.2.keep K8 (fun n => n HG6.out.1.2))); have HK8 := Lib.hid (Kp.to HK7.out (K8.less HG6.out.2)); have cA := allK hW8 HZ.out (t := n + 1) f2; clear hW8 f2 f3 fc fh fg fM K8 CR)))
  rw [← HL3.out] at cA
  have CA := Lib.hid (cA.mono fun e w' h => clp_at h HP3.out.1)
  rw [← HM3.out] at CA
  clear cA
  go_upto_region 11 with (go_at_call 28; ((with_reducible refine CA.out.mono ?_); rintro e w9 ⟨g3, rfl, hA3, lg3, hb9⟩; have HA9 := Lib.hid (And.intro (HA8.out.1.new hb9) (And.intro (HA8.out.2.new hb9) hA3)); have HB9 := Lib.hid (HB1.out.trans (Kp.below (Kp.to HK8.out (Kp.of hb9)) HB1.out.size)); clear hA3 hb9 lg3))
  have hm1 : 1 ≤ m1 ∧ m1 ≤ 2 := by have := HM1.out; have := HP1.out; omega
  have hm3 : 1 ≤ m3 ∧ m3 ≤ 2 := by have := HM3.out; have := HP3.out; omega
  have e1 : ((m1 : Int) == 0) = false := by simp; omega
  have e3 : ((m3 : Int) == 0) = false := by simp; omega
  have p1 : 0 < m1 := by omega
  have p3 : 0 < m3 := by omega
  obtain ⟨m2, hm2⟩ : ∃ m2, m2 = m1 + m3 := ⟨_, rfl⟩
  have e2 : IntKind.i64.wrap ((m1 : Int) + (m3 : Int)) = ((m1 + m3 : Nat) : Int) := by rw [IntWalk.i64_in _ (by omega)]; omega
  rw [← hm2] at e2 ⊢
  have HM := Lib.hid (And.intro hm1 (And.intro hm3 hm2))
  clear hm1 hm3 hm2 CA
  go_wp2_with fail
  clear e1 e2 e3
  go_loopw [11] (fun i X => ∃ k : Nat, k ≤ m2 ∧ i = .int .i64 k ∧ Below w9.heap.size w9 X) (fun i _ => m2 - (intOf i).toNat)
  case atStart => exact ⟨0, Nat.zero_le _, rfl, Below.refl _ _⟩
  case round =>
    obtain ⟨k, hk, rfl, hb⟩ := hrel
    have HB := Lib.hid hb
    obtain ⟨a1, a2, a3⟩ := HA9.out
    have HX := Lib.hid (And.intro (a1.new hb) (And.intro (a2.new hb) (a3.new hb)))
    clear a1 a2 a3 hb
    by_cases hlt : k < m2
    · have HLT := Lib.hid hlt
      have hk4 : k < 4 := by have := HM.out; omega
      have j0 : (0 : Int) ≤ (k : Int) := by omega
      have j2 : (k : Int) < (m2 : Int) := by omega
      by_cases hk1 : k < m1
      · obtain ⟨⟨b, kk⟩, hx⟩ : ∃ x, L1[k]? = some x := ⟨_, List.getElem?_eq_getElem (by have := HM1.out; omega)⟩
        obtain ⟨c0, c1⟩ := HX.out.1.2 k b kk hx
        obtain ⟨d0, d1⟩ := HX.out.2.1.2 k b kk (by rw [List.getElem?_append_left (by have := HM1.out; omega)]; exact hx)
        have t1 : decide ((k : Int) < (m1 : Int)) = true := decide_eq_true (by omega)
        have t3 : decide (k < m1) = true := decide_eq_true (by omega)
        have t4 : decide (m1 ≤ k) = false := decide_eq_false (by omega)
        have t2 : decide ((m1 : Int) ≤ (k : Int)) = false := decide_eq_false (by omega)
        have j1 : (k : Int) < (m1 : Int) := by omega
        have nb : (b != b) = false := by simp
        have nk : (kk != kk) = false := by simp
        clear hx hk1
        go_wp2_with fail
        go_quiet (fail)
        clear c0 c1 d0 d1 t1 t2 t3 t4 j1 nb nk
        go_wp2_with fail
        go_roundw
        case rel => exact ⟨k + 1, by have := HLT.out; omega, by go_num, belowWd HB.out _⟩
        case measure => have := HLT.out; simp [intOf]; omega
      · obtain ⟨j, hj⟩ : ∃ j : Nat, k = m1 + j := ⟨k - m1, by omega⟩
        obtain ⟨⟨b, kk⟩, hx⟩ : ∃ x, L3[j]? = some x := ⟨_, List.getElem?_eq_getElem (by have := HM3.out; have := HM.out; omega)⟩
        obtain ⟨c0, c1⟩ := HX.out.2.2.2 j b kk hx
        obtain ⟨d0, d1⟩ := HX.out.2.1.2 k b kk (by rw [List.getElem?_append_right (by have := HM1.out; omega), show k - L1.length = j by have := HM1.out; omega]; exact hx)
        have t1 : decide ((k : Int) < (m1 : Int)) = false := decide_eq_false (by omega)
        have t3 : decide (k < m1) = false := decide_eq_false (by omega)
        have t4 : decide (m1 ≤ k) = true := decide_eq_true (by omega)
        have t2 : decide ((m1 : Int) ≤ (k : Int)) = true := decide_eq_true (by omega)
        have ys : IntKind.i64.wrap ((k : Int) - (m1 : Int)) = (j : Int) := by rw [IntWalk.i64_in _ (by have := HM.out; omega)]; omega
        have i0 : (0 : Int) ≤ (j : Int) := by omega
        have i1 : (j : Int) < (m3 : Int) := by have := HM.out; omega
        have nb : (b != b) = false := by simp
        have nk : (kk != kk) = false := by simp
        have HJ := Lib.hid hj
        clear hx hk1 hj
        go_wp2_with fail
        go_quiet (fail)
        clear c0 c1 d0 d1 t1 t2 t3 t4 ys i0 i1 nb nk
        go_wp2_with fail
        go_roundw
        case rel => exact ⟨k + 1, by have := HLT.out; omega, by go_num, belowWd HB.out _⟩
        case measure => have := HLT.out; simp [intOf]; omega
    · obtain rfl : k = m2 := by omega
      obtain ⟨⟨b1, k1⟩, hx1⟩ : ∃ x, L1[0]? = some x := ⟨_, List.getElem?_eq_getElem HP1.out.1⟩
      obtain ⟨⟨b3, k3⟩, hx3⟩ : ∃ x, L3[0]? = some x := ⟨_, List.getElem?_eq_getElem HP3.out.1⟩
      obtain rfl : b1 = n := HP1.out.2.2 _ (List.mem_of_getElem? hx1)
      obtain rfl : b3 = b1 + 1 := HP3.out.2.2 _ (List.mem_of_getElem? hx3)
      obtain ⟨c0, -⟩ := HX.out.1.2 0 _ _ hx1
      obtain ⟨d0, -⟩ := HX.out.2.2.2 0 _ _ hx3
      have HBX := Lib.hid (below_then HB9.out HB.out)
      have dl : decide ((k : Int) < (k : Int)) = false := decide_eq_false (by omega)
      have ys : IntKind.i64.wrap (b1 + 1) = b1 + 1 := IntWalk.i64_in _ (by have := HN.out; omega)
      clear hx1 hx3 hlt hk
      go_wp2_with (go_at_call 26; refine (lives19 _).mono ?_; rintro e w10 ⟨rfl, hk10⟩)
      go_ret
      exact ⟨rfl, below_then HBX.out hk10⟩
end Go.Proofs.Ytepkpbhhiianpaa
