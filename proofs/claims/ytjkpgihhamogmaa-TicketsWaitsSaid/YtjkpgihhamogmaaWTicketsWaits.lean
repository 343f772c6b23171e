/- The law TicketsWaits. -/
import Derived.Test.YtjkpgihhamogmaaTi5
import Derived.Test.YtjkpgihhamogmaaOpen
namespace Go.Proofs.Ytjkpgihhamogmaa
open Go.RowKit Go.Maps
set_option linter.unusedVariables false
set_option maxHeartbeats 4000000 in
set_option maxRecDepth 100000 in
theorem walk_TicketsWaits (a0 : Int) (a1 : Int) (w : World) (w0 : (Lit.int .u8 a0).wf = true) (w1 : (Lit.int .u64 a1).wf = true) :
    Calls Try.prog 3 #[.int .u8 a0, .int .u64 a1] w fun e w' => e = .returned (.bool true) ∧ Below w.heap.size w w' := by
  obtain ⟨b1, b2⟩ := bounds_u8 w0
  obtain ⟨u1, u2⟩ := bounds_u64 w1
  have hF : isU a1 := ⟨u1, by omega⟩
  clear w0 w1
  obtain ⟨n, hn, hn31⟩ : ∃ n : Nat, a0 % 31 = (n : Int) ∧ n ≤ 30 := ⟨(a0 % 31).toNat, by omega, by omega⟩
  have ht : a0.tmod 31 = (n : Int) := by rw [Int.tmod_eq_emod_of_nonneg b1]; exact hn
  have hw8 : IntKind.u8.wrap (n : Int) = n := by simp [IntKind.wrap, IntKind.bits, IntKind.signed]; omega
  have hw64 : IntKind.u64.wrap (n : Int) = n := by rw [IntKind.wrap_u64]; omega
  have hadd : IntKind.u64.wrap (a1 + (n : Int)) = tkt a1 n := tkt_add a1 n
  obtain ⟨T, hT⟩ : ∃ T, T = tkt a1 n := ⟨_, rfl⟩
  have HTT := Lib.hid hT
  have HFF := Lib.hid hF
  rw [← hT] at hadd
  obtain ⟨G, hG⟩ : ∃ G : Nat → Prop, G = fun k => k < w.heap.size := ⟨_, rfl⟩
  have HGG := Lib.hid hG
  have HN31 := Lib.hid hn31
  clear hG hT hF
  go_enter Try.func3, Try.ntmps3
  go_wp2_with fail
  refine (begin11 _).mono ?_
  rintro e w1 ⟨A, rfl, hw1, k1⟩
  rw [← HGG.out] at hw1
  have c0 := hw1.box.c0
  have HW1 := Lib.hid hw1
  have K1 := Lib.hid k1
  clear hw1 k1
  go_wp2_with fail
  refine (gstore HW1.out (a := 0) ⟨by decide, by decide⟩ HFF.out (by decide)).mono ?_
  rintro e w2 ⟨rfl, hw2, kp2⟩
  have HW2 := Lib.hid hw2
  have KP2 := Lib.hid kp2
  replace c0 := hw2.box.c0
  clear hw2 kp2
  go_wp2_with fail
  refine (gstore HW2.out (a := 1) ⟨by decide, by decide⟩ HFF.out (by show V10.cnt + 1 < _; decide)).mono ?_
  rintro e w3 ⟨rfl, hw3, kp3⟩
  have hq1 : ∃ V, Tq1 G w3 A V a1 0 := ⟨_, hw3, by
    rw [tkt_0 HFF.out]
    show upd (upd V10.f 0 a1) 1 a1 0 = a1
    rw [upd_other (by decide)]; exact upd_same _ _ _, by show upd (upd V10.f 0 a1) 1 a1 1 = a1; exact upd_same _ _ _, rfl, rfl, rfl⟩
  have HQ1 := Lib.hid hq1
  have KP3 := Lib.hid (Kp.to KP2.out kp3)
  clear hw3 kp3 hq1 c0 KP2 HW2
  generalize V10.acc _ _ _ _ _ = Vx at *
  go_wp2_with fail
  go_loopw [7] (fun i X => ∃ k : Nat, k ≤ n ∧ i = .int .i64 k ∧ Hid (∃ V, Tq1 G X A V a1 k) ∧ Hid (Kp G w1 X)) (fun i _ => n - (intOf i).toNat)
  case atStart => exact ⟨0, Nat.zero_le _, rfl, HQ1, KP3⟩
  case round =>
    obtain ⟨k, hk, rfl, HV, HK⟩ := hrel
    clear HQ1 KP3
    by_cases hlt : k < n
    · obtain ⟨V, hV⟩ := HV.out
      have HV2 := Lib.hid hV
      clear hV
      go_wp2_with fail
      refine (newTake k (decide_eq_true ⟨by omega, by omega⟩) _).mono ?_
      rintro e w4 ⟨rfl, ho4, k4⟩
      have HO4 := Lib.hid (op_new HV2.out.wd ho4 k4)
      have HK4 := Lib.hid (Kp.to HK.out (Kp.of k4))
      clear ho4 k4
      generalize wr.heap.size = q at *
      go_wp2_with fail
      refine (HV2.out.step (by omega) HO4.out).mono ?_
      rintro e w5 ⟨rfl, hV5, k5⟩
      have HV5 := Lib.hid hV5
      have HK5 := Lib.hid (Kp.to HK4.out k5)
      clear hV5 k5
      go_wp2_with fail
      go_roundw
      case rel => exact ⟨k + 1, by omega, by go_num, HV5, HK5⟩
      case measure => simp [intOf]; omega
    · obtain rfl : k = n := by omega
      obtain ⟨V, hV⟩ := HV.out
      have HV2 := Lib.hid hV
      clear hV
      go_wp2_with fail
      refine (newTake 40 (by decide) _).mono ?_
      rintro e w4 ⟨rfl, ho4, k4⟩
      have HO4 := Lib.hid (op_new HV2.out.wd ho4 k4)
      have HK4 := Lib.hid (Kp.to HK.out (Kp.of k4))
      clear ho4 k4
      generalize wr.heap.size = x at *
      go_wp2_with fail
      refine (HV2.out.last (by omega) HFF.out HO4.out).mono ?_
      rintro e w5 ⟨rfl, ⟨V5, hV5⟩, k5⟩
      have HV5 := Lib.hid hV5
      have HK5 := Lib.hid (Kp.to HK4.out k5)
      have b48 : w5.cell? ⟨A.p, 48, none⟩ = some (.int .u64 (tkt a1 (k + 1))) := by
        have := hV5.op.box.ct 40 (by decide)
        rw [hV5.t40] at this
        exact this
      have CG := tk_got hV5.op.ob
      rw [← HTT.out] at CG
      have CG2 := Lib.hid CG
      clear hV5 k5 CG HV2 HO4 HK4 HV HK
      go_wp2_with fail
      refine CG2.out.mono ?_
      rintro e w6 ⟨rfl, rfl⟩
      by_cases h0 : tkt a1 (k + 1) = 0
      · have htop : T = 18446744073709551615 := by rw [HTT.out]; exact tkt_top h0
        rw [h0] at b48
        subst htop
        go_wp2_with (go_at_call 11; refine (lives11 _).mono ?_; rintro e w7 ⟨rfl, k7⟩)
        go_ret
        have hk := Kp.to HK5.out (Kp.of k7)
        rw [HGG.out] at hk
        exact ⟨rfl, K1.out.trans (Kp.below hk K1.out.size)⟩
      · have h0b : (tkt a1 (k + 1) == 0) = false := by simpa using h0
        have H0B := Lib.hid h0b
        go_wp2_with fail
        clear b48 h0b h0
        go_loopw [12] (fun i X => ∃ j : Nat, j ≤ k ∧ i = .int .i64 j ∧ Hid (∃ V, Tq2 G X A V x a1 k j) ∧ Hid (Kp G w1 X)) (fun i _ => k - (intOf i).toNat)
        case atStart => exact ⟨0, Nat.zero_le _, rfl, Lib.hid ⟨V5, HV5.out⟩, HK5⟩
        case round =>
          obtain ⟨j, hj, rfl, HV, HK⟩ := hrel
          obtain ⟨V, hV⟩ := HV.out
          have HVV := Lib.hid hV
          clear hV HV5 HK5 HV
          by_cases hlt2 : j < k
          · go_wp2_with fail
            refine (HVV.out.wt H0B.out (b := true) (by simpa using tkt_ne hlt2 (by have := HN31.out; omega))).mono ?_
            rintro e w7 ⟨rfl, k7⟩
            have hV7 := HVV.out.new k7
            have HK7 := Lib.hid (Kp.to HK.out (Kp.of k7))
            obtain ⟨c, hc⟩ : ∃ c, V.cnt = c := ⟨_, rfl⟩
            have hcr := hV7.cnt
            rw [hc] at hcr
            have hcw : IntKind.i64.wrap (c + 1) = c + 1 := IntWalk.i64_in _ (by have := HN31.out; omega)
            have c0 := hV7.op.box.c0
            have CS := Lib.hid (hV7.op.steps hc)
            have CP := Lib.hid (hV7.op.peekv (a := 0) ⟨by decide, by decide⟩ hV7.f0)
            have HV7 := Lib.hid hV7
            have HC := Lib.hid hc
            clear hV7 k7 hc HVV HK
            go_wp2_with fail
            refine CS.out.mono ?_
            rintro e w8 ⟨rfl, rfl⟩
            go_wp2_with fail
            refine CP.out.mono ?_
            rintro e w8 ⟨rfl, rfl⟩
            go_wp2_with fail
            refine (HV7.out.miss hlt2 (by have := HN31.out; omega)).mono ?_
            rintro e w9 ⟨rfl, ⟨V', ho, ef, etk, ec, eh, ek⟩, k9⟩
            have CS2 := Lib.hid (ho.steps (c := c + 1) (by rw [ec, HC.out]))
            have CL := Lib.hid (ho.last ek)
            have HO := Lib.hid ho
            have HK9 := Lib.hid (Kp.to HK7.out k9)
            have HE := Lib.hid (show V'.f 0 = tkt a1 (k + 1) ∧ V'.f 1 = tkt a1 j ∧ V'.tk 40 = tkt a1 (k + 1) ∧ V'.cnt = c + 1 ∧ V'.h = -1 from ⟨by rw [ef]; exact HV7.out.f0, by rw [ef]; exact HV7.out.f1, by rw [etk]; exact HV7.out.t40, by rw [ec, HC.out], by rw [eh]; exact HV7.out.h⟩)
            replace c0 := ho.box.c0
            have hfl : ∀ W, (Instr.field 46 (.agg #[.int .u8 1, .int .u64 V'.a, .int .u64 V'.x, .int .u64 V'.y]) 0).run Try.prog W = .ok (.int .u8 1) W := fun W => by kernel_rfl
            clear ho ef etk ec eh ek k9 CS CP HK7 HV7 HC
            go_wp2_with fail
            refine CS2.out.mono ?_
            rintro e w10 ⟨rfl, rfl⟩
            go_wp2_with fail
            refine CL.out.mono ?_
            rintro e w11 ⟨rfl, k11⟩
            have ho11 := HO.out.new k11
            have HK11 := Lib.hid (Kp.to HK9.out (Kp.of k11))
            replace c0 := ho11.box.c0
            have e72 : w11.cell? ⟨A.p, 72, none⟩ = some (.int .i64 (-1)) := by
              have := ho11.box.ch
              rw [HE.out.2.2.2.2] at this
              exact this
            have CP2 := Lib.hid (ho11.peekv (a := 0) ⟨by decide, by decide⟩ HE.out.1)
            have HO11 := Lib.hid ho11
            clear k11 ho11 CS2 CL HO HK9
            go_wp2_with fail
            refine CP2.out.mono ?_
            rintro e w12 ⟨rfl, rfl⟩
            go_wp2_with fail
            refine (newGive _).mono ?_
            rintro e w13 ⟨rfl, hg13, k13⟩
            have HG13 := Lib.hid (op_new HO11.out.wdG hg13 k13)
            have HX13 := Lib.hid (HO11.out.ob.new k13)
            have HK13 := Lib.hid (Kp.to HK11.out (Kp.of k13))
            have HGX := Lib.hid (show ¬ G x by obtain ⟨S, h1, h2, h3, h4, h5, h6⟩ := HO11.out; exact h5)
            clear hg13 k13 c0 e72 hfl CP2 HK11
            generalize w11.heap.size = g at *
            go_wp2_with fail
            refine (tq_give HG13.out (by rw [HE.out.2.2.2.1]; have := HN31.out; omega) HE.out.2.1).mono ?_
            rintro e w14 ⟨rfl, ⟨V'', hwd, g0, g1, gt, gc, gh⟩, k14⟩
            have hx14 := HX13.out.keep k14 (fun m => m (.inr rfl))
            have HF14 := Lib.hid (show ∃ V, Tq2 G w14 A V x a1 k (j + 1) from ⟨V'', Opw.of hwd hx14 HGX.out, by rw [g0]; exact HE.out.1, g1, by rw [gt]; exact HE.out.2.2.1, by rw [gc, HE.out.2.2.2.1]; constructor <;> omega, gh⟩)
            have HK14 := Lib.hid (Kp.to HK13.out (Kp.less k14 (fun k g => .inl g)))
            clear hwd g0 g1 gt gc gh k14 hx14
            go_wp2_with fail
            go_roundw
            case rel => exact ⟨j + 1, by omega, by go_num, HF14, HK14⟩
            case measure => simp [intOf]; omega
          · obtain rfl : j = k := by omega
            go_wp2_with fail
            refine (HVV.out.wt H0B.out (b := false) (by simp)).mono ?_
            rintro e w7 ⟨rfl, k7⟩
            have HV7 := Lib.hid (HVV.out.new k7)
            have HK7 := Lib.hid (Kp.to HK.out (Kp.of k7))
            clear k7 HVV HK
            go_wp2_with fail
            refine (HV7.out.hit (by have := HN31.out; omega)).mono ?_
            rintro e w8 ⟨rfl, ⟨e72, e48⟩, k8⟩
            have HK8 := Lib.hid (Kp.to HK7.out k8)
            clear k8 HK7 HV7
            go_wp2_with (go_at_call 11; refine (lives11 _).mono ?_; rintro e w9 ⟨rfl, k9⟩)
            go_ret
            have hk := Kp.to HK8.out (Kp.of k9)
            rw [HGG.out] at hk
            exact ⟨rfl, K1.out.trans (Kp.below hk K1.out.size)⟩
end Go.Proofs.Ytjkpgihhamogmaa
