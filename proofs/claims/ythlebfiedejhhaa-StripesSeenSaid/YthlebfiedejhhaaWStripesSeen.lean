/- The law StripesSeen. -/
import Derived.Test.YthlebfiedejhhaaSv2
import Derived.Deep.Cut
import Derived.Deep.CutBlock
import Derived.Deep.RegionHeld3
import Derived.Deep.QuietTactic
import Derived.BigQuiet
namespace Go.Proofs.Ythlebfiedejhhaa
open Go.RowKit Go.Maps
set_option linter.unusedVariables false
set_option maxHeartbeats 8000000 in
set_option maxRecDepth 100000 in
theorem walk_StripesSeen (a0 : Option Addr) (l0 c0 : Nat) (a1 : Int) (a2 : Option Addr) (l2 c2 : Nat) (w : World) (w0 : Reads Try.prog w 50 (.slice a0 l0 c0)) (w1 : (Lit.int .u8 a1).wf = true) (w2 : Reads Try.prog w 22 (.slice a2 l2 c2)) :
    Calls Try.prog 4 #[.slice a0 l0 c0, .int .u8 a1, .slice a2 l2 c2] w fun e w' => e = .returned (.bool true) ∧ Below w.heap.size w w' := by
  obtain ⟨hm0, b0, o0, p0, lay0⟩ := reads_tri (e := 60) Try.underlying50 (by kernel_rfl) (by kernel_rfl) w0
  obtain ⟨hm2, b2, o2, p2, lay2⟩ := reads_bytesX (e := 5) Try.underlying22 (by kernel_rfl) (by kernel_rfl) w2
  have q1 := bounds_u8 w1
  obtain ⟨tm, htm⟩ : ∃ tm, a1.tmod 12 = tm := ⟨_, rfl⟩
  obtain ⟨n, hn⟩ : ∃ n, 1 + tm = n := ⟨_, rfl⟩
  have hnr : 1 ≤ n ∧ n ≤ 12 := by rw [Int.tmod_eq_emod_of_nonneg q1.1] at htm; omega
  have y1 : IntKind.i64.wrap a1 = a1 := IntWalk.i64_in _ (by omega)
  have y2 : IntKind.i64.wrap (1 + tm) = n := by rw [IntWalk.i64_in _ (by omega)]; exact hn
  have CW := Lib.hid (worldN n hnr w)
  have HN := Lib.hid hnr
  have HP := Lib.hid (And.intro p0 (And.intro p2 (And.intro lay0 lay2)))
  clear w0 w1 w2 p0 p2 lay0 lay2 q1 hnr hn
  go_enter Try.func4, Try.ntmps4
  go_upto_region 3 with (go_at_call 12; ((with_reducible refine CW.out.mono ?_); rintro e w1 ⟨A, rfl, hW, hb1⟩))
  have HW := Lib.hid hW
  have HB1 := Lib.hid hb1
  clear hW hb1 CW y1 y2 htm
  by_cases h40 : 40 < l0
  · have d0 : decide ((40 : Int) < (l0 : Int)) = true := decide_eq_true (by omega)
    clear h40
    go_wp2_with (go_at_call 13; refine (lives12 _).mono ?_; rintro e w9 ⟨rfl, hk9⟩)
    go_ret
    exact ⟨rfl, below_then HB1.out hk9⟩
  have d0 : decide ((40 : Int) < (l0 : Int)) = false := decide_eq_false (by omega)
  by_cases h300 : 300 < l2
  · have d1 : decide ((300 : Int) < (l2 : Int)) = true := decide_eq_true (by omega)
    clear h40 h300
    go_wp2_with (go_at_call 13; refine (lives12 _).mono ?_; rintro e w9 ⟨rfl, hk9⟩)
    go_ret
    exact ⟨rfl, below_then HB1.out hk9⟩
  have d1 : decide ((300 : Int) < (l2 : Int)) = false := decide_eq_false (by omega)
  have HL := Lib.hid (show l0 ≤ 40 ∧ l2 ≤ 300 by omega)
  clear h40 h300 hm0 hm2
  have hz := zrow (t := 44) (n := 64) (v := .int .u64 0) (by kernel_rfl)
  go_upto_region 6 with (fail)
  clear hz d0 d1
  obtain ⟨AD, hAD⟩ : ∃ k, k = w1.heap.size := ⟨_, rfl⟩
  obtain ⟨TH, hTH⟩ : ∃ k, k = AD + 1 := ⟨_, rfl⟩
  obtain ⟨SE, hSE⟩ : ∃ k, k = TH + 1 := ⟨_, rfl⟩
  generalize hW4 : World.alloc (World.alloc (World.alloc w1 _) _) _ = W4
  rw [← hAD, ← hTH, ← hSE]
  have b2' : Below (w1.alloc (.cells (Array.replicate 64 (.int .u64 0)) 44)).heap.size (w1.alloc (.cells (Array.replicate 64 (.int .u64 0)) 44)) ((w1.alloc (.cells (Array.replicate 64 (.int .u64 0)) 44)).alloc (.cells (Array.replicate 64 (.int .u64 0)) 44)) := bs_alloc (Below.refl _ _)
  have b3' : Below ((w1.alloc (.cells (Array.replicate 64 (.int .u64 0)) 44)).alloc (.cells (Array.replicate 64 (.int .u64 0)) 44)).heap.size ((w1.alloc (.cells (Array.replicate 64 (.int .u64 0)) 44)).alloc (.cells (Array.replicate 64 (.int .u64 0)) 44)) W4 := by rw [← hW4]; exact bs_alloc (Below.refl _ _)
  have z1 : Zr W4 AD 64 .u64 (fun _ => 0) := (Zr.first hAD).keep (U := fun _ => False) (Keeps.of_new (below_then b2' b3')) (fun s => s)
  have z2 : Zr W4 TH 64 .u64 (fun _ => 0) := (Zr.first (by rw [hTH, hAD]; simp)).keep (U := fun _ => False) (Keeps.of_new b3') (fun s => s)
  have z3 : Zr W4 SE 64 .u64 (fun _ => 0) := by rw [← hW4]; exact Zr.first (by rw [hSE, hTH, hAD]; simp)
  have hs4 : W4.heap.size = SE + 1 := by rw [← hW4, hSE, hTH, hAD]; simp
  have b14 : Below w1.heap.size w1 W4 := below_then (bs_alloc (Below.refl _ _)) (below_then b2' b3')
  have HD := Lib.hid (show AD ≠ TH ∧ AD ≠ SE ∧ TH ≠ SE ∧ w.heap.size ≤ AD ∧ w.heap.size ≤ TH ∧ w.heap.size ≤ SE by have := HB1.out.size; omega)
  obtain ⟨G, hG⟩ : ∃ G : Nat → Prop, G = fun k => k < w.heap.size ∨ U3 AD TH SE k := ⟨_, rfl⟩
  have HG := Lib.hid hG
  have hWG : WdG G W4 A (V0 ⟨n, 8, 3, 1, 16⟩) := by
    obtain ⟨S, s1, s2⟩ := HW.out
    refine ⟨S, s1.new b14, fun k g s => ?_, fun k g => ?_⟩
    · have h1 := s2 k s
      have h2 := s1.lt k s
      rw [hG] at g
      rcases g with g | g | g | g <;> omega
    · have h2 := HB1.out.size
      rw [hG] at g
      rcases g with g | g | g | g <;> omega
  have HR0 : Hid (SvR (U3 AD TH SE) G W4 W4 A AD TH SE (.pointer none) 0) := Lib.hid ⟨_, fun _ => 0, fun _ => 0, .inl ⟨rfl, hWG⟩, Int.le_refl _, z1, z2, z3, fun s hs => ⟨by show upd (fun _ => 0) 2 n (64 + (s : Int)) = 0; exact upd_other (by omega), by show (0 : Int) ≤ 0; decide, by show (0 : Int) ≤ ((0 : Nat) : Int); decide⟩, Keeps.refl _ _⟩
  have HB4 := Lib.hid (below_then HB1.out b14)
  have CZ := Lib.hid (fun X => size_any n X)
  have hN0 := szf_range n
  obtain ⟨N, hN⟩ : ∃ N, szf n = N := ⟨_, rfl⟩
  have hN2 : 2 ≤ N ∧ N ≤ 4096 := by
    rw [← hN]
    obtain ⟨h1, h2⟩ := HN.out
    rcases (by omega : n = 1 ∨ n = 2 ∨ n = 3 ∨ n = 4 ∨ n = 5 ∨ n = 6 ∨ n = 7 ∨ n = 8 ∨ n = 9 ∨ n = 10 ∨ n = 11 ∨ n = 12) with rfl | rfl | rfl | rfl | rfl | rfl | rfl | rfl | rfl | rfl | rfl | rfl <;> decide
  have HNN := Lib.hid (And.intro hN hN2)
  rw [hN] at CZ
  have e0 : (N == 0) = false := by simp; omega
  have e0' : decide (N = 0) = false := by simp; omega
  clear hW4 hAD hTH hSE b2' b3' z1 z2 z3 hs4 b14 hG hWG hN0 hN hN2 HW HB1
  go_upto_region 11 with (go_at_call 14; ((with_reducible refine (CZ.out _).mono ?_); rintro e w5 ⟨rfl, rfl⟩))
  clear CZ e0 e0'
  go_wp2_with fail
  go_loopw [12, 13, 15] (fun mk nx i X => ∃ i' nx' : Nat, i' ≤ l2 ∧ nx' ≤ 2 * l0 ∧ i = .int .i64 i' ∧ nx = .int .i64 nx' ∧ SvR (U3 AD TH SE) G W4 X A AD TH SE mk i') (fun _ _ i _ => l2 - (intOf i).toNat)
  case atStart => exact ⟨0, 0, by omega, by omega, rfl, rfl, HR0.out⟩
  case round =>
    clear HR0
    obtain ⟨i, nx, hi, hnx, rfl, rfl, hR⟩ := hrel
    have HR := Lib.hid hR
    have hUG : ∀ k, U3 AD TH SE k → G k := fun k u => by rw [HG.out]; exact .inr u
    have HUG := Lib.hid hUG
    have hkp : Kp (fun k => k < w.heap.size) W4 wr := by
      obtain ⟨V, ad, th, -, -, -, -, -, -, h7⟩ := hR
      refine h7.less (fun k hk => ⟨by rw [HG.out]; exact .inl hk, fun u => ?_⟩)
      have := HD.out
      rcases u with u | u | u <;> omega
    have HBR := Lib.hid (HB4.out.trans (hkp.below HB4.out.size))
    clear hR hUG hkp
    by_cases hlt : i < l2
    · have hi300 : i < 300 := by have := HL.out; omega
      obtain ⟨hle, rfl⟩ := HP.out.2.1 (by omega)
      obtain ⟨xb, hxb, cxb⟩ := HP.out.2.2.2 i hlt
      have g0 := (HBR.out.cell (p := ⟨b2, o2 + i, none⟩) (World.block_lt_of_cell? _ _ cxb)).trans cxb
      have j0 : (0 : Int) ≤ (i : Int) := by omega
      have j1 : (i : Int) < (l2 : Int) := by omega
      have hic : i < c2 := by omega
      have HKL := Lib.hid (And.intro hi (And.intro hlt hnx))
      clear cxb hi hle hnx
      obtain ⟨r3, hr3⟩ : ∃ r3, xb.tmod 3 = r3 := ⟨_, rfl⟩
      obtain ⟨d3, hd3⟩ : ∃ d3, xb.tdiv 3 = d3 := ⟨_, rfl⟩
      have hd3r : 0 ≤ d3 ∧ d3 ≤ 85 := by rw [← hd3, Int.tdiv_eq_ediv_of_nonneg hxb.1]; omega
      by_cases hrd : r3 = 0
      · have t3 : (r3 == 0) = true := by simp [hrd]
        obtain ⟨kk, hkk⟩ : ∃ kk, d3.tmod N = kk := ⟨_, rfl⟩
        have hkr : 0 ≤ kk ∧ kk < N := by
          have h2 := HNN.out.2
          rw [← hkk, Int.tmod_eq_emod_of_nonneg hd3r.1]
          exact ⟨Int.emod_nonneg _ (by omega), Int.emod_lt_of_pos _ (by omega)⟩
        have yd : IntKind.u8.wrap d3 = d3 := by rw [IntKind.wrap_u8]; omega
        have yd' : IntKind.i64.wrap d3 = d3 := IntWalk.i64_in _ (by omega)
        have yk : IntKind.i64.wrap kk = kk := IntWalk.i64_in _ (by have := HNN.out.2; omega)
        have nz : (N == 0) = false := by have := HNN.out.2; simp; omega
        have nz' : ¬ N = 0 := by have := HNN.out.2; omega
        clear hrd
        obtain ⟨V, ad, th, hSv, hcnt, hA, hT, hS, hf, hkR⟩ := HR.out
        have hisp : isp n kk = true := by unfold isp; rw [HNN.out.1]; simp; omega
        have hsr := strf_range hisp
        obtain ⟨s, hs⟩ : ∃ s : Nat, strf kk n = (s : Int) := ⟨(strf kk n).toNat, by omega⟩
        have hs64 : s < 64 := by omega
        have hva : versf n kk = 64 + (s : Int) := by unfold versf; rw [if_pos hisp, hs]
        obtain ⟨h0f, h0a, h0b⟩ := hf s hs64
        obtain ⟨v, hv⟩ : ∃ v, v = ad s := ⟨_, rfl⟩
        obtain ⟨u, hu⟩ : ∃ u, u = th s := ⟨_, rfl⟩
        have CV := Lib.hid (fun X => versw n kk X)
        rw [hva] at CV
        have CSt := Lib.hid (fun X => stripe_any kk n X)
        rw [hs] at CSt
        have CL : Hid (∀ X, Below wr.heap.size wr X → Calls Try.prog 16 #[.pointer (some ⟨A.pc, 0, none⟩), .int .u64 (64 + (s : Int))] X fun e w' => e = .returned (.int .u64 v) ∧ Sv (U3 AD TH SE) G w' A (V.acc V.f 1 (64 + (s : Int)) (V.f (64 + (s : Int))) (V.f (64 + (s : Int)))) u12 ∧ Kp G X w') := Lib.hid (fun X hb => by
          have := (hSv.new hb).load (a := 64 + (s : Int)) ⟨by omega, by omega⟩ (by omega)
          rw [h0f, ← hv] at this
          rw [h0f, ← hv]
          exact this)
        have HSv := Lib.hid hSv
        obtain ⟨a64, ha64⟩ : ∃ a64 : Int, a64 = 64 + (s : Int) := ⟨_, rfl⟩
        rw [← ha64] at CV CL
        have HZ := Lib.hid (And.intro hA (And.intro hT (And.intro hS hkR)))
        have hs0 : (0 : Int) ≤ (s : Int) := by omega
        have hs1 : (s : Int) < 64 := by omega
        have ds0 : decide ((s : Int) < 0) = false := decide_eq_false (by omega)
        have ds1 : decide ((64 : Int) ≤ (s : Int)) = false := decide_eq_false (by omega)
        obtain ⟨b, hb⟩ : ∃ b, (v % 2 == 1) = b := ⟨_, rfl⟩
        obtain ⟨r2, hr2⟩ : ∃ r2, v.tmod 2 = r2 := ⟨_, rfl⟩
        have hrb : (r2 == 1) = b := by rw [← hr2, Int.tmod_eq_emod_of_nonneg (by omega)]; exact hb
        have CO := Lib.hid (fun W => oddw v ⟨by omega, by omega⟩ W)
        rw [hb] at CO
        have HV := Lib.hid (And.intro hv (And.intro hu (And.intro h0a h0b)))
        clear hSv hA hT hS hkR hisp hsr hs hva h0f ha64 hb hu hv
        go_upto_region 19 with (first
          | (go_at_call 15; ((with_reducible refine (CV.out _).mono ?_); rintro e w6 ⟨rfl, hb6⟩; have c0 := (HSv.out.new hb6).wd.box.c0))
          | (go_at_call 16; ((with_reducible refine (CL.out _ hb6).mono ?_); rintro e w7 ⟨rfl, hS7, hk7⟩; have HS7 := Lib.hid hS7; have HK7 := Lib.hid (Kp.to (Kp.of hb6) hk7); clear c0 hS7 hk7 hb6))
          | (go_at_call 17; ((with_reducible refine (CSt.out _).mono ?_); rintro e w8 ⟨rfl, hb8⟩)))
        have HK8 := Lib.hid (Kp.to HK7.out (Kp.of hb8))
        have HB8 := Lib.hid (Below.refl w8.heap.size w8)
        have gG : ∀ k, U3 AD TH SE k → ¬ ¬ G k := fun k u n => n (HUG.out k u)
        have KX : Hid (∀ X, Below w8.heap.size w8 X → Sv (U3 AD TH SE) G X A (V.acc V.f 1 a64 (V.f a64) (V.f a64)) u12 ∧ Kp (fun k => G k ∧ ¬ U3 AD TH SE k) W4 X ∧ Zr X AD 64 .u64 ad ∧ Zr X TH 64 .u64 th ∧ Zr X SE 64 .u64 th) := Lib.hid (fun X hX => by
          have hk := Kp.to HK8.out (Kp.of hX)
          obtain ⟨z1, z2, z3, z4⟩ := HZ.out
          refine ⟨(HS7.out.new hb8).new hX, Kp.to z4 (hk.less (fun k g => g.1)), z1.keep hk (gG _ (.inl rfl)), z2.keep hk (gG _ (.inr (.inl rfl))), z3.keep hk (gG _ (.inr (.inr rfl)))⟩)
        clear gG g0
        obtain ⟨-, -, xa, xt, xs⟩ := KX.out w8 (Below.refl _ _)
        have s0 : w8.cell? ⟨AD, s, none⟩ = some (.int .u64 v) := by rw [HV.out.1]; exact (xa s hs64).1
        have s1 : w8.cell? ⟨TH, s, none⟩ = some (.int .u64 u) := by rw [HV.out.2.1]; exact (xt s hs64).1
        have s2 : w8.cell? ⟨SE, s, none⟩ = some (.int .u64 u) := by rw [HV.out.2.1]; exact (xs s hs64).1
        clear xa xt xs hb8 yd yd' yk nz nz' t3
        go_quiet ((go_at_call 18; with_reducible exact quiet_left (CO.out _)))
        have hbq : Below w8.heap.size w8 (w8.drewN nq) := belowNd (Below.refl _ _) nq
        replace s0 := (hbq.cell (p := ⟨AD, s, none⟩) (World.block_lt_of_cell? _ _ s0)).trans s0
        replace s1 := (hbq.cell (p := ⟨TH, s, none⟩) (World.block_lt_of_cell? _ _ s1)).trans s1
        replace s2 := (hbq.cell (p := ⟨SE, s, none⟩) (World.block_lt_of_cell? _ _ s2)).trans s2
        have HQ := Lib.hid hbq
        clear hbq
        generalize w8.drewN nq = w9 at *
        cases b with
        | true =>
          go_upto_region 21 with (fail)
          go_quiet ((go_at_call 18; with_reducible exact quiet_left (CO.out _)))
          clear hrb hr2
          have hbq2 : Below w9.heap.size w9 (w9.drewN nq) := belowNd (Below.refl _ _) nq
          have HY := Lib.hid (below_then HQ.out hbq2)
          clear hbq2 s0 s1 s2
          generalize w9.drewN nq = w10 at *
          obtain ⟨x1, x2, x3, x4, x5⟩ := KX.out w10 (below_then HB8.out HY.out)
          have n2 := (x4 s hs64).1
          have n2f := (x4 s hs64).2
          have n3 := (x5 s hs64).1
          have n3f := (x5 s hs64).2
          go_upto_region 24 with (fail)
          have kS : Keeps (fun k => k = SE) w10 (w10.setCell ⟨SE, s, none⟩ (.int .u64 v)) := Keeps.setCell (S := fun k => k = SE) (Keeps.refl _ _) (p := ⟨SE, s, none⟩) (.inl rfl) _
          have m1 := ((x3.keep kS (fun e => HD.out.2.1 e)) s hs64).1
          have m2 := ((x4.keep kS (fun e => HD.out.2.2.1 e)) s hs64).1
          have m2f := ((x4.keep kS (fun e => HD.out.2.2.1 e)) s hs64).2
          rw [← HV.out.1] at m1
          have HFIN := Lib.hid (SvR.seen (W := W4) (v := v) hs64 HUG.out ⟨HD.out.1, HD.out.2.1, HD.out.2.2.1⟩ x1 rfl (by show V.cnt + 1 ≤ _; omega) x3 x4 x5 hf x2 HV.out.1)
          clear n2 n2f n3 n3f kS x1 x2 x3 x4 x5
          generalize hW11 : World.setCell w10 _ _ = w11 at *
          go_wp2_with fail
          go_roundw
          case rel => exact ⟨i + 1, nx, by have := HKL.out; omega, by have := HKL.out; omega, by go_num, rfl, HFIN.out⟩
          case measure => have := HKL.out; simp [intOf]; omega
        | false =>
          by_cases hc : v = u
          · subst hc
            go_upto_region 21 with (fail)
            go_quiet ((go_at_call 18; with_reducible exact quiet_left (CO.out _)))
            clear hrb hr2
            have hbq2 : Below w9.heap.size w9 (w9.drewN nq) := belowNd (Below.refl _ _) nq
            have HY := Lib.hid (below_then HQ.out hbq2)
            clear hbq2 s0 s1 s2
            generalize w9.drewN nq = w10 at *
            obtain ⟨x1, x2, x3, x4, x5⟩ := KX.out w10 (below_then HB8.out HY.out)
            have n2 := (x4 s hs64).1
            have n2f := (x4 s hs64).2
            have n3 := (x5 s hs64).1
            have n3f := (x5 s hs64).2
            go_upto_region 24 with (fail)
            have kS : Keeps (fun k => k = SE) w10 (w10.setCell ⟨SE, s, none⟩ (.int .u64 v)) := Keeps.setCell (S := fun k => k = SE) (Keeps.refl _ _) (p := ⟨SE, s, none⟩) (.inl rfl) _
            have m1 := ((x3.keep kS (fun e => HD.out.2.1 e)) s hs64).1
            have m2 := ((x4.keep kS (fun e => HD.out.2.2.1 e)) s hs64).1
            have m2f := ((x4.keep kS (fun e => HD.out.2.2.1 e)) s hs64).2
            rw [← HV.out.1] at m1
            have HFIN := Lib.hid (SvR.seen (W := W4) (v := v) hs64 HUG.out ⟨HD.out.1, HD.out.2.1, HD.out.2.2.1⟩ x1 rfl (by show V.cnt + 1 ≤ _; omega) x3 x4 x5 hf x2 HV.out.1)
            clear n2 n2f n3 n3f kS x1 x2 x3 x4 x5
            generalize hW11 : World.setCell w10 _ _ = w11 at *
            go_wp2_with fail
            go_roundw
            case rel => exact ⟨i + 1, nx, by have := HKL.out; omega, by have := HKL.out; omega, by go_num, rfl, HFIN.out⟩
            case measure => have := HKL.out; simp [intOf]; omega
          · have c1 : (v == u) = false := by simpa using hc
            clear hc
            go_upto_region 21 with (fail)
            go_quiet ((go_at_call 18; with_reducible exact quiet_left (CO.out _)))
            clear hrb hr2 c1
            have hbq2 : Below w9.heap.size w9 (w9.drewN nq) := belowNd (Below.refl _ _) nq
            have HY := Lib.hid (below_then HQ.out hbq2)
            clear hbq2 s0 s1 s2
            generalize w9.drewN nq = w10 at *
            obtain ⟨x1, x2, x3, x4, x5⟩ := KX.out w10 (below_then HB8.out HY.out)
            have n2 := (x4 s hs64).1
            have n2f := (x4 s hs64).2
            have n3 := (x5 s hs64).1
            have n3f := (x5 s hs64).2
            go_upto_region 24 with (fail)
            have kS : Keeps (fun k => k = SE) w10 (w10.setCell ⟨SE, s, none⟩ (.int .u64 v)) := Keeps.setCell (S := fun k => k = SE) (Keeps.refl _ _) (p := ⟨SE, s, none⟩) (.inl rfl) _
            have m1 := ((x3.keep kS (fun e => HD.out.2.1 e)) s hs64).1
            have m2 := ((x4.keep kS (fun e => HD.out.2.2.1 e)) s hs64).1
            have m2f := ((x4.keep kS (fun e => HD.out.2.2.1 e)) s hs64).2
            rw [← HV.out.1] at m1
            have HFIN := Lib.hid (SvR.seen (W := W4) (v := v) hs64 HUG.out ⟨HD.out.1, HD.out.2.1, HD.out.2.2.1⟩ x1 rfl (by show V.cnt + 1 ≤ _; omega) x3 x4 x5 hf x2 HV.out.1)
            clear n2 n2f n3 n3f kS x1 x2 x3 x4 x5
            generalize hW11 : World.setCell w10 _ _ = w11 at *
            go_wp2_with fail
            go_roundw
            case rel => exact ⟨i + 1, nx, by have := HKL.out; omega, by have := HKL.out; omega, by go_num, rfl, HFIN.out⟩
            case measure => have := HKL.out; simp [intOf]; omega
      · have t3 : (r3 == 0) = false := by simpa using hrd
        clear hrd hd3r
        go_upto_region 25 with (fail)
        clear g0 j0 j1 hic t3
        obtain ⟨V, ad, th, hSv, hcnt, hA, hT, hS, hf, hkR⟩ := HR.out
        rcases hSv with ⟨rfl, hwd⟩ | ⟨q, D, gq, rfl, hrest⟩
        · by_cases hnx2 : nx < 2 * l0
          · clear hcnt hA hT hS hf hkR
            obtain ⟨hle0, rfl⟩ := HP.out.1 (by omega)
            obtain ⟨k2, hk2⟩ : ∃ k2, k2 = nx / 2 := ⟨_, rfl⟩
            have hk2l : k2 < l0 := by omega
            obtain ⟨t0, t1, t2, ht0, ht1, ht2, e0, e1, e2⟩ := HP.out.2.2.1 k2 hk2l
            have f0 := (HBR.out.cell (p := ⟨b0, o0 + k2 * 3, none⟩) (World.block_lt_of_cell? _ _ e0)).trans e0
            have f1 := (HBR.out.cell (p := ⟨b0, o0 + k2 * 3 + 1, none⟩) (World.block_lt_of_cell? _ _ e1)).trans e1
            have f2 := (HBR.out.cell (p := ⟨b0, o0 + k2 * 3 + 2, none⟩) (World.block_lt_of_cell? _ _ e2)).trans e2
            have yq : (nx : Int).tdiv 2 = (k2 : Int) := by rw [Int.tdiv_eq_ediv_of_nonneg (by omega)]; omega
            have yqw : IntKind.i64.wrap (k2 : Int) = (k2 : Int) := IntWalk.i64_in _ (by have := HL.out; omega)
            have dnx : decide ((nx : Int) < 2 * (l0 : Int)) = true := decide_eq_true (by omega)
            have yl : IntKind.i64.wrap (2 * (l0 : Int)) = 2 * (l0 : Int) := IntWalk.i64_in _ (by have := HL.out; omega)
            have k0 : (0 : Int) ≤ (k2 : Int) := by omega
            have k1 : (k2 : Int) < (l0 : Int) := by omega
            have hkc : k2 < c0 := by omega
            have HNX := Lib.hid (And.intro hnx2 hk2)
            clear e0 e1 e2 hle0 hk2 hnx2
            go_upto_region 27 with (fail)
            obtain ⟨Q, hQ⟩ : ∃ Q, Q = wr.heap.size := ⟨_, rfl⟩
            generalize hX5 : World.alloc wr _ = x5
            rw [← hQ]
            have hb5 : Below wr.heap.size wr x5 := by rw [← hX5]; exact bs_alloc (Below.refl _ _)
            obtain ⟨tv, htv⟩ : ∃ tv : Nat → Int, tv = fun k => if k = 0 then t0 else if k = 1 then t1 else t2 := ⟨_, rfl⟩
            have qc : ∀ k, k < 3 → x5.cell? ⟨Q, k, none⟩ = some (.int .u16 (tv k)) ∧ 0 ≤ tv k ∧ tv k ≤ 65535 := fun k hk => by
              rw [htv, ← hX5, hQ]
              match k, hk with
              | 0, _ => exact ⟨new_at rfl rfl, ht0⟩
              | 1, _ => exact ⟨new_at rfl rfl, ht1⟩
              | 2, _ => exact ⟨new_at rfl rfl, ht2⟩
            have hQ5 : Q < x5.heap.size := by rw [← hX5, hQ]; simp
            have QC := Lib.hid qc
            have HRQ := Lib.hid (HR.out.new hb5)
            have HB5 := Lib.hid hb5
            have HQ5 := Lib.hid hQ5
            clear hX5 hQ hb5 qc htv ht0 ht1 ht2 f0 f1 f2 yq yqw dnx yl k0 k1 hkc hk2l hQ5 hwd HR
            obtain ⟨i0, hi0, hz0, hz1, hz2⟩ := info_parts info_place
            go_wp2_with fail
            go_loopw [21, 22] (fun p kk X => ∃ (k : Nat) (Lp : List Pv), k ≤ 3 ∧ kk = .int .i64 k ∧ Lp.length = k ∧ X.ownsRow x5.heap.size 56 2 p k (rowsP Lp) ∧ (∀ z, z ∈ Lp → isp z.1 z.2 = true) ∧ Below x5.heap.size x5 X) (fun _ kk _ => 3 - (intOf kk).toNat)
            case atStart => exact ⟨0, [], by omega, rfl, rfl, World.ownsRow_nil _ _ _ _, fun z h => by simp at h, Below.refl _ _⟩
            case round =>
              obtain ⟨k, Lp, hk3, rfl, hLp, hown, hisp, hbk⟩ := hrel
              by_cases hk : k < 3
              · have dk : decide ((k : Int) < 3) = true := decide_eq_true (by omega)
                have dk' : decide (k < 3) = true := decide_eq_true hk
                obtain ⟨qk, qk0, qk1⟩ := QC.out k hk
                have qk' := (hbk.cell (p := ⟨Q, k, none⟩) HQ5.out).trans qk
                generalize tv k = tk at *
                obtain ⟨y, hy⟩ : ∃ y, tk.tmod N = y := ⟨_, rfl⟩
                have hyr : 0 ≤ y ∧ y < N := by
                  have h2 := HNN.out.2
                  rw [← hy, Int.tmod_eq_emod_of_nonneg qk0]
                  exact ⟨Int.emod_nonneg _ (by omega), Int.emod_lt_of_pos _ (by omega)⟩
                have yt : IntKind.i64.wrap tk = tk := IntWalk.i64_in _ (by omega)
                have yy : IntKind.i64.wrap y = y := IntWalk.i64_in _ (by have := HNN.out.2; omega)
                have nz : (N == 0) = false := by have := HNN.out.2; simp; omega
                have nz' : ¬ N = 0 := by have := HNN.out.2; omega
                have hisn : isp n y = true := by unfold isp; rw [HNN.out.1]; simp; omega
                have c0' : (0 : Int) ≤ (k : Int) := by omega
                have c1' : (k : Int) < 3 := by omega
                have HO := Lib.hid (And.intro hLp (And.intro hisp (And.intro hisn hbk)))
                have HK3 := Lib.hid hk
                clear hLp hisp hisn qk
                go_wp2_with (at_builtin; go_loud (refine wpList_append_own _ rfl _ _ 61 rfl x5.heap.size 56 i0 (.agg #[.int .i64 0, .int .i64 0]) 2 16 Try.underlying61 hi0 hz0 hz1 hz2 rfl (by decide) _ _ _ rfl (hown.alloc _) ⟨wr.heap.size, 0, none⟩ 1 1 [.int .i64 n, .int .i64 y] rfl rfl ?c1 ?c2 ?c3 ?c4 ?c5 ?_))
                try case c1 => intro j u hj; exact news2S hj
                case c2 => first | exact ⟨rfl, rfl⟩ | (intro u hu; simp at hu; rcases hu with rfl | rfl <;> rfl)
                case c3 => unfold maxLen; omega
                case c4 => omega
                case c5 => have := hbk.size; simp; omega
                intro v' w3 hown3 hgrow _
                have hkp3 : Keeps (fun j => x5.heap.size ≤ j) wr w3 := ((Keeps.refl _ wr).alloc _).grown hgrow (fun k hk => .inl (hown.lt k hk).1)
                have hbk3 := hbk.trans (hkp3.to_below (B := x5.heap.size) (fun k _ h => by omega) hbk.size)
                clear hgrow hown hkp3 hbk qk'
                go_wp2_with fail
                go_roundw
                case rel => exact ⟨k + 1, Lp ++ [(n, y)], by omega, by go_num, by simp [HO.out.1], by rw [rowsP_snoc]; exact hown3, fun z hz => by
                  rcases List.mem_append.1 hz with hz | hz
                  · exact HO.out.2.1 z hz
                  · simp at hz
                    subst hz
                    exact HO.out.2.2.1, hbk3⟩
                case measure => have := HK3.out; simp [intOf]; omega
              · obtain rfl : k = 3 := by omega
                obtain ⟨a', ct, rfl, hct, hnc, -, hlie⟩ := LieG.of (Lst.of_own hown)
                have hlay : LayP wr a' 3 ct Lp := LayP.ofX hlie hLp.symm
                obtain ⟨hD1, hD2⟩ := strsF_ok hisp (fun e => by rw [e] at hLp; simp at hLp)
                have hD3 : (strsF Lp).length ≤ 1000 := by
                  have := strsF_len Lp Lp.length
                  rw [List.take_length] at this
                  omega
                have CN := Lib.hid (newMark hlay (by decide))
                have HDD := Lib.hid (And.intro hD1 (And.intro hD2 (And.intro hD3 hbk)))
                have dk : decide (((3 : Nat) : Int) < 3) = false := by decide
                clear hlay hlie hown hisp hLp hD1 hD2 hD3 hbk hk hk3 hct hnc
                go_upto_region 33 with (go_at_call 19; ((with_reducible refine CN.out.mono ?_); rintro e w4 hNw; obtain ⟨V, ad, th, hSv0, hcnt, hA, hT, hS, hf, hkR⟩ := HRQ.out; obtain ⟨qm, rfl, hSv4, hb4⟩ := Sv.begin (U := U3 AD TH SE) (hSv0.wd.new HDD.out.2.2.2) HUG.out HDD.out.1 HDD.out.2.1 HDD.out.2.2.1 hNw; have hb54 := below_then HDD.out.2.2.2 hb4; have HRm : Hid (SvR (U3 AD TH SE) G W4 w4 A AD TH SE (.pointer (some ⟨qm, 0, none⟩)) i) := Lib.hid ⟨V, ad, th, hSv4, hcnt, hA.keep (U := fun _ => False) (Keeps.of_new hb54) (fun s => s), hT.keep (U := fun _ => False) (Keeps.of_new hb54) (fun s => s), hS.keep (U := fun _ => False) (Keeps.of_new hb54) (fun s => s), hf, Kp.to hkR (Kp.of hb54)⟩; clear hSv0 hcnt hA hT hS hf hkR hSv4 hb4 hb54 hNw V ad th))
                clear dk CN
                have hnxb : nx < 200 := by have := HNX.out; have := HL.out; omega
                obtain ⟨V, ad, th, hSv, hcnt, hA, hT, hS, hf, hkR⟩ := HRm.out
                obtain ⟨x, bo, hxr, CS'⟩ := hSv.step (by omega)
                have CS := Lib.hid CS'
                obtain ⟨s, hs⟩ : ∃ s : Nat, x = 64 + (s : Int) := ⟨(x - 64).toNat, by omega⟩
                have hs64 : s < 64 := by omega
                obtain ⟨h0f, h0a, h0b⟩ := hf s hs64
                rw [← hs] at h0f
                have hw : IntKind.u64.wrap (V.f x + 1) = ad s + 1 := by rw [h0f, IntWalk.u64_in _ ⟨by omega, by omega⟩]
                obtain ⟨v, hv⟩ : ∃ v, v = ad s := ⟨_, rfl⟩
                obtain ⟨v1, hv1⟩ : ∃ v1, v1 = ad s + 1 := ⟨_, rfl⟩
                have yv : IntKind.u64.wrap (v + 1) = v1 := by rw [hv, hv1, ← h0f]; rw [h0f] at hw ⊢; exact hw
                have c0 := hSv.wd.box.c0
                have HZ := Lib.hid (And.intro hA (And.intro hT (And.intro hS hkR)))
                have HV := Lib.hid (And.intro hv (And.intro hv1 (And.intro hs hw)))
                have yx : IntKind.u64.wrap (x - 64) = (s : Int) := by rw [hs, IntWalk.u64_in _ ⟨by omega, by omega⟩]; omega
                have ds1 : decide ((64 : Int) ≤ (s : Int)) = false := decide_eq_false (by omega)
                have hs0 : (0 : Int) ≤ (s : Int) := by omega
                have hs1 : (s : Int) < 64 := by omega
                have hf0 : ∀ (W : World) (p r : Int), (Instr.field 66 (.agg #[.int .u8 4, .int .u64 x, .int .u64 p, .int .u64 r]) 0).run Try.prog W = .ok (.int .u8 4) W := fun W p r => by kernel_rfl
                have hf1 : ∀ (W : World) (p r : Int), (Instr.field 66 (.agg #[.int .u8 4, .int .u64 x, .int .u64 p, .int .u64 r]) 1).run Try.prog W = .ok (.int .u64 x) W := fun W p r => by kernel_rfl
                have h44 : ((4 : Int) != 4) = false := by decide
                obtain ⟨xp, hxp⟩ : ∃ xp, xp = V.f x := ⟨_, rfl⟩
                obtain ⟨xr, hxrr⟩ : ∃ xr, xr = IntKind.u64.wrap (V.f x + 1) := ⟨_, rfl⟩
                clear hSv hA hT hS hkR hxr CS' hs h0f hw hv hv1 c0
                go_upto_region 36 with (go_at_call 20; ((with_reducible refine CS.out.mono ?_); rintro e w6 ⟨rfl, hS6, hk6⟩))
                have CL : Hid (∀ X, Below w6.heap.size w6 X → X.cell? ⟨A.p, 0, none⟩ = some (.pointer (some ⟨A.pc, 0, none⟩)) ∧ Calls Try.prog 21 #[.pointer (some ⟨A.pc, 0, none⟩)] X fun e w' => e = .returned (.agg #[.int .u8 4, .int .u64 x, .int .u64 xp, .int .u64 xr]) ∧ Below X.heap.size X w') := Lib.hid (fun X hX => by
                  refine ⟨(hS6.new hX).wd.box.c0, ?_⟩
                  have := (hS6.new hX).last
                  rw [hxp, hxrr]
                  exact this)
                have HS6 := Lib.hid hS6
                have HK6 := Lib.hid hk6
                have c0 := (CL.out w6 (Below.refl _ _)).1
                clear hS6 hk6 hxp hxrr CS
                go_upto_region 39 with (first
                  | (go_at_call 21; ((with_reducible refine (CL.out w6 (Below.refl _ _)).2.mono ?_); rintro e w7 ⟨rfl, hb7⟩; have HB7 := Lib.hid hb7; clear c0; have c0 := (CL.out w7 hb7).1; clear hb7))
                  | (go_at_call 21; ((with_reducible refine (CL.out w7 HB7.out).2.mono ?_); rintro e w8 ⟨rfl, hb8⟩; have HB8 := Lib.hid (below_then HB7.out hb8); clear c0 hb8)))
                have gG : ∀ k, U3 AD TH SE k → ¬ ¬ G k := fun k u n => n (HUG.out k u)
                have hk := Kp.to HK6.out (Kp.of HB8.out)
                have x3 := HZ.out.1.keep hk (gG _ (.inl rfl))
                have x4 := HZ.out.2.1.keep hk (gG _ (.inr (.inl rfl)))
                have x5 := HZ.out.2.2.1.keep hk (gG _ (.inr (.inr rfl)))
                have a0' := (x3 s hs64).1
                rw [← HV.out.1] at a0'
                have a0f := (x3 s hs64).2
                have HFIN := Lib.hid (SvR.marked (W := W4) (i := i) hs64 HV.out.2.2.1 (by rw [HV.out.2.2.2]) HUG.out ⟨HD.out.1, HD.out.2.1, HD.out.2.2.1⟩ (HS6.out.new HB8.out) rfl (by show V.cnt + 1 ≤ _; omega) x3 x4 x5 hf (Kp.to HZ.out.2.2.2 (hk.less (fun k g => g.1))))
                rw [HV.out.2.2.2, ← HV.out.2.1] at HFIN
                clear gG hk x3 x4 x5 hf hf0 hf1 yx ds1 h44
                cases bo with
                | true =>
                  go_wp2_with fail
                  go_roundw
                  case rel => exact ⟨i + 1, nx + 1, by have := HKL.out; omega, by have := HNX.out; omega, by go_num, by first | rfl | go_num, HFIN.out⟩
                  case measure => have := HKL.out; simp [intOf]; omega
                | false =>
                  go_wp2_with fail
                  go_roundw
                  case rel => exact ⟨i + 1, nx + 1, by have := HKL.out; omega, by have := HNX.out; omega, by go_num, by first | rfl | go_num, HFIN.out⟩
                  case measure => have := HKL.out; simp [intOf]; omega
          · have dnx : decide ((nx : Int) < 2 * (l0 : Int)) = false := decide_eq_false (by omega)
            have yl : IntKind.i64.wrap (2 * (l0 : Int)) = 2 * (l0 : Int) := IntWalk.i64_in _ (by have := HL.out; omega)
            clear hwd hcnt hA hT hS hf hkR hnx2
            go_wp2_with fail
            go_roundw
            case rel => exact ⟨i + 1, nx, by have := HKL.out; omega, by have := HKL.out; omega, by go_num, rfl, HR.out.le (by omega)⟩
            case measure => have := HKL.out; simp [intOf]; omega
        · have HRm := HR
          clear hcnt hA hT hS hf hkR hrest
          obtain ⟨V, ad, th, hSv, hcnt, hA, hT, hS, hf, hkR⟩ := HRm.out
          obtain ⟨x, bo, hxr, CS'⟩ := hSv.step (by omega)
          have CS := Lib.hid CS'
          obtain ⟨s, hs⟩ : ∃ s : Nat, x = 64 + (s : Int) := ⟨(x - 64).toNat, by omega⟩
          have hs64 : s < 64 := by omega
          obtain ⟨h0f, h0a, h0b⟩ := hf s hs64
          rw [← hs] at h0f
          have hw : IntKind.u64.wrap (V.f x + 1) = ad s + 1 := by rw [h0f, IntWalk.u64_in _ ⟨by omega, by omega⟩]
          obtain ⟨v, hv⟩ : ∃ v, v = ad s := ⟨_, rfl⟩
          obtain ⟨v1, hv1⟩ : ∃ v1, v1 = ad s + 1 := ⟨_, rfl⟩
          have yv : IntKind.u64.wrap (v + 1) = v1 := by rw [hv, hv1, ← h0f]; rw [h0f] at hw ⊢; exact hw
          have c0 := hSv.wd.box.c0
          have HZ := Lib.hid (And.intro hA (And.intro hT (And.intro hS hkR)))
          have HV := Lib.hid (And.intro hv (And.intro hv1 (And.intro hs hw)))
          have yx : IntKind.u64.wrap (x - 64) = (s : Int) := by rw [hs, IntWalk.u64_in _ ⟨by omega, by omega⟩]; omega
          have ds1 : decide ((64 : Int) ≤ (s : Int)) = false := decide_eq_false (by omega)
          have hs0 : (0 : Int) ≤ (s : Int) := by omega
          have hs1 : (s : Int) < 64 := by omega
          have hf0 : ∀ (W : World) (p r : Int), (Instr.field 66 (.agg #[.int .u8 4, .int .u64 x, .int .u64 p, .int .u64 r]) 0).run Try.prog W = .ok (.int .u8 4) W := fun W p r => by kernel_rfl
          have hf1 : ∀ (W : World) (p r : Int), (Instr.field 66 (.agg #[.int .u8 4, .int .u64 x, .int .u64 p, .int .u64 r]) 1).run Try.prog W = .ok (.int .u64 x) W := fun W p r => by kernel_rfl
          have h44 : ((4 : Int) != 4) = false := by decide
          obtain ⟨xp, hxp⟩ : ∃ xp, xp = V.f x := ⟨_, rfl⟩
          obtain ⟨xr, hxrr⟩ : ∃ xr, xr = IntKind.u64.wrap (V.f x + 1) := ⟨_, rfl⟩
          clear hSv hA hT hS hkR hxr CS' hs h0f hw hv hv1 c0
          go_upto_region 36 with (go_at_call 20; ((with_reducible refine CS.out.mono ?_); rintro e w6 ⟨rfl, hS6, hk6⟩))
          have CL : Hid (∀ X, Below w6.heap.size w6 X → X.cell? ⟨A.p, 0, none⟩ = some (.pointer (some ⟨A.pc, 0, none⟩)) ∧ Calls Try.prog 21 #[.pointer (some ⟨A.pc, 0, none⟩)] X fun e w' => e = .returned (.agg #[.int .u8 4, .int .u64 x, .int .u64 xp, .int .u64 xr]) ∧ Below X.heap.size X w') := Lib.hid (fun X hX => by
            refine ⟨(hS6.new hX).wd.box.c0, ?_⟩
            have := (hS6.new hX).last
            rw [hxp, hxrr]
            exact this)
          have HS6 := Lib.hid hS6
          have HK6 := Lib.hid hk6
          have c0 := (CL.out w6 (Below.refl _ _)).1
          clear hS6 hk6 hxp hxrr CS
          go_upto_region 39 with (first
            | (go_at_call 21; ((with_reducible refine (CL.out w6 (Below.refl _ _)).2.mono ?_); rintro e w7 ⟨rfl, hb7⟩; have HB7 := Lib.hid hb7; clear c0; have c0 := (CL.out w7 hb7).1; clear hb7))
            | (go_at_call 21; ((with_reducible refine (CL.out w7 HB7.out).2.mono ?_); rintro e w8 ⟨rfl, hb8⟩; have HB8 := Lib.hid (below_then HB7.out hb8); clear c0 hb8)))
          have gG : ∀ k, U3 AD TH SE k → ¬ ¬ G k := fun k u n => n (HUG.out k u)
          have hk := Kp.to HK6.out (Kp.of HB8.out)
          have x3 := HZ.out.1.keep hk (gG _ (.inl rfl))
          have x4 := HZ.out.2.1.keep hk (gG _ (.inr (.inl rfl)))
          have x5 := HZ.out.2.2.1.keep hk (gG _ (.inr (.inr rfl)))
          have a0' := (x3 s hs64).1
          rw [← HV.out.1] at a0'
          have a0f := (x3 s hs64).2
          have HFIN := Lib.hid (SvR.marked (W := W4) (i := i) hs64 HV.out.2.2.1 (by rw [HV.out.2.2.2]) HUG.out ⟨HD.out.1, HD.out.2.1, HD.out.2.2.1⟩ (HS6.out.new HB8.out) rfl (by show V.cnt + 1 ≤ _; omega) x3 x4 x5 hf (Kp.to HZ.out.2.2.2 (hk.less (fun k g => g.1))))
          rw [HV.out.2.2.2, ← HV.out.2.1] at HFIN
          clear gG hk x3 x4 x5 hf hf0 hf1 yx ds1 h44
          cases bo with
          | true =>
            go_wp2_with fail
            go_roundw
            case rel => exact ⟨i + 1, nx, by have := HKL.out; omega, by have := HKL.out; omega, by go_num, by first | rfl | go_num, HFIN.out⟩
            case measure => have := HKL.out; simp [intOf]; omega
          | false =>
            go_wp2_with fail
            go_roundw
            case rel => exact ⟨i + 1, nx, by have := HKL.out; omega, by have := HKL.out; omega, by go_num, by first | rfl | go_num, HFIN.out⟩
            case measure => have := HKL.out; simp [intOf]; omega
    · obtain rfl : i = l2 := by omega
      have dl : decide ((i : Int) < (i : Int)) = false := decide_eq_false (by omega)
      clear hi hnx hlt
      go_wp2_with (go_at_call 13; refine (lives12 _).mono ?_; rintro e w9 ⟨rfl, hk9⟩)
      go_ret
      exact ⟨rfl, below_then HBR.out hk9⟩
end Go.Proofs.Ythlebfiedejhhaa
