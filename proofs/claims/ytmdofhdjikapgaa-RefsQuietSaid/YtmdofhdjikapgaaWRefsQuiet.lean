/- The law RefsQuiet. -/
import Derived.Test.YtmdofhdjikapgaaTo4
import Derived.Test.YtmdofhdjikapgaaOpen
namespace Go.Proofs.Ytmdofhdjikapgaa
open Go.RowKit Go.Maps
set_option linter.unusedVariables false
set_option maxHeartbeats 2000000 in
set_option maxRecDepth 100000 in
theorem walk_RefsQuiet (a0 : Int) (a1 : Int) (a2 : Int) (w : World) (w0 : (Lit.int .u32 a0).wf = true) (w1 : (Lit.int .u64 a1).wf = true) (w2 : (Lit.int .u64 a2).wf = true) :
    Calls Try.prog 11 #[.int .u32 a0, .int .u64 a1, .int .u64 a2] w fun e w' => e = .returned (.bool true) ∧ Below w.heap.size w w' := by
  obtain ⟨u1, u2⟩ := bounds_u64 w1
  obtain ⟨s1, s2⟩ := bounds_u64 w2
  obtain ⟨r1, r2⟩ := bounds_u32 w0
  clear w0 w1 w2
  obtain ⟨n, hn⟩ : ∃ n, n = 1 + a0 % 1073741824 := ⟨_, rfl⟩
  have n1 : 1 ≤ n := by omega
  have n2 : n ≤ 1073741824 := by omega
  obtain ⟨m, hm⟩ : ∃ m : Int, m = 4294967296 + n := ⟨_, rfl⟩
  have hm5 : (5 : Int) ≠ m := by omega
  have hU : isU m := ⟨by omega, by omega⟩
  have cr := fun W => refw n W (by omega)
  rw [show reff n = m by unfold reff; rw [if_neg (by omega), hm]] at cr
  have CR := Lib.hid cr
  have cn : ∀ (G : Nat → Prop) (W : World) (A : Ad) (V : Wv), WdG G W A V → Calls Try.prog 46 #[.int .i64 n] W fun e w' => e = .returned (.pointer (some ⟨W.heap.size, 0, none⟩)) ∧ Tw G w' A V W.heap.size m 0 3 false ∧ Below W.heap.size W w' := fun G W A V h => by
    have := newTo h n n1 (by omega)
    rwa [← hm] at this
  have CN := Lib.hid cn
  have c1 := fun W => markedw a1 W u1 (by omega)
  have HU := Lib.hid hU
  have HNN := Lib.hid hn
  have hUv : isU a1 := ⟨u1, by omega⟩
  have hUs : isU a2 := ⟨s1, by omega⟩
  have HUV := Lib.hid hUv
  have HUS := Lib.hid hUs
  clear cr cn hm hU hn hUv hUs n1 n2
  go_enter Try.func11, Try.ntmps11
  go_wp2_with fail
  refine (world1 _).mono ?_
  rintro e w1 ⟨A, rfl, hW1, K1⟩
  have g1 := hW1.g K1.size
  have p1 := g1.box.c0
  have CS := Lib.hid (gstore g1 HU.out HUV.out (by rw [w1_cnt]; decide))
  have HK1 := Lib.hid K1
  clear hW1 K1 g1
  go_wp2_with fail
  rw [← HNN.out]
  refine (CR.out _).mono ?_
  rintro e w2 ⟨rfl, rfl⟩
  go_wp2_with fail
  refine CS.out.mono ?_
  rintro e w3 ⟨rfl, hW3, K3⟩
  obtain ⟨V3, hV3⟩ : ∃ V3, V3 = W1.acc (upd W1.f m a1) 2 m (W1.f m) a1 := ⟨_, rfl⟩
  rw [← hV3] at hW3
  have f3 : V3.f m = a1 := by rw [hV3]; exact acc_upd _ _ _ _ _ _ _ _
  have n3 : V3.cnt = 1 := by rw [hV3]; rfl
  have p3 := hW3.box.c0
  have CS2 := Lib.hid (gstore hW3 (a := 5) (v := a2) ⟨by decide, by decide⟩ HUS.out (by rw [n3]; decide))
  have HF3 := Lib.hid f3
  have HN3 := Lib.hid n3
  have HK3 := Lib.hid K3
  clear hV3 f3 n3 hW3 K3 CS p1
  go_wp2_with fail
  refine CS2.out.mono ?_
  rintro e w4 ⟨rfl, hW4, K4⟩
  obtain ⟨V4, hV4⟩ : ∃ V4, V4 = V3.acc (upd V3.f 5 a2) 2 5 (V3.f 5) a2 := ⟨_, rfl⟩
  rw [← hV4] at hW4
  have f4 : V4.f m = a1 := by rw [hV4]; exact (acc_other _ _ (Ne.symm hm5)).trans HF3.out
  have z4 : V4.f 5 = a2 := by rw [hV4]; exact acc_upd _ _ _ _ _ _ _ _
  have n4 : V4.cnt = 2 := by rw [hV4]; show V3.cnt + 1 = 2; rw [HN3.out]; rfl
  have HW4 := Lib.hid hW4
  have HF4 := Lib.hid f4
  have HZ4 := Lib.hid z4
  have HN4 := Lib.hid n4
  have HK4 := Lib.hid (Kp.to HK3.out K4)
  clear hV4 f4 z4 n4 hW4 K4 CS2 p3
  go_wp2_with fail
  refine (CN.out _ _ _ _ HW4.out).mono ?_
  rintro e w5 ⟨rfl, hT5, K5⟩
  have HK5 := Lib.hid (Kp.to HK4.out (Kp.of K5))
  clear K5
  generalize w4.heap.size = q at *
  have HT5 := Lib.hid hT5
  have ya : (a1 == a1) = true := by simp
  have ys : (a2 != a2) = false := by simp
  clear hT5
  by_cases hv : a1 % 2 = 1
  · have hvb : (a1 % 2 == 1) = true := by simpa using hv
    rw [hvb] at c1
    have C1 := Lib.hid c1
    have CRun := Lib.hid (runM HT5.out HU.out (by rw [HN4.out]; decide) HF4.out hvb)
    clear c1 hv hvb
    go_wp2_with fail
    refine CRun.out.mono ?_
    rintro e w6 ⟨rfl, V6, hT6, ⟨f6, o6, n6⟩, K6⟩
    have p6 := hT6.box.c0
    have cp := gpeek hT6.wdG HU.out
    rw [f6] at cp
    have cp5 := gpeek hT6.wdG (a := 5) ⟨by decide, by decide⟩
    rw [o6 5 hm5, HZ4.out] at cp5
    have CP := Lib.hid cp
    have CP5 := Lib.hid cp5
    have HT6 := Lib.hid hT6.to
    have HK6 := Lib.hid (Kp.to HK5.out K6)
    have yd : (a1 / 2 != a1 / 2) = false := by simp
    clear hT6 f6 o6 n6 K6 cp cp5 CRun
    go_wp2_with fail
    refine CP.out.mono ?_
    rintro e w7 ⟨rfl, rfl⟩
    go_wp2_with fail
    refine CP5.out.mono ?_
    rintro e w7 ⟨rfl, rfl⟩
    go_wp2_with fail
    refine (overw HT6.out rfl).mono ?_
    rintro e w7 ⟨rfl, rfl⟩
    go_wp2_with fail
    refine (C1.out _).mono ?_
    rintro e w7 ⟨rfl, rfl⟩
    go_wp2_with fail
    refine (donew HT6.out).mono ?_
    rintro e w7 ⟨rfl, rfl⟩
    go_wp2_with fail
    refine (lives22 _).mono ?_
    rintro e w8 ⟨rfl, K8⟩
    have hb := HK1.out.trans (Kp.below HK6.out HK1.out.size)
    have hfin := below_then hb K8
    clear K8 p6
    go_wp2_with fail
    go_ret
    exact ⟨rfl, hfin⟩
  · have hvb : (a1 % 2 == 1) = false := by simpa using hv
    rw [hvb] at c1
    have C1 := Lib.hid c1
    by_cases hs : a2 = 0
    · have hs1 : (a2 != 0) = false := by simpa using hs
      have CRun := Lib.hid (runU HT5.out HU.out (by rw [HN4.out]; decide) HF4.out hvb (by rw [HZ4.out, hs]))
      have c2 := fun W => markedw (a1 + 1) W (by omega) (by omega)
      rw [show ((a1 + 1) % 2 == 1) = true by simp; omega] at c2
      have C2 := Lib.hid c2
      have yd : ((a1 + 1) / 2 != a1 / 2) = false := by simp; omega
      have ub : a1 + 1 ≤ 18446744073709551615 := by omega
      clear c1 c2 hv hvb hs
      go_wp2_with fail
      refine CRun.out.mono ?_
      rintro e w6 ⟨rfl, V6, hT6, ⟨f6, o6, n6⟩, K6⟩
      have p6 := hT6.box.c0
      have cp := gpeek hT6.wdG HU.out
      rw [f6] at cp
      have cp5 := gpeek hT6.wdG (a := 5) ⟨by decide, by decide⟩
      rw [o6 5 hm5, HZ4.out] at cp5
      have CP := Lib.hid cp
      have CP5 := Lib.hid cp5
      have HT6 := Lib.hid hT6.to
      have HK6 := Lib.hid (Kp.to HK5.out K6)
      clear hT6 f6 o6 n6 K6 cp cp5 CRun
      go_wp2_with fail
      refine CP.out.mono ?_
      rintro e w7 ⟨rfl, rfl⟩
      go_wp2_with fail
      refine CP5.out.mono ?_
      rintro e w7 ⟨rfl, rfl⟩
      go_wp2_with fail
      refine (overw HT6.out rfl).mono ?_
      rintro e w7 ⟨rfl, rfl⟩
      go_wp2_with fail
      refine (C1.out _).mono ?_
      rintro e w7 ⟨rfl, rfl⟩
      go_wp2_with fail
      refine (C2.out _).mono ?_
      rintro e w7 ⟨rfl, rfl⟩
      go_wp2_with fail
      refine (donew HT6.out).mono ?_
      rintro e w7 ⟨rfl, rfl⟩
      go_wp2_with fail
      refine (lives22 _).mono ?_
      rintro e w8 ⟨rfl, K8⟩
      have hb := HK1.out.trans (Kp.below HK6.out HK1.out.size)
      have hfin := below_then hb K8
      clear K8 p6
      go_wp2_with fail
      go_ret
      exact ⟨rfl, hfin⟩
    · have hs1 : (a2 != 0) = true := by simpa using hs
      have CRun := Lib.hid (runS HT5.out HU.out (by rw [HN4.out]; decide) HF4.out hvb (by rw [HZ4.out]; simpa using hs))
      have yd : (a1 / 2 != a1 / 2) = false := by simp
      clear c1 hv hvb hs
      go_wp2_with fail
      refine CRun.out.mono ?_
      rintro e w6 ⟨rfl, V6, hT6, ⟨f6, o6, n6⟩, K6⟩
      have p6 := hT6.box.c0
      have cp := gpeek hT6.wdG HU.out
      rw [f6] at cp
      have cp5 := gpeek hT6.wdG (a := 5) ⟨by decide, by decide⟩
      rw [o6 5 hm5, HZ4.out] at cp5
      have CP := Lib.hid cp
      have CP5 := Lib.hid cp5
      have HT6 := Lib.hid hT6.to
      have HK6 := Lib.hid (Kp.to HK5.out K6)
      clear hT6 f6 o6 n6 K6 cp cp5 CRun
      go_wp2_with fail
      refine CP.out.mono ?_
      rintro e w7 ⟨rfl, rfl⟩
      go_wp2_with fail
      refine CP5.out.mono ?_
      rintro e w7 ⟨rfl, rfl⟩
      go_wp2_with fail
      refine (overw HT6.out rfl).mono ?_
      rintro e w7 ⟨rfl, rfl⟩
      go_wp2_with fail
      refine (C1.out _).mono ?_
      rintro e w7 ⟨rfl, rfl⟩
      go_wp2_with fail
      refine (donew HT6.out).mono ?_
      rintro e w7 ⟨rfl, rfl⟩
      go_wp2_with fail
      refine (lives22 _).mono ?_
      rintro e w8 ⟨rfl, K8⟩
      have hb := HK1.out.trans (Kp.below HK6.out HK1.out.size)
      have hfin := below_then hb K8
      clear K8 p6
      go_wp2_with fail
      go_ret
      exact ⟨rfl, hfin⟩
end Go.Proofs.Ytmdofhdjikapgaa
