/- Touches of an item: the examples of chapter 22. -/
import Derived.Test.YtmdofhdjikapgaaGreatTo3
namespace Go.Proofs.YtmdofhdjikapgaaGreat
open Go.RowKit Go.Maps
set_option linter.unusedVariables false

def lessF (v : Int) : Int := if v % 2 = 1 then IntKind.u64.wrap (v + 1) else v
theorem lessw (v : Int) (w : World) (h1 : 0 ≤ v) (h2 : v < 18446744073709551616) : Calls Tryz.prog 55 #[.int .u64 v] w fun e w' => e = .returned (.int .u64 (lessF v)) ∧ w = w' := by
  have CM := markedw v w h1 h2
  by_cases hv : v % 2 = 1
  · rw [show (v % 2 == 1) = true by simpa using hv] at CM
    have C := Lib.hid CM
    have e : lessF v = IntKind.u64.wrap (v + 1) := by unfold lessF; rw [if_pos hv]
    rw [e]
    clear CM e hv
    go_enter Tryz.func55, Tryz.ntmps55
    go_wp2_with fail
    refine C.out.mono ?_
    rintro e w' ⟨rfl, rfl⟩
    go_wp2_with fail
    go_ret
    exact ⟨rfl, rfl⟩
  · rw [show (v % 2 == 1) = false by simpa using hv] at CM
    have C := Lib.hid CM
    have e : lessF v = v := by unfold lessF; rw [if_neg hv]
    rw [e]
    clear CM e hv
    go_enter Tryz.func55, Tryz.ntmps55
    go_wp2_with fail
    refine C.out.mono ?_
    rintro e w' ⟨rfl, rfl⟩
    go_wp2_with fail
    go_ret
    exact ⟨rfl, rfl⟩
/-- The worlds of the examples. -/
def W1 : Wv := V0 ⟨1, 8, 3, 1, 16⟩
def IsW1 (w : World) (e : Ending) (w' : World) : Prop := ∃ A, e = .returned (.pointer (some ⟨A.p, 0, none⟩)) ∧ WdB w' A W1 w.heap.size ∧ Below w.heap.size w w'
theorem world1 (w : World) : Calls Tryz.prog 51 #[.int .i64 1] w (IsW1 w) := by
  have C := Lib.hid (newW 1 8 3 1 16 w (by decide))
  go_enter Tryz.func51, Tryz.ntmps51
  go_wp2_with fail
  refine C.out.mono ?_
  rintro e w1 ⟨A, rfl, hW, K⟩
  have HW := Lib.hid hW
  have HK := Lib.hid K
  clear hW K C
  go_wp2_with fail
  go_ret
  exact ⟨A, rfl, HW.out, HK.out⟩
theorem w1_f (z : Int) (h : z ≠ 2) : W1.f z = 0 := by show upd (fun _ => 0) 2 1 z = 0; exact upd_other h
theorem w1_cnt : W1.cnt = 0 := rfl
section
variable {G : Nat → Prop} {w : World} {A : Ad} {V : Wv} {q : Nat} {m v : Int}
/-- What a run leaves: its world's words, but for one; its touch. -/
def RunP (G : Nat → Prop) (w : World) (A : Ad) (V : Wv) (q : Nat) (m nv word : Int) (done : Bool) (k : Int) (e : Ending) (w' : World) : Prop := e = .returned (.int .i64 k) ∧ ∃ V' : Wv, Tw G w' A V' q m word 0 done ∧ (V'.f m = nv ∧ (∀ z, z ≠ m → V'.f z = V.f z) ∧ V'.cnt = V.cnt + k) ∧ Kp G w w'
theorem runU (h : Tw G w A V q m 0 3 false) (hm : isU m) (hc : V.cnt < 100000000) (hf : V.f m = v) (hv : (v % 2 == 1) = false) (h5 : V.f 5 = 0) :
    Calls Tryz.prog 53 #[.pointer (some ⟨A.p, 0, none⟩), .iface 55 (.pointer (some ⟨q, 0, none⟩)), .int .i64 9] w (RunP G w A V q m (v + 1) v true 3) := by
  refine (run_u h hm hc (by rw [hf]; exact hv) (by rw [h5]; rfl)).mono fun e w' ⟨he, ht, hk⟩ => ⟨he, _, (by rw [hf] at ht; exact ht), ⟨?_, fun z hz => ?_, ?_⟩, hk⟩
  · exact upd_same _ _ _
  · exact upd_other hz
  · show V.cnt + 1 + 1 + 1 = V.cnt + 3; omega
theorem runM (h : Tw G w A V q m 0 3 false) (hm : isU m) (hc : V.cnt < 100000000) (hf : V.f m = v) (hv : (v % 2 == 1) = true) :
    Calls Tryz.prog 53 #[.pointer (some ⟨A.p, 0, none⟩), .iface 55 (.pointer (some ⟨q, 0, none⟩)), .int .i64 9] w (RunP G w A V q m v v false 1) :=
  (run_m h hm hc (by rw [hf]; exact hv)).mono fun e w' ⟨he, ht, hk⟩ => ⟨he, V.acc V.f 1 m v v, (by rw [hf] at ht; exact ht), ⟨hf, fun z hz => rfl, rfl⟩, hk⟩
theorem runS (h : Tw G w A V q m 0 3 false) (hm : isU m) (hc : V.cnt < 100000000) (hf : V.f m = v) (hv : (v % 2 == 1) = false) (h5 : (V.f 5 == 0) = false) :
    Calls Tryz.prog 53 #[.pointer (some ⟨A.p, 0, none⟩), .iface 55 (.pointer (some ⟨q, 0, none⟩)), .int .i64 9] w (RunP G w A V q m v v false 2) := by
  refine (run_s h hm hc (by rw [hf]; exact hv) h5).mono fun e w' ⟨he, ht, hk⟩ => ⟨he, (V.acc V.f 1 m v v).acc V.f 1 5 (V.f 5) (V.f 5), (by rw [hf] at ht; exact ht), ⟨hf, fun z hz => rfl, ?_⟩, hk⟩
  show V.cnt + 1 + 1 = V.cnt + 2; omega
theorem WdG.less {G' : Nat → Prop} (h : WdG G w A V) (hG : ∀ k, G' k → G k) : WdG G' w A V := by
  obtain ⟨S, h1, h2, h3⟩ := h
  exact ⟨S, h1, fun k g => h2 k (hG k g), fun k g => h3 k (hG k g)⟩
end
set_option maxHeartbeats 2000000 in
set_option maxRecDepth 100000 in
theorem lives22 (w : World) : Calls Tryz.prog 12 #[] w fun e w' => e = .returned (.bool true) ∧ Below w.heap.size w w' := by
  obtain ⟨m, hm⟩ : ∃ m : Int, m = 4294967296 + 9 := ⟨_, rfl⟩
  have hm5 : (5 : Int) ≠ m := by omega
  have hm2 : m ≠ 2 := by omega
  have hU : isU m := ⟨by omega, by omega⟩
  have cr := fun W => refw 9 W (by decide)
  rw [show reff 9 = m by rw [hm]; rfl] at cr
  have CR := Lib.hid cr
  have cn : ∀ (G : Nat → Prop) (W : World) (A : Ad) (V : Wv), WdG G W A V → Calls Tryz.prog 13 #[.int .i64 9] W fun e w' => e = .returned (.pointer (some ⟨W.heap.size, 0, none⟩)) ∧ Tw G w' A V W.heap.size m 0 3 false ∧ Below W.heap.size W w'   := fun G W A V h => by
    have := newTo h 9 (by decide) (by decide)
    rwa [← hm] at this
  have CN := Lib.hid cn
  have CL := Lib.hid (fun W => lessw 1 W (by decide) (by decide))
  rw [show lessF 1 = 2 by rfl] at CL
  have HU := Lib.hid hU
  clear cr cn hm hU
  go_enter Tryz.func12, Tryz.ntmps12
  go_wp2_with fail
  refine (world1 _).mono ?_
  rintro e w1 ⟨A, rfl, hW1, K1⟩
  have g1 := hW1.g K1.size
  have HK1 := Lib.hid K1
  have HG1 := Lib.hid g1
  clear hW1 K1 g1
  go_wp2_with fail
  refine (CR.out _).mono ?_
  rintro e w2 ⟨rfl, rfl⟩
  go_wp2_with fail
  refine (CN.out _ _ _ _ HG1.out).mono ?_
  rintro e w2 ⟨rfl, hT2, K2⟩
  obtain ⟨q1, hq1⟩ : ∃ q1, q1 = w1.heap.size := ⟨_, rfl⟩
  rw [← hq1] at hT2 ⊢
  have HQ1 := Lib.hid hq1
  have HK2 := Lib.hid (Kp.of (G := fun k => k < w.heap.size) K2)
  have CRun := Lib.hid (runU hT2 HU.out (by rw [w1_cnt]; decide) (w1_f m hm2) (by decide) (w1_f 5 (by decide)))
  clear hq1 hT2 K2
  go_wp2_with fail
  refine CRun.out.mono ?_
  rintro e w3 ⟨rfl, V3, hT3, ⟨f3, o3, n3⟩, K3⟩
  clear CRun
  have p3 := hT3.box.c0
  have HX3 := Lib.hid hT3.to
  have hW3 := hT3.wdG
  have HF3 := Lib.hid f3
  have HO3 := Lib.hid o3
  have HN3 := Lib.hid (show V3.cnt = 3 by rw [n3]; rfl)
  have cp := gpeek hW3 HU.out
  rw [f3] at cp
  have CP := Lib.hid cp
  have HW3 := Lib.hid hW3
  have HK3 := Lib.hid (Kp.to HK2.out K3)
  clear hT3 f3 o3 n3 K3 hW3 cp
  go_wp2_with fail
  refine CP.out.mono ?_
  rintro e w4 ⟨rfl, rfl⟩
  clear p3 CP
  go_wp2_with fail
  refine (CN.out _ _ _ _ HW3.out).mono ?_
  rintro e w4 ⟨rfl, hT4, K4⟩
  have HK4 := Lib.hid (Kp.of (G := fun k => k < w.heap.size ∨ k = q1) K4)
  clear K4
  generalize w3.heap.size = q2 at *
  have CRun := Lib.hid (runM hT4 HU.out (by rw [HN3.out]; decide) HF3.out (by decide))
  clear hT4
  go_wp2_with fail
  refine CRun.out.mono ?_
  rintro e w5 ⟨rfl, V5, hT5, ⟨f5, o5, n5⟩, K5⟩
  clear CRun
  have p5 : w5.drew.cell? ⟨A.p, 0, none⟩ = some (.pointer (some ⟨A.pc, 0, none⟩)) := hT5.box.c0
  have hW5 : WdG (fun k => k < w.heap.size ∨ k = q1) w5.drew A V5 := (hT5.wdG.less (fun k g => .inl g)).new (Below.refl _ _).drew
  have z5 : V5.f 5 = 0 := by rw [o5 5 hm5, HO3.out 5 hm5]; exact w1_f 5 (by decide)
  have hn5 : V5.cnt = 4 := by rw [n5, HN3.out]; rfl
  have hf5 : V5.f m = 1 := by rw [f5]; rfl
  have HZ5 := Lib.hid z5
  have HN5 := Lib.hid hn5
  have HK5 := Lib.hid (Kp.to HK4.out K5)
  have cs := gstore hW5 HU.out (v := 2) ⟨by decide, by decide⟩ (by rw [hn5]; decide)
  rw [hf5] at cs
  have CS := Lib.hid cs
  clear hT5 f5 o5 n5 K5 hW5 z5 hn5 hf5 cs
  go_wp2_with fail
  go_region_held3 (fun w' => w'.cell? ⟨A.p, 0, none⟩ = some (.pointer (some ⟨A.pc, 0, none⟩)))
    (first | assumption)
    (first
      | (go_at_call 55; ((with_reducible refine (CL.out _).mono ?_); rintro e w6 ⟨rfl, rfl⟩))
      | (go_at_call 54; ((with_reducible refine CS.out.mono ?_); rintro e w6 ⟨rfl, hW6, K6⟩; replace p5 := hW6.box.c0; have HW6 := Lib.hid hW6; have HK6 := Lib.hid (Kp.to (Keeps.drew HK5.out) K6); clear CS hW6 K6)))
  clear p5
  obtain ⟨V6, hV6⟩ : ∃ V6, V6 = V5.acc (upd V5.f m 2) 2 m 1 2 := ⟨_, rfl⟩
  rw [← hV6] at HW6
  have f6 : V6.f m = 2 := by rw [hV6]; exact acc_upd _ _ _ _ _ _ _ _
  have z6 : V6.f 5 = 0 := by rw [hV6]; exact (acc_other _ _ hm5).trans HZ5.out
  have n6 : V6.cnt = 5 := by rw [hV6]; show V5.cnt + 1 = 5; rw [HN5.out]; rfl
  have HF6 := Lib.hid f6
  have HZ6 := Lib.hid z6
  have HN6 := Lib.hid n6
  clear hV6 f6 z6 n6
  go_wp2_with fail
  refine (CN.out _ _ _ _ HW6.out).mono ?_
  rintro e w7 ⟨rfl, hT7, K7⟩
  have HK7 := Lib.hid (Kp.to HK6.out (Kp.of K7))
  clear K7
  generalize w6.heap.size = q3 at *
  have CRun := Lib.hid (runU hT7 HU.out (by rw [HN6.out]; decide) HF6.out (by decide) HZ6.out)
  clear hT7
  go_wp2_with fail
  refine CRun.out.mono ?_
  rintro e w8 ⟨rfl, V8, hT8, ⟨f8, o8, n8⟩, K8⟩
  clear CRun
  have p8 := hT8.box.c0
  have hW8 : WdG (fun k => k < w.heap.size ∨ k = q1) w8 A V8 := hT8.wdG.less (fun k g => .inl g)
  have z8 : V8.f 5 = 0 := by rw [o8 5 hm5]; exact HZ6.out
  have hn8 : V8.cnt = 8 := by rw [n8, HN6.out]; rfl
  have hf8 : V8.f m = 3 := by rw [f8]; rfl
  have cp := gpeek hW8 HU.out
  rw [hf8] at cp
  have CP := Lib.hid cp
  have cs := gstore hW8 HU.out (v := 2) ⟨by decide, by decide⟩ (by rw [hn8]; decide)
  rw [hf8] at cs
  have CS := Lib.hid cs
  have HZ8 := Lib.hid z8
  have HN8 := Lib.hid hn8
  have HK8 := Lib.hid (Kp.to HK7.out K8)
  clear hT8 f8 o8 n8 K8 hW8 z8 hn8 hf8 cs cp
  go_wp2_with fail
  refine CP.out.mono ?_
  rintro e w9 ⟨rfl, rfl⟩
  clear CP
  go_wp2_with fail
  refine CS.out.mono ?_
  rintro e w9 ⟨rfl, hW9, K9⟩
  obtain ⟨V9, hV9⟩ : ∃ V9, V9 = V8.acc (upd V8.f m 2) 2 m 3 2 := ⟨_, rfl⟩
  rw [← hV9] at hW9
  have f9 : V9.f m = 2 := by rw [hV9]; exact acc_upd _ _ _ _ _ _ _ _
  have z9 : V9.f 5 = 0 := by rw [hV9]; exact (acc_other _ _ hm5).trans HZ8.out
  have n9 : V9.cnt = 9 := by rw [hV9]; show V8.cnt + 1 = 9; rw [HN8.out]; rfl
  have p9 := hW9.box.c0
  have cs := gstore hW9 (a := 5) (v := 1) ⟨by decide, by decide⟩ ⟨by decide, by decide⟩ (by rw [n9]; decide)
  rw [z9] at cs
  have CS2 := Lib.hid cs
  have HF9 := Lib.hid f9
  have HN9 := Lib.hid n9
  have HK9 := Lib.hid (Kp.to HK8.out K9)
  clear hV9 f9 z9 n9 hW9 K9 cs CS p8
  go_wp2_with fail
  refine CS2.out.mono ?_
  rintro e w10 ⟨rfl, hW10, K10⟩
  obtain ⟨V10, hV10⟩ : ∃ V10, V10 = V9.acc (upd V9.f 5 1) 2 5 0 1 := ⟨_, rfl⟩
  rw [← hV10] at hW10
  have f10 : V10.f m = 2 := by rw [hV10]; exact (acc_other _ _ (Ne.symm hm5)).trans HF9.out
  have z10 : (V10.f 5 == 0) = false := by rw [hV10, acc_upd]; rfl
  have n10 : V10.cnt = 10 := by rw [hV10]; show V9.cnt + 1 = 10; rw [HN9.out]; rfl
  have HF10 := Lib.hid f10
  have HZ10 := Lib.hid z10
  have HN10 := Lib.hid n10
  have HW10 := Lib.hid hW10
  have HK10 := Lib.hid (Kp.to HK9.out K10)
  clear hV10 f10 z10 n10 hW10 K10 p9 CS2
  go_wp2_with fail
  refine (CN.out _ _ _ _ HW10.out).mono ?_
  rintro e w11 ⟨rfl, hT11, K11⟩
  have HK11 := Lib.hid (Kp.to HK10.out (Kp.of K11))
  clear K11
  generalize w10.heap.size = q4 at *
  have CRun := Lib.hid (runS hT11 HU.out (by rw [HN10.out]; decide) HF10.out (by decide) HZ10.out)
  clear hT11
  go_wp2_with fail
  refine CRun.out.mono ?_
  rintro e w12 ⟨rfl, V12, hT12, _, K12⟩
  clear CRun
  have hKX := Kp.to HK11.out K12
  have hX12 : IsTo w12 q1 m 0 0 true := HX3.out.keep hKX (by simp)
  have HX12 := Lib.hid hX12
  have HY12 := Lib.hid hT12.to
  have HK12 := Lib.hid (Kp.to HK3.out (hKX.less (fun k g => .inl g)))
  clear hT12 K12 hKX hX12
  go_wp2_with fail
  refine (donew HX12.out).mono ?_
  rintro e w13 ⟨rfl, rfl⟩
  go_wp2_with fail
  refine (CL.out _).mono ?_
  rintro e w13 ⟨rfl, rfl⟩
  go_wp2_with fail
  refine (donew HY12.out).mono ?_
  rintro e w13 ⟨rfl, rfl⟩
  go_wp2_with fail
  go_ret
  exact ⟨rfl, HK1.out.trans (Kp.below HK12.out HK1.out.size)⟩
end Go.Proofs.YtmdofhdjikapgaaGreat
