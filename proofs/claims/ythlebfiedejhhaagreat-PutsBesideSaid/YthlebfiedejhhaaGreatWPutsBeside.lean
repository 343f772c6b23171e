/- The law PutsBeside. -/
import Derived.Test.YthlebfiedejhhaaGreatPb
import Derived.Test.YthlebfiedejhhaaGreatStW
import Derived.Test.YthlebfiedejhhaaGreatZr
import Derived.Test.YthlebfiedejhhaaGreatGBg
import Derived.Test.YthlebfiedejhhaaGreatGPu
import Derived.Test.YthlebfiedejhhaaGreatPuN
import Derived.Test.YthlebfiedejhhaaGreatOpen
import Derived.Deep.Cut
import Derived.Deep.CutBlock
import Derived.Deep.RegionHeld3
import Derived.Deep.CutRange
namespace Go.Proofs.YthlebfiedejhhaaGreat
open Go.RowKit Go.Maps
set_option linter.unusedVariables false
set_option maxHeartbeats 8000000 in
set_option maxRecDepth 100000 in
theorem walk_PutsBeside (a0_0 : Int) (a0_1 : Int) (a0_2 : Int) (a0_3 : Int) (a0_4 : Int) (a0_5 : Bool) (a0_6 : Option Addr) (l0_6 c0_6 : Nat) (a0_7 : Option Addr) (l0_7 c0_7 : Nat) (a0_8 : Option Addr) (l0_8 c0_8 : Nat) (a0_9 : Int) (a0_10 : Int) (a0_11 : Int) (a0_12 : Int) (a0_13 : Int) (a0_14 : Int) (a0_15 : Bool) (w : World) (w0_0 : (Lit.int .i64 a0_0).wf = true) (w0_1 : (Lit.int .i64 a0_1).wf = true) (w0_2 : (Lit.int .i64 a0_2).wf = true) (w0_3 : (Lit.int .i64 a0_3).wf = true) (w0_4 : (Lit.int .i64 a0_4).wf = true) (w0_6 : Reads Tryz.prog w 24 (.slice a0_6 l0_6 c0_6)) (w0_7 : Reads Tryz.prog w 25 (.slice a0_7 l0_7 c0_7)) (w0_8 : Reads Tryz.prog w 26 (.slice a0_8 l0_8 c0_8)) (w0_9 : (Lit.int .i64 a0_9).wf = true) (w0_10 : (Lit.int .u8 a0_10).wf = true) (w0_11 : (Lit.int .u8 a0_11).wf = true) (w0_12 : (Lit.int .u8 a0_12).wf = true) (w0_13 : (Lit.int .u8 a0_13).wf = true) (w0_14 : (Lit.int .u16 a0_14).wf = true) :
    Calls Tryz.prog 9 #[.agg #[.int .i64 a0_0, .int .i64 a0_1, .int .i64 a0_2, .int .i64 a0_3, .int .i64 a0_4, .bool a0_5, .slice a0_6 l0_6 c0_6, .slice a0_7 l0_7 c0_7, .slice a0_8 l0_8 c0_8, .int .i64 a0_9, .int .u8 a0_10, .int .u8 a0_11, .int .u8 a0_12, .int .u8 a0_13, .int .u16 a0_14, .bool a0_15]] w fun e w' => e = .returned (.bool true) ∧ Below w.heap.size w w' := by
  obtain ⟨L, hLl, hG, hBg⟩ := first_open w0_6 w0_7 w0_8 a0_0 a0_1 a0_2 a0_3 a0_4 a0_9 a0_5
  have hq0 := bounds_u8 w0_10
  have hq1 := bounds_u8 w0_11
  have hq2 := bounds_u8 w0_12
  have hq3 := bounds_u8 w0_13
  have hq4 := bounds_u16 w0_14
  have CG := Lib.hid hG
  have CB := Lib.hid hBg
  have HLL := Lib.hid hLl
  have HQ := Lib.hid (And.intro hq0 (And.intro hq1 (And.intro hq2 (And.intro hq3 hq4))))
  clear hG hBg hLl hq0 hq1 hq2 hq3 hq4 w0_0 w0_1 w0_2 w0_3 w0_4 w0_6 w0_7 w0_8 w0_9 w0_10 w0_11 w0_12 w0_13 w0_14
  go_enter Tryz.func9, Tryz.ntmps9
  go_wp2_with fail
  obtain ⟨F, hF⟩ : ∃ F, F = w.heap.size := ⟨_, rfl⟩
  generalize hW : World.alloc w _ = W
  have bW : Below w.heap.size w W := by rw [← hW]; exact (Below.refl _ _).alloc (Nat.le_refl _) _
  have HBW := Lib.hid bW
  have KEEP : Hid (∀ X, Below W.heap.size W X → X.cell? ⟨F, 0, none⟩ = some (.int .i64 a0_0) ∧ X.cell? ⟨F, 1, none⟩ = some (.int .i64 a0_1) ∧ X.cell? ⟨F, 2, none⟩ = some (.int .i64 a0_2) ∧ X.cell? ⟨F, 3, none⟩ = some (.int .i64 a0_3) ∧ X.cell? ⟨F, 4, none⟩ = some (.int .i64 a0_4) ∧ X.cell? ⟨F, 5, none⟩ = some (.bool a0_5) ∧ X.cell? ⟨F, 6, none⟩ = some (.slice a0_6 l0_6 c0_6) ∧ X.cell? ⟨F, 7, none⟩ = some (.slice a0_7 l0_7 c0_7) ∧ X.cell? ⟨F, 8, none⟩ = some (.slice a0_8 l0_8 c0_8) ∧ X.cell? ⟨F, 9, none⟩ = some (.int .i64 a0_9) ∧ X.cell? ⟨F, 10, none⟩ = some (.int .u8 a0_10) ∧ X.cell? ⟨F, 11, none⟩ = some (.int .u8 a0_11) ∧ X.cell? ⟨F, 12, none⟩ = some (.int .u8 a0_12) ∧ X.cell? ⟨F, 13, none⟩ = some (.int .u8 a0_13) ∧ X.cell? ⟨F, 14, none⟩ = some (.int .u16 a0_14) ∧ X.cell? ⟨F, 15, none⟩ = some (.bool a0_15)) := Lib.hid (fun X hb => by
    have lt : F < W.heap.size := by rw [← hW, hF]; simp
    have up : ∀ {j v}, W.cell? ⟨F, j, none⟩ = some v → X.cell? ⟨F, j, none⟩ = some v := fun {j v} hc => (hb.cell (p := ⟨F, j, none⟩) lt).trans hc
    refine ⟨up ?_, up ?_, up ?_, up ?_, up ?_, up ?_, up ?_, up ?_, up ?_, up ?_, up ?_, up ?_, up ?_, up ?_, up ?_, up ?_⟩ <;> (rw [← hW, hF]; exact new_at rfl rfl))
  rw [← hF]
  clear hW bW hF
  refine (CG.out _ HBW.out).mono ?_
  rintro e w1 ⟨r, rfl, k1, hr⟩
  obtain ⟨f0, f1, f2, f3, f4, f5, f6, f7, f8, f9, f10, f11, f12, f13, f14, f15⟩ := KEEP.out _ k1
  have HB1 := Lib.hid (below_then HBW.out k1)
  have HK1 := Lib.hid k1
  clear k1
  cases r with
  | true =>
    clear f0 f1 f2 f3 f4 f5 f6 f7 f8 f9 f10 f11 f12 f13 f14 f15 hr
    go_wp2_with (go_at_call 37; refine (lives13 _).mono ?_; rintro e w9 ⟨rfl, hk9⟩)
    go_ret
    exact ⟨rfl, below_then HB1.out hk9⟩
  | false =>
    have HBIG := Lib.hid (show BigOk l0_6 l0_7 l0_8 L from hr rfl)
    clear hr
    go_wp2_with fail
    refine (CB.out _ HB1.out HBIG.out).mono ?_
    rintro e w2 ⟨A, R, V, S, T, rfl, hP, ⟨hM0, -, -⟩, -, hI, hcnt, hST, k2⟩
    have hPG : PwG (fun k => k < w1.heap.size) w2 A R V := PwG.of_begin (L := L) hP hST k2
    have HG2 := Lib.hid hPG.wd
    have HB2 := Lib.hid (below_then HB1.out k2)
    have HC := Lib.hid hcnt
    clear hP hM0 hI hcnt hST hPG f0 f1 f2 f3 f4 f5 f6 f7 f8 f9 f10 f11 f12 f13 f14 f15 CG CB
    obtain ⟨-, -, -, -, -, -, -, -, -, -, f10, f11, f12, -, -, -⟩ := KEEP.out _ (below_then HK1.out k2)
    obtain ⟨q0, q1, q2, q3, q4⟩ := HQ.out
    obtain ⟨p, hp, hp4⟩ : ∃ p : Nat, a0_10.tmod 4 = (p : Int) ∧ p < 4 := ⟨(a0_10.tmod 4).toNat, by rw [Int.tmod_eq_emod_of_nonneg q0.1]; omega, by rw [Int.tmod_eq_emod_of_nonneg q0.1]; omega⟩
    obtain ⟨B, hB⟩ : ∃ B : Nat, B = p + 1 := ⟨_, rfl⟩
    have yp : IntKind.i64.wrap (p : Int) = (p : Int) := IntWalk.i64_in _ (by omega)
    have yB : IntKind.i64.wrap (1 + (p : Int)) = (B : Int) := by rw [IntWalk.i64_in _ (by omega)]; omega
    have y11 : IntKind.i64.wrap a0_11 = a0_11 := IntWalk.i64_in _ (by omega)
    have y12 : IntKind.i64.wrap a0_12 = a0_12 := IntWalk.i64_in _ (by omega)
    have hBr : 1 ≤ B ∧ B ≤ 4 := by omega
    obtain ⟨K, hK, hKr⟩ : ∃ K : Nat, a0_11.tmod ((2 ^ B : Nat) : Int) = (K : Int) ∧ K < 2 ^ B := by
      have h1 := Int.emod_nonneg a0_11 (show ((2 ^ B : Nat) : Int) ≠ 0 by have := Nat.two_pow_pos B; omega)
      have h2 := Int.emod_lt_of_pos a0_11 (show (0 : Int) < ((2 ^ B : Nat) : Int) by have := Nat.two_pow_pos B; omega)
      exact ⟨(a0_11.tmod ((2 ^ B : Nat) : Int)).toNat, by rw [Int.tmod_eq_emod_of_nonneg q1.1]; omega, by rw [Int.tmod_eq_emod_of_nonneg q1.1]; omega⟩
    obtain ⟨S4, hS, hSr⟩ : ∃ S4 : Nat, a0_12.tmod 4 = (S4 : Int) ∧ S4 < 4 := ⟨(a0_12.tmod 4).toNat, by rw [Int.tmod_eq_emod_of_nonneg q2.1]; omega, by rw [Int.tmod_eq_emod_of_nonneg q2.1]; omega⟩
    have CS := Lib.hid (spotw (b := (B : Int)) (m := ((2 ^ B : Nat) : Int)) (by rcases four_szf hBr with ⟨rfl, -, e⟩ | ⟨rfl, -, e⟩ | ⟨rfl, -, e⟩ | ⟨rfl, -, e⟩ <;> simp [e]) hK hS (by rcases four_szf hBr with ⟨rfl, -, e⟩ | ⟨rfl, -, e⟩ | ⟨rfl, -, e⟩ | ⟨rfl, -, e⟩ <;> rw [e] at hKr <;> omega) (by omega) w2)
    have HW1s := Lib.hid HB1.out.size
    have HBK := Lib.hid (And.intro hBr (And.intro hKr hSr))
    have HK2 := Lib.hid (below_then HK1.out k2)
    have hfl := pair_w2 A.p R.p
    clear hK hS hB hBr hKr hSr q0 q1 q2 q3 q4 hp4 k2
    go_upto_region 5 with (go_at_call 50; ((with_reducible refine CS.out.mono ?_); rintro e w3 ⟨rfl, hb3⟩))
    clear hfl hp yp yB y11 y12 f10 f11 f12 CS
    obtain ⟨P, hP⟩ : ∃ P, P = w3.heap.size := ⟨_, rfl⟩
    generalize hW4 : World.alloc w3 _ = W4
    rw [← hP]
    have hb4 : Below w3.heap.size w3 W4 := by rw [← hW4]; exact bs_alloc (Below.refl _ _)
    have p0 : W4.cell? ⟨P, 0, none⟩ = some (.int .i64 B) := by rw [← hW4, hP]; exact new_at rfl rfl
    have p1 : W4.cell? ⟨P, 1, none⟩ = some (.int .i64 K) := by rw [← hW4, hP]; exact new_at rfl rfl
    have p2 : W4.cell? ⟨P, 2, none⟩ = some (.int .i64 S4) := by rw [← hW4, hP]; exact new_at rfl rfl
    have hP4 : P < W4.heap.size ∧ w3.heap.size ≤ P ∧ w2.heap.size ≤ w3.heap.size := ⟨by rw [← hW4, hP]; simp, by omega, hb3.size⟩
    have HP4 := Lib.hid (And.intro p0 (And.intro p1 (And.intro p2 hP4)))
    have HB34 := Lib.hid (below_then hb3 hb4)
    clear hW4 hb3 hb4 p0 p1 p2 hP hP4
    have hz := zrow (t := 130) (n := 120) (v := .int .i64 0) (by kernel_rfl) W4
    go_upto_region 6 with (fail)
    clear hz
    obtain ⟨T, hT⟩ : ∃ T, T = W4.heap.size := ⟨_, rfl⟩
    generalize hW5 : World.alloc W4 _ = W5
    rw [← hT]
    have hb5 : Below W4.heap.size W4 W5 := by rw [← hW5]; exact bs_alloc (Below.refl _ _)
    have t5 : Zr W5 T 120 .i64 (fun _ => 0) := by rw [← hW5]; exact Zr.first hT
    have hT5 : T < W5.heap.size := by rw [← hW5, hT]; simp
    have HT5 := Lib.hid (And.intro hT (And.intro hT5 t5))
    have HB5 := Lib.hid hb5
    clear hW5 hT hT5 t5 hb5
    have hz := zrow (t := 131) (n := 120) (v := .int .u64 0) (by kernel_rfl) W5
    go_upto_region 7 with (fail)
    clear hz
    obtain ⟨I, hI⟩ : ∃ I, I = W5.heap.size := ⟨_, rfl⟩
    generalize hW6 : World.alloc W5 _ = W6
    rw [← hI]
    have hb6 : Below W5.heap.size W5 W6 := by rw [← hW6]; exact bs_alloc (Below.refl _ _)
    have t6 : Zr W6 I 120 .u64 (fun _ => 0) := by rw [← hW6]; exact Zr.first hI
    have hI6 : I < W6.heap.size := by rw [← hW6, hI]; simp
    have hb26 : Below w2.heap.size w2 W6 := below_then (below_then HB34.out HB5.out) hb6
    have s2 := HB34.out.size
    have s5 := HB5.out.size
    have s6 := hb6.size
    have HT0 := Lib.hid (show PbT W6 W6 T I V.f 0 from ⟨_, _, HT5.out.2.2.keep (U := fun _ => False) (Keeps.of_new hb6) (fun s => s), t6, fun i hi => by omega, Keeps.refl _ _⟩)
    have HTI := Lib.hid (show T ≠ I ∧ (w2.heap.size ≤ T ∧ T < W6.heap.size) ∧ (w2.heap.size ≤ I ∧ I < W6.heap.size) ∧ P ≠ T ∧ P ≠ I ∧ (w2.heap.size ≤ P ∧ P < W6.heap.size) by have h1 := HT5.out.1; have h2 := HT5.out.2.1; have h3 := HP4.out.2.2.2; have h0 := h3.2.2; have h4 := HB34.out.size; omega)
    obtain ⟨G, hG⟩ : ∃ G : Nat → Prop, G = fun k => k < w1.heap.size ∨ (w2.heap.size ≤ k ∧ k < W6.heap.size) := ⟨_, rfl⟩
    have HGG := Lib.hid hG
    have H6 := Lib.hid (show WdG G W6 A V by rw [hG]; exact HG2.out.addN hb26)
    have HK6 := Lib.hid (below_then HK2.out hb26)
    have P6 := Lib.hid (show W6.cell? ⟨P, 0, none⟩ = some (.int .i64 B) ∧ W6.cell? ⟨P, 1, none⟩ = some (.int .i64 K) ∧ W6.cell? ⟨P, 2, none⟩ = some (.int .i64 S4) from by
      obtain ⟨a, b, c, d, -⟩ := HP4.out
      have hb := below_then HB5.out hb6
      exact ⟨(hb.cell (p := ⟨P, 0, none⟩) d).trans a, (hb.cell (p := ⟨P, 1, none⟩) d).trans b, (hb.cell (p := ⟨P, 2, none⟩) d).trans c⟩)
    have HB6 := Lib.hid (below_then HB2.out hb26)
    clear hW6 hI hb6 t6 hI6 hb26 s2 s5 s6 HT5 HB5 HB34 HP4 hG HB1 HBW
    go_wp2_with fail
    go_loopw [7, 8, 9] (fun n bt _ X => ∃ b : Nat, 1 ≤ b ∧ b ≤ 5 ∧ n = .int .i64 (pB b) ∧ bt = .int .i64 b ∧ PbT W6 X T I V.f (pB b)) (fun _ bt _ _ => 5 - (intOf bt).toNat)
    case atStart => exact ⟨1, by omega, by omega, rfl, rfl, HT0.out⟩
    case round =>
      obtain ⟨b, b1, b5, rfl, rfl, hTb⟩ := hrel
      by_cases hlt : b < 5
      · have d5 : decide ((b : Int) < 5) = true := decide_eq_true (by omega)
        have d5' : decide (b < 5) = true := decide_eq_true hlt
        have hb4 : 1 ≤ b ∧ b ≤ 4 := by omega
        have HTb := Lib.hid (show PbT W6 wr T I V.f (pB b + 0) from hTb)
        have HB4 := Lib.hid hb4
        have CW := Lib.hid (fun X => wordB b hb4 X)
        have CSp := Lib.hid (fun X => spotsB b hb4 X)
        have ypb : ∀ k : Nat, k < 4 * 2 ^ b → pB b + k < 120 := fun k hk => (bN_at hb4 hk).2.1
        obtain ⟨N, hN⟩ : ∃ N, N = 4 * 2 ^ b := ⟨_, rfl⟩
        have HN := Lib.hid hN
        rw [← hN] at CSp ypb
        have hN64 : N ≤ 64 := by rcases four_szf hb4 with ⟨rfl, -, e⟩ | ⟨rfl, -, e⟩ | ⟨rfl, -, e⟩ | ⟨rfl, -, e⟩ <;> omega
        obtain ⟨n0, hn0⟩ : ∃ n0, n0 = pB b := ⟨_, rfl⟩
        have HN0 := Lib.hid hn0
        rw [← hn0] at HTb ypb
        rw [← hn0]
        have HY := Lib.hid ypb
        have HBB := Lib.hid (And.intro b1 hlt)
        clear hTb hb4 b1 b5 hN hn0 ypb
        go_wp2_with fail
        go_loopw [7, 9] (fun n kk X => ∃ k : Nat, k ≤ N ∧ n = .int .i64 ((n0 + k : Nat) : Int) ∧ kk = .int .i64 k ∧ PbT W6 X T I V.f (n0 + k)) (fun _ kk _ => N - (intOf kk).toNat)
        case atStart => exact ⟨0, by omega, rfl, rfl, HTb.out⟩
        case round =>
          obtain ⟨k, hk, rfl, rfl, hT1⟩ := hrel
          by_cases hkn : k < N
          · have dk : decide ((k : Int) < (N : Int)) = true := decide_eq_true (by omega)
            have dk' : decide (k < N) = true := decide_eq_true hkn
            obtain ⟨i, hi⟩ : ∃ i, i = n0 + k := ⟨_, rfl⟩
            have hi120 : i < 120 := by have := HY.out k hkn; omega
            rw [← hi]
            have d120 : decide ((i : Int) < 120) = true := decide_eq_true (by omega)
            have d120' : decide (i < 120) = true := decide_eq_true hi120
            have HT1 := Lib.hid (show PbT W6 wr T I V.f i by rw [hi]; exact hT1)
            have HI := Lib.hid hi
            have CA := Lib.hid (fun X => atB b k HB4.out (by rw [← HN.out]; exact hkn) X)
            have CSl : Hid (∀ X, Below wr.heap.size wr X → Calls Tryz.prog 53 #[.pointer (some ⟨A.p, 0, none⟩), .agg #[.int .i64 b, .int .i64 ((k / 4 : Nat) : Int), .int .i64 ((k % 4 : Nat) : Int)]] X fun e w' => e = .returned (.tuple #[.int .i64 (tgI V.f i), .int .u64 (itI V.f i)]) ∧ Below X.heap.size X w') := Lib.hid (fun X hb => by
              have hX : WdG G X A V := (H6.out.keep hT1.kp (fun j e => by rw [HGG.out]; have := HTI.out; omega)).new hb
              have := slotw hX b ((k / 4 : Nat) : Int) ((k % 4 : Nat) : Int)
              rw [hi, HN0.out, tgI_at _ HB4.out (by rw [← HN.out]; exact hkn), itI_at _ HB4.out (by rw [← HN.out]; exact hkn)]
              exact this)
            obtain ⟨tv, htv⟩ : ∃ tv, tv = tgI V.f i := ⟨_, rfl⟩
            obtain ⟨iv, hiv⟩ : ∃ iv, iv = itI V.f i := ⟨_, rfl⟩
            rw [← htv, ← hiv] at CSl
            have HV := Lib.hid (And.intro htv hiv)
            have HKN := Lib.hid (And.intro hk hkn)
            clear hT1 hi htv hiv hk
            generalize k / 4 = kk at *
            generalize k % 4 = ks at *
            go_upto_region 14 with (first
              | (go_at_call 52; ((with_reducible refine (CW.out _).mono ?_); rintro e x1 ⟨rfl, rfl⟩))
              | (go_at_call 51; ((with_reducible refine (CSp.out _).mono ?_); rintro e x2 ⟨rfl, hx2⟩)))
            go_upto_region 15 with (first
              | (go_at_call 52; ((with_reducible refine (CW.out _).mono ?_); rintro e x3 ⟨rfl, rfl⟩))
              | (go_at_call 54; ((with_reducible refine (CA.out _).mono ?_); rintro e x4 ⟨rfl, hx4⟩; have hb4 := below_then hx2 hx4))
              | (go_at_call 53; go_loud ((with_reducible refine (CSl.out _ hb4).mono ?_); rintro e x5 ⟨rfl, hx5⟩; have HB5 := Lib.hid (below_then hb4 hx5); clear hx2 hx4 hb4 hx5; obtain ⟨tx, ty, tc0, tf0, tc1, tf1, -⟩ := (HT1.out.new HB5.out).at_ hi120; have tc1' := (World.cell?_setCell_other x5 ⟨T, i, none⟩ ⟨I, i, none⟩ (.int .i64 tv) (by intro e; injection e with e _; exact HTI.out.1 e)).trans tc1; have tf1' : (x5.setCell ⟨T, i, none⟩ (.int .i64 tv)).frozen? ⟨I, i, none⟩ = false := (by rw [World.frozen?_setCell]; exact tf1); have j0 : (0 : Int) ≤ (i : Int) := (by omega); have j1 : (i : Int) < 120 := (by omega))))
            have hP := Lib.hid ((HT1.out.new HB5.out).put hi120 HTI.out.1 HV.out.1 HV.out.2)
            clear tc0 tf0 tc1 tf1 tc1' tf1' d120 d120' dk dk'
            generalize World.setCell (World.setCell x5 _ _) _ _ = x6 at *
            go_wp2_with fail
            go_roundw
            case rel => exact ⟨k + 1, by have := HKN.out; omega, by rw [show ((n0 + (k + 1) : Nat) : Int) = (i : Int) + 1 by have := HI.out; omega], by go_num, by rw [show n0 + (k + 1) = i + 1 by have := HI.out; omega]; exact hP.out⟩
            case measure => have := HKN.out; simp [intOf]; omega
          · obtain rfl : k = N := by omega
            have dk : decide ((k : Int) < (k : Int)) = false := decide_eq_false (by omega)
            have dk' : decide (k < k) = false := decide_eq_false (by omega)
            have HT1 := Lib.hid hT1
            clear hT1 hkn hk
            go_wp2_with (first
              | (go_at_call 52; ((with_reducible refine (CW.out _).mono ?_); rintro e x1 ⟨rfl, rfl⟩))
              | (go_at_call 51; ((with_reducible refine (CSp.out _).mono ?_); rintro e x2 ⟨rfl, hx2⟩)))
            go_roundw
            case rel => exact ⟨b + 1, by omega, by have := HBB.out; omega, by rw [← pB_next HB4.out, ← HN.out, ← HN0.out]; simp, by go_num, by rw [← pB_next HB4.out, ← HN.out, ← HN0.out]; exact HT1.out.new hx2⟩
            case measure => have := HBB.out; simp [intOf]; omega
      · obtain rfl : b = 5 := by omega
        have d5 : decide (((5 : Nat) : Int) < 5) = false := by decide
        have HT1 := Lib.hid (show PbT W6 wr T I V.f 120 from hTb)
        have hkp := hTb.kp
        have hKw : Below W.heap.size W wr := HK6.out.trans (hkp.to_below (fun j _ e => by have := HTI.out; have := HK2.out.size; omega) HK6.out.size)
        have H7 := Lib.hid (H6.out.keep hkp (fun j e => by rw [HGG.out]; have := HTI.out; omega))
        obtain ⟨p0', p1', p2'⟩ := P6.out
        have p0 := hkp.cell (p := ⟨P, 0, none⟩) (by have := HTI.out; show ¬ (P = T ∨ P = I); omega) p0'
        have p1 := hkp.cell (p := ⟨P, 1, none⟩) (by have := HTI.out; show ¬ (P = T ∨ P = I); omega) p1'
        have p2 := hkp.cell (p := ⟨P, 2, none⟩) (by have := HTI.out; show ¬ (P = T ∨ P = I); omega) p2'
        have HPw := Lib.hid (And.intro p0 (And.intro p1 p2))
        have hBw : Below w.heap.size w wr := HB6.out.trans (hkp.to_below (fun j _ e => by have := HTI.out; have := HB2.out.size; omega) HB6.out.size)
        have HBw := Lib.hid hBw
        have HKw := Lib.hid hKw
        have HNE := Lib.hid (spot_ne HBK.out.1 HBK.out.1 HBK.out.2.1 HBK.out.2.1 HBK.out.2.2 HBK.out.2.2)
        have CO := Lib.hid (newOut B K S4 wr (z := 3) (by rw [if_pos HNE.out.2.2.2.2]))
        clear hTb hlt b1 b5 HT0 hkp hKw p0' p1' p2' hBw
        go_upto_region 17 with (go_at_call 40; ((with_reducible refine CO.out.mono ?_); rintro e w8 ⟨qo, rfl, ho, hqo, hb8⟩))
        clear d5 p0 p1 p2 CO
        have HO8 := Lib.hid (op_newQ H7.out ho hqo hb8)
        obtain ⟨-, -, -, -, -, -, -, -, -, -, -, -, -, f13, f14, f15⟩ := KEEP.out _ (below_then HKw.out hb8)
        have HW1 := Lib.hid (show w.heap.size ≤ w1.heap.size by have := HW1s.out; omega)
        have HP8a : w8.cell? ⟨P, 0, none⟩ = some (.int .i64 B) ∧ w8.cell? ⟨P, 1, none⟩ = some (.int .i64 K) ∧ w8.cell? ⟨P, 2, none⟩ = some (.int .i64 S4) := by
          obtain ⟨a, b, c⟩ := HPw.out
          exact ⟨(hb8.cell (p := ⟨P, 0, none⟩) (World.block_lt_of_cell? _ _ a)).trans a, (hb8.cell (p := ⟨P, 1, none⟩) (World.block_lt_of_cell? _ _ b)).trans b, (hb8.cell (p := ⟨P, 2, none⟩) (World.block_lt_of_cell? _ _ c)).trans c⟩
        have hTU : isU (V.f (tagsf B K)) := H7.out.rng (uTags _ _)
        cases a0_15 with
        | true =>
          have HP8 := Lib.hid HP8a
          have HT8 := Lib.hid (HT1.out.new hb8)
          have HB8 := Lib.hid (below_then HBw.out hb8)
          have HTU := Lib.hid hTU
          have h33 : ((3 : Int) != 3) = false := by decide
          clear ho hqo hb8 HP8a hTU f13 f14
          go_upto_region 23 with (fail)
          clear f15
          go_wp2_with fail
          refine (run_ou HO8.out rfl rfl HNE.out.2.2.1 rfl rfl (by have := HC.out; omega)).mono ?_
          rintro e w9 ⟨rfl, ⟨V2, ho9, hf9, -⟩, hk9⟩
          have HK9 := Lib.hid hk9
          have HO9 := Lib.hid (show WdG G w9 A V2 from opw_wd ho9)
          have HSAY : Hid (∀ b k : Nat, 1 ≤ b ∧ b ≤ 4 → k < 4 * 2 ^ b → (b = B ∧ k / 4 = K ∧ k % 4 = S4 → tgN V2.f b k = 0 ∧ itN V2.f b k = 0) ∧ (¬ (b = B ∧ k / 4 = K ∧ k % 4 = S4) → tgN V2.f b k = tgN V.f b k ∧ itN V2.f b k = itN V.f b k)) := Lib.hid (fun b k hb hk => spot_say HBK.out.1 HBK.out.2.1 HBK.out.2.2 rfl HTU.out rfl ⟨by decide, by decide⟩ (fun a => by
            rw [hf9]
            unfold upd
            by_cases e : a = tagsf B K
            · subst e
              rw [if_neg HNE.out.2.2.1, if_pos rfl, if_pos rfl]
            · rw [if_neg e, if_neg e]) hb hk)
          clear ho9 hf9 hk9
          have h9 : WdG G w9 A V2 := HO9.out
          have HT9 : Hid (∀ X, Below w9.heap.size w9 X → ∀ i, i < 120 → X.cell? ⟨T, i, none⟩ = some (.int .i64 (tgI V.f i)) ∧ X.cell? ⟨I, i, none⟩ = some (.int .u64 (itI V.f i))) := Lib.hid (fun X hX i hi => by
            obtain ⟨x, y, c1, -, c2, -, e⟩ := HT8.out.at_ hi
            obtain ⟨rfl, rfl⟩ := e hi
            have g1 : ¬ ¬ G T := fun n => n (by rw [HGG.out]; have := HTI.out; omega)
            have g2 : ¬ ¬ G I := fun n => n (by rw [HGG.out]; have := HTI.out; omega)
            have d1 := HK9.out.cell (p := ⟨T, i, none⟩) g1 c1
            have d2 := HK9.out.cell (p := ⟨I, i, none⟩) g2 c2
            exact ⟨(hX.cell (p := ⟨T, i, none⟩) (World.block_lt_of_cell? _ _ d1)).trans d1, (hX.cell (p := ⟨I, i, none⟩) (World.block_lt_of_cell? _ _ d2)).trans d2⟩)
          have HP9 : Hid (∀ X, Below w9.heap.size w9 X → X.cell? ⟨P, 0, none⟩ = some (.int .i64 B) ∧ X.cell? ⟨P, 1, none⟩ = some (.int .i64 K) ∧ X.cell? ⟨P, 2, none⟩ = some (.int .i64 S4)) := Lib.hid (fun X hX => by
            have g1 : ¬ ¬ G P := fun n => n (by rw [HGG.out]; have := HTI.out; omega)
            obtain ⟨a, b, c⟩ := HP8.out
            have d1 := HK9.out.cell (p := ⟨P, 0, none⟩) g1 a
            have d2 := HK9.out.cell (p := ⟨P, 1, none⟩) g1 b
            have d3 := HK9.out.cell (p := ⟨P, 2, none⟩) g1 c
            exact ⟨(hX.cell (p := ⟨P, 0, none⟩) (World.block_lt_of_cell? _ _ d1)).trans d1, (hX.cell (p := ⟨P, 1, none⟩) (World.block_lt_of_cell? _ _ d2)).trans d2, (hX.cell (p := ⟨P, 2, none⟩) (World.block_lt_of_cell? _ _ d3)).trans d3⟩)
          have HB9 := Lib.hid (HB8.out.trans ((HK9.out.less (G' := fun j => j < w.heap.size) (fun j h => by rw [HGG.out]; have := HW1.out; omega)).below HB8.out.size))
          have H9 := Lib.hid h9
          clear h9
          go_wp2_with fail
          go_loopw [7, 13, 14] (fun n bt _ X => ∃ b : Nat, 1 ≤ b ∧ b ≤ 5 ∧ n = .int .i64 (pB b) ∧ bt = .int .i64 b ∧ Below w9.heap.size w9 X) (fun _ bt _ _ => 5 - (intOf bt).toNat)
          case atStart => exact ⟨1, by omega, by omega, rfl, rfl, Below.refl _ _⟩
          case round =>
            obtain ⟨b, b1, b5, rfl, rfl, hXb⟩ := hrel
            by_cases hlt : b < 5
            · have d5 : decide ((b : Int) < 5) = true := decide_eq_true (by omega)
              have d5' : decide (b < 5) = true := decide_eq_true hlt
              have hb4 : 1 ≤ b ∧ b ≤ 4 := by omega
              have HXb := Lib.hid hXb
              have HB4 := Lib.hid hb4
              have CW := Lib.hid (fun X => wordB b hb4 X)
              have CSp := Lib.hid (fun X => spotsB b hb4 X)
              have ypb : ∀ k : Nat, k < 4 * 2 ^ b → pB b + k < 120 := fun k hk => (bN_at hb4 hk).2.1
              obtain ⟨N, hN⟩ : ∃ N, N = 4 * 2 ^ b := ⟨_, rfl⟩
              have HN := Lib.hid hN
              rw [← hN] at CSp ypb
              have hN64 : N ≤ 64 := by rcases four_szf hb4 with ⟨rfl, -, e⟩ | ⟨rfl, -, e⟩ | ⟨rfl, -, e⟩ | ⟨rfl, -, e⟩ <;> omega
              obtain ⟨n0, hn0⟩ : ∃ n0, n0 = pB b := ⟨_, rfl⟩
              have HN0 := Lib.hid hn0
              rw [← hn0] at ypb
              rw [← hn0]
              have HY := Lib.hid ypb
              have HBB := Lib.hid (And.intro b1 hlt)
              clear hXb hb4 b1 b5 hN hn0 ypb
              go_wp2_with fail
              go_loopw [7, 14] (fun n kk X => ∃ k : Nat, k ≤ N ∧ n = .int .i64 ((n0 + k : Nat) : Int) ∧ kk = .int .i64 k ∧ Below w9.heap.size w9 X) (fun _ kk _ => N - (intOf kk).toNat)
              case atStart => exact ⟨0, by omega, rfl, rfl, HXb.out⟩
              case round =>
                obtain ⟨k, hk, rfl, rfl, hX1⟩ := hrel
                by_cases hkn : k < N
                · have dk : decide ((k : Int) < (N : Int)) = true := decide_eq_true (by omega)
                  have dk' : decide (k < N) = true := decide_eq_true hkn
                  obtain ⟨i, hi⟩ : ∃ i, i = n0 + k := ⟨_, rfl⟩
                  have hi120 : i < 120 := by have := HY.out k hkn; omega
                  rw [← hi]
                  have d120 : decide ((i : Int) < 120) = true := decide_eq_true (by omega)
                  have d120' : decide (i < 120) = true := decide_eq_true hi120
                  have j0 : (0 : Int) ≤ (i : Int) := by omega
                  have j1 : (i : Int) < 120 := by omega
                  have HI := Lib.hid hi
                  have hk42 : k < 4 * 2 ^ b := by rw [← HN.out]; exact hkn
                  have CA := atB b k HB4.out hk42
                  have CSl := fun X (hX : Below w9.heap.size w9 X) => slotw (H9.out.new hX) b ((k / 4 : Nat) : Int) ((k % 4 : Nat) : Int)
                  have hsay := HSAY.out b k HB4.out hk42
                  have et : tgI V.f i = tgN V.f b k := by rw [hi, HN0.out]; exact tgI_at _ HB4.out hk42
                  have ei : itI V.f i = itN V.f b k := by rw [hi, HN0.out]; exact itI_at _ HB4.out hk42
                  have HT := fun X hX => HT9.out X hX i hi120
                  rw [et, ei] at HT
                  have CSl' : ∀ X, Below w9.heap.size w9 X → Calls Tryz.prog 53 #[.pointer (some ⟨A.p, 0, none⟩), .agg #[.int .i64 b, .int .i64 ((k / 4 : Nat) : Int), .int .i64 ((k % 4 : Nat) : Int)]] X fun e w' => e = .returned (.tuple #[.int .i64 (tgN V2.f b k), .int .u64 (itN V2.f b k)]) ∧ Below X.heap.size X w' := CSl
                  clear CSl et ei hi hk42
                  generalize tgN V2.f b k = ta at *
                  generalize itN V2.f b k = ti at *
                  generalize tgN V.f b k = tb at *
                  generalize itN V.f b k = tj at *
                  generalize k / 4 = kk at *
                  generalize k % 4 = ks at *
                  have CA := Lib.hid CA
                  have CSl := Lib.hid CSl'
                  have HT := Lib.hid HT
                  have HKN := Lib.hid (And.intro hk hkn)
                  have HX1 := Lib.hid hX1
                  have HRL := Lib.hid (show ∀ X, Below w9.heap.size w9 X → ∃ k' : Nat, k' ≤ N ∧ Value.int .i64 ((i : Int) + 1) = .int .i64 ((n0 + k' : Nat) : Int) ∧ Value.int .i64 ((k : Int) + 1) = .int .i64 k' ∧ Below w9.heap.size w9 X from fun X hX => ⟨k + 1, by omega, by rw [show ((n0 + (k + 1) : Nat) : Int) = (i : Int) + 1 by have := HI.out; omega], by go_num, hX⟩)
                  clear CSl' hk hX1
                  go_upto_region 33 with (first
                    | (go_at_call 52; ((with_reducible refine (CW.out _).mono ?_); rintro e x1 ⟨rfl, rfl⟩))
                    | (go_at_call 51; ((with_reducible refine (CSp.out _).mono ?_); rintro e x2 ⟨rfl, hx2⟩))
                    | (go_at_call 54; ((with_reducible refine (CA.out _).mono ?_); rintro e x4 ⟨rfl, hx4⟩)))
                  obtain ⟨Q, hQ⟩ : ∃ Q, Q = x4.heap.size := ⟨_, rfl⟩
                  generalize hX5 : World.alloc x4 _ = x5
                  rw [← hQ]
                  have hb5 : Below x4.heap.size x4 x5 := by rw [← hX5]; exact bs_alloc (Below.refl _ _)
                  have s0 : x5.cell? ⟨Q, 0, none⟩ = some (.int .i64 b) := by rw [← hX5, hQ]; exact new_at rfl rfl
                  have s1 : x5.cell? ⟨Q, 1, none⟩ = some (.int .i64 kk) := by rw [← hX5, hQ]; exact new_at rfl rfl
                  have s2 : x5.cell? ⟨Q, 2, none⟩ = some (.int .i64 ks) := by rw [← hX5, hQ]; exact new_at rfl rfl
                  have HX5 := Lib.hid (below_then HX1.out (below_then (below_then hx2 hx4) hb5))
                  clear hX5 hQ hb5 hx2 hx4 dk dk' d120 d120' HX1
                  go_upto_region 34 with (go_at_call 53; ((with_reducible refine (CSl.out _ HX5.out).mono ?_); rintro e x6 ⟨rfl, hx6⟩; replace s0 := (hx6.cell (p := ⟨Q, 0, none⟩) (World.block_lt_of_cell? _ _ s0)).trans s0; replace s1 := (hx6.cell (p := ⟨Q, 1, none⟩) (World.block_lt_of_cell? _ _ s1)).trans s1; replace s2 := (hx6.cell (p := ⟨Q, 2, none⟩) (World.block_lt_of_cell? _ _ s2)).trans s2; have HX6 := Lib.hid (below_then HX5.out hx6); clear hx6))
                  obtain ⟨p0, p1, p2⟩ := HP9.out _ HX6.out
                  obtain ⟨tc, ic⟩ := HT.out _ HX6.out
                  have HRX := Lib.hid (HRL.out _ HX6.out)
                  by_cases e1 : b = B
                  · by_cases e2 : kk = K
                    · by_cases e3 : ks = S4
                      · obtain ⟨rfl, rfl⟩ := hsay.1 ⟨e1, e2, e3⟩
                        subst e1; subst e2; subst e3
                        clear hsay tc ic
                        go_wp2_with fail
                        go_roundw
                        case rel => exact HRX.out
                        case measure => have := HKN.out; simp [intOf]; omega
                      · obtain ⟨rfl, rfl⟩ := hsay.2 (fun h => e3 h.2.2)
                        subst e1; subst e2
                        have n3 : ((ks : Int) == (S4 : Int)) = false := by simp; omega
                        have n3' : decide ((ks : Int) = (S4 : Int)) = false := by simp; omega
                        clear hsay
                        go_wp2_with fail
                        go_roundw
                        case rel => exact HRX.out
                        case measure => have := HKN.out; simp [intOf]; omega
                    · obtain ⟨rfl, rfl⟩ := hsay.2 (fun h => e2 h.2.1)
                      subst e1
                      have n3 : ((kk : Int) == (K : Int)) = false := by simp; omega
                      have n3' : decide ((kk : Int) = (K : Int)) = false := by simp; omega
                      clear hsay
                      go_wp2_with fail
                      go_roundw
                      case rel => exact HRX.out
                      case measure => have := HKN.out; simp [intOf]; omega
                  · obtain ⟨rfl, rfl⟩ := hsay.2 (fun h => e1 h.1)
                    have n3 : ((b : Int) == (B : Int)) = false := by simp; omega
                    have n3' : decide ((b : Int) = (B : Int)) = false := by simp; omega
                    clear hsay
                    go_wp2_with fail
                    go_roundw
                    case rel => exact HRX.out
                    case measure => have := HKN.out; simp [intOf]; omega
                · obtain rfl : k = N := by omega
                  have dk : decide ((k : Int) < (k : Int)) = false := decide_eq_false (by omega)
                  have dk' : decide (k < k) = false := decide_eq_false (by omega)
                  have HX1 := Lib.hid hX1
                  clear hX1 hkn hk
                  go_wp2_with (first
                    | (go_at_call 52; ((with_reducible refine (CW.out _).mono ?_); rintro e x1 ⟨rfl, rfl⟩))
                    | (go_at_call 51; ((with_reducible refine (CSp.out _).mono ?_); rintro e x2 ⟨rfl, hx2⟩)))
                  go_roundw
                  case rel => exact ⟨b + 1, by omega, by have := HBB.out; omega, by rw [← pB_next HB4.out, ← HN.out, ← HN0.out]; simp, by go_num, below_then HX1.out hx2⟩
                  case measure => have := HBB.out; simp [intOf]; omega
            · obtain rfl : b = 5 := by omega
              have d5 : decide (((5 : Nat) : Int) < 5) = false := by decide
              have HXb := Lib.hid hXb
              clear hXb hlt b1 b5
              go_wp2_with (go_at_call 37; refine (lives13 _).mono ?_; rintro e w10 ⟨rfl, hk10⟩)
              go_ret
              exact ⟨rfl, below_then (below_then HB9.out HXb.out) hk10⟩
        | false =>
          obtain ⟨-, -, -, q3, q4⟩ := HQ.out
          obtain ⟨t, ht, ht0⟩ : ∃ t : Int, 1 + a0_13.tmod 255 = t ∧ 1 ≤ t ∧ t ≤ 255 := ⟨_, rfl, by rw [Int.tmod_eq_emod_of_nonneg q3.1]; omega, by rw [Int.tmod_eq_emod_of_nonneg q3.1]; omega⟩
          obtain ⟨tm, htm⟩ : ∃ tm, a0_13.tmod 255 = tm := ⟨_, rfl⟩
          rw [htm] at ht
          have y1 : IntKind.i64.wrap tm = tm := IntWalk.i64_in _ (by omega)
          have y2 : IntKind.i64.wrap (1 + tm) = t := by rw [IntWalk.i64_in _ (by omega)]; exact ht
          obtain ⟨rf, hrf⟩ : ∃ rf, 1 + a0_14 = rf := ⟨_, rfl⟩
          have y3 : IntKind.i64.wrap a0_14 = a0_14 := IntWalk.i64_in _ (by omega)
          have y4 : IntKind.i64.wrap (1 + a0_14) = rf := by rw [IntWalk.i64_in _ (by omega)]; exact hrf
          have y5 : IntKind.u64.wrap a0_14 = a0_14 := IntWalk.u64_in _ (by omega)
          have y6 : IntKind.u64.wrap (1 + a0_14) = rf := by rw [IntWalk.u64_in _ (by omega)]; exact hrf
          have hr1 : 1 ≤ rf ∧ rf ≤ 9223372036854775807 := by omega
          have HR1 := Lib.hid (And.intro ht0 hr1)
          have CN := Lib.hid (newPut B K S4 t rf w8 (z := 3) (by rw [if_pos ⟨HNE.out.2.2.2.2, ht0.1, ht0.2, hr1.1⟩]))
          obtain ⟨p0, p1, p2⟩ := HP8a
          have HT8' := Lib.hid (HT1.out.new hb8)
          have HB8' := Lib.hid (below_then HBw.out hb8)
          have HP8' := Lib.hid (And.intro p0 (And.intro p1 p2))
          have HTU := Lib.hid hTU
          have H8 := Lib.hid (H7.out.new hb8)
          have HFX := Lib.hid (KEEP.out _ (below_then HKw.out hb8))
          have h33 : ((3 : Int) != 3) = false := by decide
          clear ho hqo hb8 hTU q3 q4 ht hrf ht0 hr1
          go_upto_region 21 with (go_at_call 38; ((with_reducible refine CN.out.mono ?_); rintro e w8b ⟨qp, rfl, hp, hqp, hb8b⟩))
          clear f13 f14 f15 p0 p1 p2
          have HP8 := Lib.hid (show w8b.cell? ⟨P, 0, none⟩ = some (.int .i64 B) ∧ w8b.cell? ⟨P, 1, none⟩ = some (.int .i64 K) ∧ w8b.cell? ⟨P, 2, none⟩ = some (.int .i64 S4) from by
            obtain ⟨a, b, c⟩ := HP8'.out
            exact ⟨(hb8b.cell (p := ⟨P, 0, none⟩) (World.block_lt_of_cell? _ _ a)).trans a, (hb8b.cell (p := ⟨P, 1, none⟩) (World.block_lt_of_cell? _ _ b)).trans b, (hb8b.cell (p := ⟨P, 2, none⟩) (World.block_lt_of_cell? _ _ c)).trans c⟩)
          obtain ⟨-, -, -, -, -, -, -, -, -, -, -, -, -, f13', f14', -⟩ := HFX.out
          have f13 := (hb8b.cell (p := ⟨F, 13, none⟩) (World.block_lt_of_cell? _ _ f13')).trans f13'
          have f14 := (hb8b.cell (p := ⟨F, 14, none⟩) (World.block_lt_of_cell? _ _ f14')).trans f14'
          have HT8 := Lib.hid (HT8'.out.new hb8b)
          have HB8 := Lib.hid (below_then HB8'.out hb8b)
          have HO8b := Lib.hid (op_newQ H8.out hp hqp hb8b)
          clear hp hqp hb8b f13' f14' CN
          go_upto_region 23 with (fail)
          clear f13 f14 y1 y2 y3 y4 y5 y6
          go_wp2_with fail
          refine (run_pu HO8b.out rfl rfl HNE.out.2.2.1 HR1.out.2 rfl rfl (by have := HC.out; omega)).mono ?_
          rintro e w9 ⟨rfl, ⟨V2, ho9, hf9, -⟩, hk9⟩
          have HK9 := Lib.hid hk9
          have HO9 := Lib.hid (show WdG G w9 A V2 from opw_wd ho9)
          have HSAY : Hid (∀ b k : Nat, 1 ≤ b ∧ b ≤ 4 → k < 4 * 2 ^ b → (b = B ∧ k / 4 = K ∧ k % 4 = S4 → tgN V2.f b k = t ∧ itN V2.f b k = rf) ∧ (¬ (b = B ∧ k / 4 = K ∧ k % 4 = S4) → tgN V2.f b k = tgN V.f b k ∧ itN V2.f b k = itN V.f b k)) := Lib.hid (fun b k hb hk => spot_say HBK.out.1 HBK.out.2.1 HBK.out.2.2 rfl HTU.out rfl ⟨by have := HR1.out; omega, by have := HR1.out; omega⟩ (fun a => by
            rw [hf9]
            unfold upd
            rfl) hb hk)
          clear ho9 hf9 hk9
          have h9 : WdG G w9 A V2 := HO9.out
          have HT9 : Hid (∀ X, Below w9.heap.size w9 X → ∀ i, i < 120 → X.cell? ⟨T, i, none⟩ = some (.int .i64 (tgI V.f i)) ∧ X.cell? ⟨I, i, none⟩ = some (.int .u64 (itI V.f i))) := Lib.hid (fun X hX i hi => by
            obtain ⟨x, y, c1, -, c2, -, e⟩ := HT8.out.at_ hi
            obtain ⟨rfl, rfl⟩ := e hi
            have g1 : ¬ ¬ G T := fun n => n (by rw [HGG.out]; have := HTI.out; omega)
            have g2 : ¬ ¬ G I := fun n => n (by rw [HGG.out]; have := HTI.out; omega)
            have d1 := HK9.out.cell (p := ⟨T, i, none⟩) g1 c1
            have d2 := HK9.out.cell (p := ⟨I, i, none⟩) g2 c2
            exact ⟨(hX.cell (p := ⟨T, i, none⟩) (World.block_lt_of_cell? _ _ d1)).trans d1, (hX.cell (p := ⟨I, i, none⟩) (World.block_lt_of_cell? _ _ d2)).trans d2⟩)
          have HP9 : Hid (∀ X, Below w9.heap.size w9 X → X.cell? ⟨P, 0, none⟩ = some (.int .i64 B) ∧ X.cell? ⟨P, 1, none⟩ = some (.int .i64 K) ∧ X.cell? ⟨P, 2, none⟩ = some (.int .i64 S4)) := Lib.hid (fun X hX => by
            have g1 : ¬ ¬ G P := fun n => n (by rw [HGG.out]; have := HTI.out; omega)
            obtain ⟨a, b, c⟩ := HP8.out
            have d1 := HK9.out.cell (p := ⟨P, 0, none⟩) g1 a
            have d2 := HK9.out.cell (p := ⟨P, 1, none⟩) g1 b
            have d3 := HK9.out.cell (p := ⟨P, 2, none⟩) g1 c
            exact ⟨(hX.cell (p := ⟨P, 0, none⟩) (World.block_lt_of_cell? _ _ d1)).trans d1, (hX.cell (p := ⟨P, 1, none⟩) (World.block_lt_of_cell? _ _ d2)).trans d2, (hX.cell (p := ⟨P, 2, none⟩) (World.block_lt_of_cell? _ _ d3)).trans d3⟩)
          have HB9 := Lib.hid (HB8.out.trans ((HK9.out.less (G' := fun j => j < w.heap.size) (fun j h => by rw [HGG.out]; have := HW1.out; omega)).below HB8.out.size))
          have H9 := Lib.hid h9
          clear h9
          go_wp2_with fail
          go_loopw [7, 13, 14] (fun n bt _ X => ∃ b : Nat, 1 ≤ b ∧ b ≤ 5 ∧ n = .int .i64 (pB b) ∧ bt = .int .i64 b ∧ Below w9.heap.size w9 X) (fun _ bt _ _ => 5 - (intOf bt).toNat)
          case atStart => exact ⟨1, by omega, by omega, rfl, rfl, Below.refl _ _⟩
          case round =>
            obtain ⟨b, b1, b5, rfl, rfl, hXb⟩ := hrel
            by_cases hlt : b < 5
            · have d5 : decide ((b : Int) < 5) = true := decide_eq_true (by omega)
              have d5' : decide (b < 5) = true := decide_eq_true hlt
              have hb4 : 1 ≤ b ∧ b ≤ 4 := by omega
              have HXb := Lib.hid hXb
              have HB4 := Lib.hid hb4
              have CW := Lib.hid (fun X => wordB b hb4 X)
              have CSp := Lib.hid (fun X => spotsB b hb4 X)
              have ypb : ∀ k : Nat, k < 4 * 2 ^ b → pB b + k < 120 := fun k hk => (bN_at hb4 hk).2.1
              obtain ⟨N, hN⟩ : ∃ N, N = 4 * 2 ^ b := ⟨_, rfl⟩
              have HN := Lib.hid hN
              rw [← hN] at CSp ypb
              have hN64 : N ≤ 64 := by rcases four_szf hb4 with ⟨rfl, -, e⟩ | ⟨rfl, -, e⟩ | ⟨rfl, -, e⟩ | ⟨rfl, -, e⟩ <;> omega
              obtain ⟨n0, hn0⟩ : ∃ n0, n0 = pB b := ⟨_, rfl⟩
              have HN0 := Lib.hid hn0
              rw [← hn0] at ypb
              rw [← hn0]
              have HY := Lib.hid ypb
              have HBB := Lib.hid (And.intro b1 hlt)
              clear hXb hb4 b1 b5 hN hn0 ypb
              go_wp2_with fail
              go_loopw [7, 14] (fun n kk X => ∃ k : Nat, k ≤ N ∧ n = .int .i64 ((n0 + k : Nat) : Int) ∧ kk = .int .i64 k ∧ Below w9.heap.size w9 X) (fun _ kk _ => N - (intOf kk).toNat)
              case atStart => exact ⟨0, by omega, rfl, rfl, HXb.out⟩
              case round =>
                obtain ⟨k, hk, rfl, rfl, hX1⟩ := hrel
                by_cases hkn : k < N
                · have dk : decide ((k : Int) < (N : Int)) = true := decide_eq_true (by omega)
                  have dk' : decide (k < N) = true := decide_eq_true hkn
                  obtain ⟨i, hi⟩ : ∃ i, i = n0 + k := ⟨_, rfl⟩
                  have hi120 : i < 120 := by have := HY.out k hkn; omega
                  rw [← hi]
                  have d120 : decide ((i : Int) < 120) = true := decide_eq_true (by omega)
                  have d120' : decide (i < 120) = true := decide_eq_true hi120
                  have j0 : (0 : Int) ≤ (i : Int) := by omega
                  have j1 : (i : Int) < 120 := by omega
                  have HI := Lib.hid hi
                  have hk42 : k < 4 * 2 ^ b := by rw [← HN.out]; exact hkn
                  have CA := atB b k HB4.out hk42
                  have CSl := fun X (hX : Below w9.heap.size w9 X) => slotw (H9.out.new hX) b ((k / 4 : Nat) : Int) ((k % 4 : Nat) : Int)
                  have hsay := HSAY.out b k HB4.out hk42
                  have et : tgI V.f i = tgN V.f b k := by rw [hi, HN0.out]; exact tgI_at _ HB4.out hk42
                  have ei : itI V.f i = itN V.f b k := by rw [hi, HN0.out]; exact itI_at _ HB4.out hk42
                  have HT := fun X hX => HT9.out X hX i hi120
                  rw [et, ei] at HT
                  have CSl' : ∀ X, Below w9.heap.size w9 X → Calls Tryz.prog 53 #[.pointer (some ⟨A.p, 0, none⟩), .agg #[.int .i64 b, .int .i64 ((k / 4 : Nat) : Int), .int .i64 ((k % 4 : Nat) : Int)]] X fun e w' => e = .returned (.tuple #[.int .i64 (tgN V2.f b k), .int .u64 (itN V2.f b k)]) ∧ Below X.heap.size X w' := CSl
                  clear CSl et ei hi hk42
                  generalize tgN V2.f b k = ta at *
                  generalize itN V2.f b k = ti at *
                  generalize tgN V.f b k = tb at *
                  generalize itN V.f b k = tj at *
                  generalize k / 4 = kk at *
                  generalize k % 4 = ks at *
                  have CA := Lib.hid CA
                  have CSl := Lib.hid CSl'
                  have HT := Lib.hid HT
                  have HKN := Lib.hid (And.intro hk hkn)
                  have HX1 := Lib.hid hX1
                  have HRL := Lib.hid (show ∀ X, Below w9.heap.size w9 X → ∃ k' : Nat, k' ≤ N ∧ Value.int .i64 ((i : Int) + 1) = .int .i64 ((n0 + k' : Nat) : Int) ∧ Value.int .i64 ((k : Int) + 1) = .int .i64 k' ∧ Below w9.heap.size w9 X from fun X hX => ⟨k + 1, by omega, by rw [show ((n0 + (k + 1) : Nat) : Int) = (i : Int) + 1 by have := HI.out; omega], by go_num, hX⟩)
                  clear CSl' hk hX1
                  go_upto_region 33 with (first
                    | (go_at_call 52; ((with_reducible refine (CW.out _).mono ?_); rintro e x1 ⟨rfl, rfl⟩))
                    | (go_at_call 51; ((with_reducible refine (CSp.out _).mono ?_); rintro e x2 ⟨rfl, hx2⟩))
                    | (go_at_call 54; ((with_reducible refine (CA.out _).mono ?_); rintro e x4 ⟨rfl, hx4⟩)))
                  obtain ⟨Q, hQ⟩ : ∃ Q, Q = x4.heap.size := ⟨_, rfl⟩
                  generalize hX5 : World.alloc x4 _ = x5
                  rw [← hQ]
                  have hb5 : Below x4.heap.size x4 x5 := by rw [← hX5]; exact bs_alloc (Below.refl _ _)
                  have s0 : x5.cell? ⟨Q, 0, none⟩ = some (.int .i64 b) := by rw [← hX5, hQ]; exact new_at rfl rfl
                  have s1 : x5.cell? ⟨Q, 1, none⟩ = some (.int .i64 kk) := by rw [← hX5, hQ]; exact new_at rfl rfl
                  have s2 : x5.cell? ⟨Q, 2, none⟩ = some (.int .i64 ks) := by rw [← hX5, hQ]; exact new_at rfl rfl
                  have HX5 := Lib.hid (below_then HX1.out (below_then (below_then hx2 hx4) hb5))
                  clear hX5 hQ hb5 hx2 hx4 dk dk' d120 d120' HX1
                  go_upto_region 34 with (go_at_call 53; ((with_reducible refine (CSl.out _ HX5.out).mono ?_); rintro e x6 ⟨rfl, hx6⟩; replace s0 := (hx6.cell (p := ⟨Q, 0, none⟩) (World.block_lt_of_cell? _ _ s0)).trans s0; replace s1 := (hx6.cell (p := ⟨Q, 1, none⟩) (World.block_lt_of_cell? _ _ s1)).trans s1; replace s2 := (hx6.cell (p := ⟨Q, 2, none⟩) (World.block_lt_of_cell? _ _ s2)).trans s2; have HX6 := Lib.hid (below_then HX5.out hx6); clear hx6))
                  obtain ⟨p0, p1, p2⟩ := HP9.out _ HX6.out
                  obtain ⟨tc, ic⟩ := HT.out _ HX6.out
                  have HRX := Lib.hid (HRL.out _ HX6.out)
                  by_cases e1 : b = B
                  · by_cases e2 : kk = K
                    · by_cases e3 : ks = S4
                      · obtain ⟨rfl, rfl⟩ := hsay.1 ⟨e1, e2, e3⟩
                        subst e1; subst e2; subst e3
                        clear hsay tc ic
                        go_wp2_with fail
                        go_roundw
                        case rel => exact HRX.out
                        case measure => have := HKN.out; simp [intOf]; omega
                      · obtain ⟨rfl, rfl⟩ := hsay.2 (fun h => e3 h.2.2)
                        subst e1; subst e2
                        have n3 : ((ks : Int) == (S4 : Int)) = false := by simp; omega
                        have n3' : decide ((ks : Int) = (S4 : Int)) = false := by simp; omega
                        clear hsay
                        go_wp2_with fail
                        go_roundw
                        case rel => exact HRX.out
                        case measure => have := HKN.out; simp [intOf]; omega
                    · obtain ⟨rfl, rfl⟩ := hsay.2 (fun h => e2 h.2.1)
                      subst e1
                      have n3 : ((kk : Int) == (K : Int)) = false := by simp; omega
                      have n3' : decide ((kk : Int) = (K : Int)) = false := by simp; omega
                      clear hsay
                      go_wp2_with fail
                      go_roundw
                      case rel => exact HRX.out
                      case measure => have := HKN.out; simp [intOf]; omega
                  · obtain ⟨rfl, rfl⟩ := hsay.2 (fun h => e1 h.1)
                    have n3 : ((b : Int) == (B : Int)) = false := by simp; omega
                    have n3' : decide ((b : Int) = (B : Int)) = false := by simp; omega
                    clear hsay
                    go_wp2_with fail
                    go_roundw
                    case rel => exact HRX.out
                    case measure => have := HKN.out; simp [intOf]; omega
                · obtain rfl : k = N := by omega
                  have dk : decide ((k : Int) < (k : Int)) = false := decide_eq_false (by omega)
                  have dk' : decide (k < k) = false := decide_eq_false (by omega)
                  have HX1 := Lib.hid hX1
                  clear hX1 hkn hk
                  go_wp2_with (first
                    | (go_at_call 52; ((with_reducible refine (CW.out _).mono ?_); rintro e x1 ⟨rfl, rfl⟩))
                    | (go_at_call 51; ((with_reducible refine (CSp.out _).mono ?_); rintro e x2 ⟨rfl, hx2⟩)))
                  go_roundw
                  case rel => exact ⟨b + 1, by omega, by have := HBB.out; omega, by rw [← pB_next HB4.out, ← HN.out, ← HN0.out]; simp, by go_num, below_then HX1.out hx2⟩
                  case measure => have := HBB.out; simp [intOf]; omega
            · obtain rfl : b = 5 := by omega
              have d5 : decide (((5 : Nat) : Int) < 5) = false := by decide
              have HXb := Lib.hid hXb
              clear hXb hlt b1 b5
              go_wp2_with (go_at_call 37; refine (lives13 _).mono ?_; rintro e w10 ⟨rfl, hk10⟩)
              go_ret
              exact ⟨rfl, below_then (below_then HB9.out HXb.out) hk10⟩
end Go.Proofs.YthlebfiedejhhaaGreat
