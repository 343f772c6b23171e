/- The law FlushesPlay. -/
import Derived.Test.YtaipbagnkjmddaaGreatGFp
import Derived.Test.YtaipbagnkjmddaaGreatOpen
import Derived.Deep.Cut
import Derived.Deep.CutBlock
import Derived.Deep.RegionHeld3
import Derived.Deep.CutRange
namespace Go.Proofs.YtaipbagnkjmddaaGreat
open Go.RowKit Go.Maps
set_option linter.unusedVariables false
/-- An act of this chapter's law, as it lies. -/
def Act27 (w : World) (b o : Nat) : Prop := ∃ x0 x1 x2 x3 x4 : Int, (0 ≤ x0 ∧ x0 ≤ 255) ∧ (0 ≤ x1 ∧ x1 ≤ 255) ∧ x2 ≤ 9223372036854775807 ∧ isU x3 ∧ isU x4 ∧ w.cell? ⟨b, o, none⟩ = some (.int .u8 x0) ∧ w.cell? ⟨b, o + 1, none⟩ = some (.int .u8 x1) ∧ w.cell? ⟨b, o + 2, none⟩ = some (.int .i64 x2) ∧ w.cell? ⟨b, o + 3, none⟩ = some (.int .u64 x3) ∧ w.cell? ⟨b, o + 4, none⟩ = some (.int .u64 x4)
theorem reads_acts27 {w : World} {t e : TypeId} {a : Option Addr} {len cap : Nat} (ht : Tryz.prog.underlying t = some (.slice e)) (hk : leaves Tryz.prog 9 e = some [.inl .u8, .inl .u8, .inl .i64, .inl .u64, .inl .u64]) (hc : Tryz.prog.cellsOf e = 5) (h : Reads Tryz.prog w t (.slice a len cap)) :
    len ≤ 9223372036854775807 ∧ ∃ b off, (0 < len → len ≤ cap ∧ a = some ⟨b, off, none⟩) ∧ ∀ i, i < len → Act27 w b (off + i * 5) := by
  rcases Reads.slice ht hk h with ⟨_, rfl, _⟩ | ⟨b, off, sp, rfl, h1, h2, h3, h4⟩
  · exact ⟨by omega, 0, 0, fun h => by omega, fun i hi => by omega⟩
  · refine ⟨by unfold maxLen at h2; omega, b, off, fun h => ⟨h1, by rw [h3 (by omega) (by omega)]⟩, fun i hi => ?_⟩
    obtain ⟨l, hl, hll, hx⟩ := h4 i (by omega)
    obtain ⟨_, _, rfl, ⟨x0, rfl, y0⟩, g0⟩ := all2_cons hl
    obtain ⟨_, _, rfl, ⟨x1, rfl, y1⟩, g1⟩ := all2_cons g0
    obtain ⟨_, _, rfl, ⟨x2, rfl, y2⟩, g2⟩ := all2_cons g1
    obtain ⟨_, _, rfl, ⟨x3, rfl, y3⟩, g3⟩ := all2_cons g2
    obtain ⟨_, _, rfl, ⟨x4, rfl, y4⟩, g4⟩ := all2_cons g3
    obtain rfl := all2_nil g4
    rw [hc] at hx
    have b0 := bounds_u8 y0
    have b1 := bounds_u8 y1
    have b2 := bounds_i64 y2
    have b3 := bounds_u64 y3
    have b4 := bounds_u64 y4
    exact ⟨x0, x1, x2, x3, x4, by omega, by omega, by omega, ⟨b3.1, by omega⟩, ⟨b4.1, by omega⟩, hx 0 _ rfl, hx 1 _ rfl, hx 2 _ rfl, hx 3 _ rfl, hx 4 _ rfl⟩
theorem Act27.new {w W : World} {b o : Nat} (h : Act27 w b o) (hb : Below w.heap.size w W) : Act27 W b o := by
  obtain ⟨x0, x1, x2, x3, x4, r1, r2, r3, r4, r5, c0, c1, c2, c3, c4⟩ := h
  have up : ∀ {o v}, w.cell? ⟨b, o, none⟩ = some v → W.cell? ⟨b, o, none⟩ = some v := fun {o v} hc => (hb.cell (p := ⟨b, o, none⟩) (World.block_lt_of_cell? _ _ hc)).trans hc
  exact ⟨x0, x1, x2, x3, x4, r1, r2, r3, r4, r5, up c0, up c1, up c2, up c3, up c4⟩
set_option maxHeartbeats 8000000 in
set_option maxRecDepth 100000 in
theorem walk_FlushesPlay (a0_0 : Int) (a0_1 : Int) (a0_2 : Int) (a0_3 : Int) (a0_4 : Int) (a0_5 : Bool) (a0_6 : Option Addr) (l0_6 c0_6 : Nat) (a0_7 : Option Addr) (l0_7 c0_7 : Nat) (a0_8 : Option Addr) (l0_8 c0_8 : Nat) (a0_9 : Int) (a1 : Option Addr) (l1 c1 : Nat) (w : World) (w0_0 : (Lit.int .i64 a0_0).wf = true) (w0_1 : (Lit.int .i64 a0_1).wf = true) (w0_2 : (Lit.int .i64 a0_2).wf = true) (w0_3 : (Lit.int .i64 a0_3).wf = true) (w0_4 : (Lit.int .i64 a0_4).wf = true) (w0_6 : Reads Tryz.prog w 24 (.slice a0_6 l0_6 c0_6)) (w0_7 : Reads Tryz.prog w 25 (.slice a0_7 l0_7 c0_7)) (w0_8 : Reads Tryz.prog w 26 (.slice a0_8 l0_8 c0_8)) (w0_9 : (Lit.int .i64 a0_9).wf = true) (w1 : Reads Tryz.prog w 29 (.slice a1 l1 c1)) :
    Calls Tryz.prog 3 #[.agg #[.int .i64 a0_0, .int .i64 a0_1, .int .i64 a0_2, .int .i64 a0_3, .int .i64 a0_4, .bool a0_5, .slice a0_6 l0_6 c0_6, .slice a0_7 l0_7 c0_7, .slice a0_8 l0_8 c0_8, .int .i64 a0_9], .slice a1 l1 c1] w fun e w' => e = .returned (.bool true) ∧ Below w.heap.size w w' := by
  obtain ⟨L, hLl, hG, hBg⟩ := first_open w0_6 w0_7 w0_8 a0_0 a0_1 a0_2 a0_3 a0_4 a0_9 a0_5
  obtain ⟨hm1, bA, oA, hA1, hA2⟩ := reads_acts27 (e := 46) Tryz.underlying29 (by kernel_rfl) (by kernel_rfl) w1
  have CG := Lib.hid hG
  have CB := Lib.hid hBg
  have HLL := Lib.hid hLl
  have HA1 := Lib.hid hA1
  have HA2 := Lib.hid hA2
  have HM1 := Lib.hid hm1
  clear hG hBg hLl hA1 hA2 hm1 w0_0 w0_1 w0_2 w0_3 w0_4 w0_6 w0_7 w0_8 w0_9 w1
  go_enter Tryz.func3, Tryz.ntmps3
  go_wp2_with fail
  obtain ⟨F, hF⟩ : ∃ F, F = w.heap.size := ⟨_, rfl⟩
  generalize hW : World.alloc w _ = W
  have bW : Below w.heap.size w W := by rw [← hW]; exact (Below.refl _ _).alloc (Nat.le_refl _) _
  have HBW := Lib.hid bW
  have KEEP : Hid (∀ X, Below W.heap.size W X → X.cell? ⟨F, 0, none⟩ = some (.int .i64 a0_0) ∧ X.cell? ⟨F, 1, none⟩ = some (.int .i64 a0_1) ∧ X.cell? ⟨F, 2, none⟩ = some (.int .i64 a0_2) ∧ X.cell? ⟨F, 3, none⟩ = some (.int .i64 a0_3) ∧ X.cell? ⟨F, 4, none⟩ = some (.int .i64 a0_4) ∧ X.cell? ⟨F, 5, none⟩ = some (.bool a0_5) ∧ X.cell? ⟨F, 6, none⟩ = some (.slice a0_6 l0_6 c0_6) ∧ X.cell? ⟨F, 7, none⟩ = some (.slice a0_7 l0_7 c0_7) ∧ X.cell? ⟨F, 8, none⟩ = some (.slice a0_8 l0_8 c0_8) ∧ X.cell? ⟨F, 9, none⟩ = some (.int .i64 a0_9)) := Lib.hid (fun X hb => by
    have lt : F < W.heap.size := by rw [← hW, hF]; simp
    have up : ∀ {j v}, W.cell? ⟨F, j, none⟩ = some v → X.cell? ⟨F, j, none⟩ = some v := fun {j v} hc => (hb.cell (p := ⟨F, j, none⟩) lt).trans hc
    refine ⟨up ?_, up ?_, up ?_, up ?_, up ?_, up ?_, up ?_, up ?_, up ?_, up ?_⟩ <;> (rw [← hW, hF]; exact new_at rfl rfl))
  rw [← hF]
  clear hW bW hF
  refine (CG.out _ HBW.out).mono ?_
  rintro e w1 ⟨r, rfl, k1, hr⟩
  obtain ⟨f0, f1, f2, f3, f4, f5, f6, f7, f8, f9⟩ := KEEP.out _ k1
  have HB1 := Lib.hid (below_then HBW.out k1)
  clear k1
  cases r with
  | true =>
    clear f0 f1 f2 f3 f4 f5 f6 f7 f8 f9 hr
    go_wp2_with (go_at_call 6; refine (lives27 _).mono ?_; rintro e w9 ⟨rfl, hk9⟩)
    go_ret
    exact ⟨rfl, below_then HB1.out hk9⟩
  | false =>
    have HBIG := Lib.hid (show BigOk l0_6 l0_7 l0_8 L from hr rfl)
    clear hr
    by_cases hl : l1 ≤ 400
    rotate_left
    · have hd : decide ((400 : Int) < (l1 : Int)) = true := decide_eq_true (by omega)
      clear f0 f1 f2 f3 f4 f5 f6 f7 f8 f9
      go_wp2_with (go_at_call 6; refine (lives27 _).mono ?_; rintro e w9 ⟨rfl, hk9⟩)
      go_ret
      exact ⟨rfl, below_then HB1.out hk9⟩
    have hd : decide ((400 : Int) < (l1 : Int)) = false := decide_eq_false (by omega)
    have HL := Lib.hid hl
    clear hl
    go_wp2_with fail
    refine (CB.out _ HB1.out HBIG.out).mono ?_
    rintro e w2 ⟨A, R, V, S, T, rfl, hP, ⟨hM0, -, -⟩, -, hI, hcnt, hST, k2⟩
    have hPG : PwG (fun k => k < w.heap.size) w2 A R V := (PwG.of_begin (L := L) hP hST k2).less (fun k g => Nat.lt_of_lt_of_le g HB1.out.size)
    have HG2 := Lib.hid hPG.hf
    have HB2 := Lib.hid (below_then HB1.out k2)
    have HV := Lib.hid (show V.M = [] ∧ V.I.length ≤ 300 ∧ V.cnt ≤ 1000 from ⟨hM0, by rw [hI, HLL.out]; have := HBIG.out.1; omega, hcnt⟩)
    clear hP hM0 hI hcnt hST k2 hPG f0 f1 f2 f3 f4 f5 f6 f7 f8 f9 KEEP CG CB hd
    obtain ⟨P, hPq⟩ : ∃ P, P = w2.heap.size := ⟨_, rfl⟩
    go_upto_region 4 with (fail)
    generalize hW3 : World.alloc w2 _ = W3
    rw [← hPq]
    have k23 : Below w2.heap.size w2 W3 := by rw [← hW3]; exact bs_alloc (Below.refl _ _)
    have p0 : W3.cell? ⟨P, 0, none⟩ = some (.pointer (some ⟨A.p, 0, none⟩)) := by rw [← hW3, hPq]; exact new_at rfl rfl
    have p1 : W3.cell? ⟨P, 1, none⟩ = some (.pointer (some ⟨R.p, 0, none⟩)) := by rw [← hW3, hPq]; exact new_at rfl rfl
    have HG3 := HG2.out.add k23 (q := P) (by omega) (by rw [← hW3, hPq]; simp)
    have HB3 := Lib.hid (below_then HB2.out k23)
    have hs3 : W3.heap.size = P + 1 := by rw [← hW3, hPq]; simp
    have HS3 := Lib.hid hs3
    have HG3h := Lib.hid HG3
    have P01 := Lib.hid (And.intro p0 p1)
    clear hW3 k23 hPq p0 p1 HG3 HG2 HB2 HB1 hs3
    go_upto_region 5 with (fail)
    obtain ⟨T, hT⟩ : ∃ T, T = W3.heap.size := ⟨_, rfl⟩
    generalize hW4 : World.alloc W3 _ = W4
    rw [← hT]
    have k34 : Below W3.heap.size W3 W4 := by rw [← hW4]; exact bs_alloc (Below.refl _ _)
    have tc : ∀ i, i < 8 → W4.cell? ⟨T, i, none⟩ = some (.pointer none) := fun i hi => by
      rw [← hW4, hT]
      match i, hi with
      | 0, _ => exact new_at rfl rfl
      | 1, _ => exact new_at rfl rfl
      | 2, _ => exact new_at rfl rfl
      | 3, _ => exact new_at rfl rfl
      | 4, _ => exact new_at rfl rfl
      | 5, _ => exact new_at rfl rfl
      | 6, _ => exact new_at rfl rfl
      | 7, _ => exact new_at rfl rfl
    have tz : ∀ i, i < 8 → W4.frozen? ⟨T, i, none⟩ = false := fun i hi => by rw [← hW4, hT]; simp
    have hs4 : T < W4.heap.size := by rw [← hW4, hT]; simp
    have hs3 := HS3.out
    obtain ⟨p0, p1⟩ := P01.out
    have HG4 := HG3h.out.add k34 (q := T) (by omega) hs4
    have HB4 := Lib.hid (below_then HB3.out k34)
    replace p0 := (k34.cell (p := ⟨P, 0, none⟩) (World.block_lt_of_cell? _ _ p0)).trans p0
    replace p1 := (k34.cell (p := ⟨P, 1, none⟩) (World.block_lt_of_cell? _ _ p1)).trans p1
    obtain ⟨G0, hG0⟩ : ∃ G0 : Nat → Prop, G0 = fun j => j < w.heap.size ∨ j = P := ⟨_, rfl⟩
    have hTG : ¬ G0 T := by
      have := HB3.out.size
      rw [hG0]
      rintro (h | h) <;> omega
    have HR0 : Hid (PlF G0 T W4 A R W4 1000) := Lib.hid (PlF.first HG4 (by rw [hG0]; exact fun j hj => hj) tc tz hTG HV.out)
    have PK : Hid (∀ X, Kp G0 W4 X → X.cell? ⟨P, 0, none⟩ = some (.pointer (some ⟨A.p, 0, none⟩)) ∧ X.cell? ⟨P, 1, none⟩ = some (.pointer (some ⟨R.p, 0, none⟩)) ∧ Below w.heap.size w X) := Lib.hid (fun X hk => by
      subst hG0
      exact ⟨hk.cell (p := ⟨P, 0, none⟩) (fun n => n (.inr rfl)) p0, hk.cell (p := ⟨P, 1, none⟩) (fun n => n (.inr rfl)) p1, HB4.out.trans ((hk.less (fun j h => .inl h)).below HB4.out.size)⟩)
    have HG0P := Lib.hid (show G0 P by rw [hG0]; exact .inr rfl)
    clear hW4 k34 p0 p1 tc tz hs4 hs3 HG3h HG4 HV HB4 HB3 hT hG0 hTG HS3 P01
    go_wp2_with fail
    go_loopw [7] (fun i X => ∃ k : Nat, k ≤ l1 ∧ i = .int .i64 k ∧ PlF G0 T W4 A R X (1000 + k)) (fun i _ => l1 - (intOf i).toNat)
    case atStart => exact ⟨0, by omega, rfl, HR0.out⟩
    case round =>
      clear HR0
      obtain ⟨k, hk, rfl, hR⟩ := hrel
      have HR := Lib.hid hR
      have HPK := Lib.hid (PK.out _ hR.kp)
      clear hR
      by_cases hlt : k < l1
      · obtain ⟨hlc, rfl⟩ := HA1.out (by omega)
        obtain ⟨x0, x1, x2, x3, x4, hx0, hx1, hx2, hu3, hu4, e0, e1, e2, e3, e4⟩ := (HA2.out k hlt).new HPK.out.2.2
        have hkc : k < c1 := by omega
        have j0 : (0 : Int) ≤ (k : Int) := by omega
        have j1 : (k : Int) < (l1 : Int) := by omega
        obtain ⟨Q, hQ⟩ : ∃ Q, Q = wr.heap.size := ⟨_, rfl⟩
        go_upto_region 9 with (fail)
        generalize hW5 : World.alloc wr _ = W5
        rw [← hQ]
        have hb5 : Below wr.heap.size wr W5 := by rw [← hW5]; exact bs_alloc (Below.refl _ _)
        have hsz : Q < W5.heap.size := by rw [← hW5, hQ]; simp
        have FX : Hid (∀ X, Below W5.heap.size W5 X → X.cell? ⟨Q, 2, none⟩ = some (.int .i64 x2)) := Lib.hid (fun X hb => by
          have up : ∀ {j v}, W5.cell? ⟨Q, j, none⟩ = some v → X.cell? ⟨Q, j, none⟩ = some v := fun {j v} hc => (hb.cell (p := ⟨Q, j, none⟩) hsz).trans hc
          exact up (by rw [← hW5, hQ]; exact new_at rfl rfl))
        have f0 : W5.cell? ⟨Q, 0, none⟩ = some (.int .u8 x0) := by rw [← hW5, hQ]; exact new_at rfl rfl
        have f1 : W5.cell? ⟨Q, 1, none⟩ = some (.int .u8 x1) := by rw [← hW5, hQ]; exact new_at rfl rfl
        have f3 : W5.cell? ⟨Q, 3, none⟩ = some (.int .u64 x3) := by rw [← hW5, hQ]; exact new_at rfl rfl
        have f4 : W5.cell? ⟨Q, 4, none⟩ = some (.int .u64 x4) := by rw [← hW5, hQ]; exact new_at rfl rfl
        have HR5 := Lib.hid (HR.out.new hb5)
        have HPK5 := Lib.hid (PK.out _ HR5.out.kp)
        have HKL := Lib.hid (And.intro hk hlt)
        have hk400 : k < 400 := by have := HL.out; omega
        have HQT := Lib.hid (show ¬ T = Q by have := HR.out.tlt; omega)
        clear hW5 hb5 hQ hsz e0 e1 e2 e3 e4 HPK j0 j1 hlc hkc hk hlt
        obtain ⟨m, hm⟩ : ∃ m, x0.tmod 10 = m := ⟨_, rfl⟩
        have hmr : 0 ≤ m ∧ m < 10 := by rw [Int.tmod_eq_emod_of_nonneg hx0.1] at hm; omega
        obtain ⟨i, hi, hi4⟩ : ∃ i : Nat, x1.tmod 4 = (i : Int) ∧ i < 4 := by
          have h1 := Int.emod_nonneg x1 (show (4 : Int) ≠ 0 by decide)
          have h2 := Int.emod_lt_of_pos x1 (show (0 : Int) < 4 by decide)
          have h3 := Int.tmod_eq_emod_of_nonneg hx1.1 (b := 4)
          exact ⟨(x1.tmod 4).toNat, by omega, by omega⟩
        have wi : IntKind.i64.wrap (i : Int) = (i : Int) := IntWalk.i64_in _ (by omega)
        have i0 : (0 : Int) ≤ (i : Int) := by omega
        have i1 : (i : Int) < 4 := by omega
        obtain ⟨p0, p1, -⟩ := HPK5.out
        have hd5 : Below W5.heap.size W5 W5.drew := (Below.refl _ _).drew
        rcases (by omega : m = 0 ∨ m = 1 ∨ m = 2 ∨ m = 3 ∨ (m ≠ 0 ∧ m ≠ 1 ∧ m ≠ 2 ∧ m ≠ 3)) with h0 | h0 | h0 | h0 | ⟨h0, h1, h2, h3⟩
        · have t0 : (m == 0) = true := by simp [h0]
          clear h0 hmr f3 f4 p0 p1
          go_upto_region 12 with (fail)
          clear f0 f1 t0
          obtain ⟨u0, u1, hcl⟩ := HR5.out.cells hi4
          have HCL := Lib.hid hcl
          have CN := Lib.hid (fun X => newFlush ((i : Nat) : Int) x2 (by simp; omega) X)
          have CR := Lib.hid (fun X => rnewF ((i : Nat) : Int) x2 (by omega) (by omega) X)
          have f2 := FX.out _ hd5
          obtain ⟨⟨s0, s1⟩, y0, y1⟩ := hcl _ hd5
          clear hcl
          go_region_held3 (fun X => X.cell? ⟨Q, 2, none⟩ = some (.int .i64 x2))
            (first | assumption | exact FX.out _ (by assumption) | exact (World.cell?_setCell_other _ ⟨T, i * 2 + 1, none⟩ ⟨Q, 2, none⟩ _ (by intro e; injection e with e _; exact HQT.out e)).trans ((World.cell?_setCell_other _ ⟨T, i * 2, none⟩ ⟨Q, 2, none⟩ _ (by intro e; injection e with e _; exact HQT.out e)).trans f2) | exact (World.cell?_setCell_other _ ⟨T, i * 2, none⟩ ⟨Q, 2, none⟩ _ (by intro e; injection e with e _; exact HQT.out e)).trans f2)
            (first
              | (go_at_call 8; ((with_reducible refine (CN.out _).mono ?_); rintro e w6 hnw; obtain ⟨q, b6⟩ : ∃ q, e = .returned (.pointer (some ⟨q, 0, none⟩)) ∧ Below W5.drew.heap.size W5.drew w6 := (by obtain ⟨q, p, b6, b5, b3, he, -, -, -, -, hb⟩ := hnw; exact ⟨q, he, hb⟩); obtain ⟨rfl, b6⟩ := b6; have HNW := Lib.hid hnw; have k6 : Below W5.heap.size W5 w6 := below_then hd5 b6; clear hnw f2 s0 s1 y0 y1; have f2 := FX.out _ k6; obtain ⟨⟨s0, s1⟩, y0, y1⟩ := HCL.out _ k6))
              | (go_at_call 9; ((with_reducible refine (CR.out _).mono ?_); rintro e w7 ⟨r, tk, rfl, o7, ot7, l7, b7⟩; have k7 : Below W5.heap.size W5 w7 := below_then k6 b7; clear f2 s0 s1 y0 y1; have f2 := FX.out _ k7; obtain ⟨⟨s0, s1⟩, y0, y1⟩ := HCL.out _ k7; have HO7 := Lib.hid (And.intro o7 (And.intro ot7 (And.intro l7 b7))); clear o7 ot7 l7)))
          have hi64 : i < 64 := by omega
          have hfp : FpS (fun j => W5.heap.size ≤ j ∧ j < w7.heap.size) w7 q r := fp_new (w0 := W5.drew) (e := .returned (.bool true)) hi64 HNW.out b6.size HO7.out.2.2.2 HO7.out.1 HO7.out.2.1 HO7.out.2.2.1
          obtain ⟨HPZ, HKZ⟩ := HR5.out.put hi4 k7 hfp rfl
          have hfz := hfp.keep HKZ (fun j o e => by have := HR5.out.tlt; omega)
          have z0 : ((w7.setCell ⟨T, i * 2, none⟩ (.pointer (some ⟨q, 0, none⟩))).setCell ⟨T, i * 2 + 1, none⟩ (.pointer (some ⟨r, 0, none⟩))).cell? ⟨T, i * 2, none⟩ = some (.pointer (some ⟨q, 0, none⟩)) := (World.cell?_setCell_other _ ⟨T, i * 2 + 1, none⟩ ⟨T, i * 2, none⟩ _ (by intro e; injection e with _ e; omega)).trans (World.cell?_setCell_same _ _ _ s0)
          have z1 : ((w7.setCell ⟨T, i * 2, none⟩ (.pointer (some ⟨q, 0, none⟩))).setCell ⟨T, i * 2 + 1, none⟩ (.pointer (some ⟨r, 0, none⟩))).cell? ⟨T, i * 2 + 1, none⟩ = some (.pointer (some ⟨r, 0, none⟩)) := World.cell?_setCell_same _ _ _ ((World.cell?_setCell_other _ ⟨T, i * 2, none⟩ ⟨T, i * 2 + 1, none⟩ _ (by intro e; injection e with _ e; omega)).trans s1)
          have HPZ' := Lib.hid HPZ
          have HFZ := Lib.hid hfz
          clear f2 s0 s1 y0 y1 hfp HPZ HKZ hfz
          go_upto_region 13 with (fail)
          generalize hW8 : World.setCell (World.setCell w7 _ _) _ _ = W8 at *
          clear hW8
          go_upto_region 26 with (go_at_call 10; ((with_reducible refine (fp_same HFZ.out).mono ?_); rintro e w9 ⟨rfl, b9⟩; have HR9 := Lib.hid (HPZ'.out.new b9); clear z0 z1 b9))
          obtain ⟨p0, p1, -⟩ := PK.out _ HR9.out.kp
          go_wp2_with (go_at_call 15; refine HR9.out.same.mono ?_; rintro e w10 ⟨rfl, hk10⟩)
          go_roundw
          case rel => exact ⟨k + 1, by have := HKL.out; omega, by go_num, (HR9.out.new hk10).le (by omega)⟩
          case measure => have := HKL.out; simp [intOf]; omega
        · have t0 : (m == 0) = false := by simp [h0]
          have t1 : (m == 1) = true := by simp [h0]
          clear h0 hmr hd5
          go_wp2_with (first
            | (go_at_call 11; refine (HR5.out.store (by omega) hu3 hu4).mono ?_; rintro e w6 ⟨rfl, h6⟩; clear p0 p1 f3 f4; obtain ⟨p0, p1, -⟩ := PK.out _ h6.kp; have HR6 := Lib.hid h6; clear h6)
            | (go_at_call 15; refine HR6.out.same.mono ?_; rintro e w7 ⟨rfl, hk7⟩))
          go_roundw
          case rel => exact ⟨k + 1, by have := HKL.out; omega, by go_num, (HR6.out.new hk7).le (by omega)⟩
          case measure => have := HKL.out; simp [intOf]; omega
        · have t0 : (m == 0) = false := by simp [h0]
          have t1 : (m == 1) = false := by simp [h0]
          have t2 : (m == 2) = true := by simp [h0]
          clear h0 hmr hd5
          go_wp2_with (first
            | (go_at_call 12; refine (HR5.out.tick (by omega)).mono ?_; rintro e w6 ⟨rfl, h6⟩; clear p0 p1 f3 f4; obtain ⟨p0, p1, -⟩ := PK.out _ h6.kp; have HR6 := Lib.hid h6; clear h6)
            | (go_at_call 15; refine HR6.out.same.mono ?_; rintro e w7 ⟨rfl, hk7⟩))
          go_roundw
          case rel => exact ⟨k + 1, by have := HKL.out; omega, by go_num, (HR6.out.new hk7).le (by omega)⟩
          case measure => have := HKL.out; simp [intOf]; omega
        · have t0 : (m == 0) = false := by simp [h0]
          have t1 : (m == 1) = false := by simp [h0]
          have t2 : (m == 2) = false := by simp [h0]
          have t3 : (m == 3) = true := by simp [h0]
          clear h0 hmr hd5
          go_wp2_with (first
            | (go_at_call 11; refine (HR5.out.store (by omega) ⟨by decide, by decide⟩ hu4).mono ?_; rintro e w6 ⟨rfl, h6⟩; clear p0 p1 f3 f4; obtain ⟨p0, p1, -⟩ := PK.out _ h6.kp; have HR6 := Lib.hid h6; clear h6)
            | (go_at_call 15; refine HR6.out.same.mono ?_; rintro e w7 ⟨rfl, hk7⟩))
          go_roundw
          case rel => exact ⟨k + 1, by have := HKL.out; omega, by go_num, (HR6.out.new hk7).le (by omega)⟩
          case measure => have := HKL.out; simp [intOf]; omega
        · have t0 : (m == 0) = false := by simp [h0]
          have t1 : (m == 1) = false := by simp [h1]
          have t2 : (m == 2) = false := by simp [h2]
          have t3 : (m == 3) = false := by simp [h3]
          clear h0 h1 h2 h3 hmr f3 f4 hd5
          rcases HR5.out.at_ hi4 with hno | ⟨q, r, hcl, hst⟩
          · have n1 := hno _ (Below.refl _ _)
            clear hno
            go_upto_region 26 with (fail)
            clear f0 f1 n1 t0 t1 t2 t3
            go_wp2_with (go_at_call 15; refine HR5.out.same.mono ?_; rintro e w10 ⟨rfl, hk10⟩)
            go_roundw
            case rel => exact ⟨k + 1, by have := HKL.out; omega, by go_num, (HR5.out.new hk10).le (by omega)⟩
            case measure => have := HKL.out; simp [intOf]; omega
          · obtain ⟨n0, n1⟩ := hcl _ (Below.refl _ _)
            have HST := Lib.hid (hst (by omega))
            clear hcl hst
            go_upto_region 23 with (fail)
            clear f0 f1 t0 t1 t2 t3
            obtain ⟨N, hN⟩ : ∃ N, N = W5.heap.size := ⟨_, rfl⟩
            generalize hW6 : World.alloc W5 _ = W6
            rw [← hN]
            have hb6 : Below W5.heap.size W5 W6 := by rw [← hW6]; exact bs_alloc (Below.refl _ _)
            have z0 : W6.cell? ⟨N, 0, none⟩ = some (.pointer (some ⟨q, 0, none⟩)) := by rw [← hW6, hN]; exact new_at rfl rfl
            have z1 : W6.cell? ⟨N, 1, none⟩ = some (.pointer (some ⟨r, 0, none⟩)) := by rw [← hW6, hN]; exact new_at rfl rfl
            have hNl : W5.heap.size ≤ N ∧ N < W6.heap.size := by rw [← hW6, hN]; simp
            have q0 := fl_up hb6 p0
            have q1 := fl_up hb6 p1
            obtain ⟨ln, ov, hov, hC1⟩ := HST.out W6 hb6
            have KZ : Hid (∀ Y Z, Kp (fun j => G0 j ∨ j = T ∨ (W5.heap.size ≤ j ∧ j < W6.heap.size)) Y Z → (Y.cell? ⟨N, 0, none⟩ = some (.pointer (some ⟨q, 0, none⟩)) ∧ Y.cell? ⟨N, 1, none⟩ = some (.pointer (some ⟨r, 0, none⟩)) ∧ Y.cell? ⟨P, 0, none⟩ = some (.pointer (some ⟨A.p, 0, none⟩)) ∧ Y.cell? ⟨P, 1, none⟩ = some (.pointer (some ⟨R.p, 0, none⟩))) → Z.cell? ⟨N, 0, none⟩ = some (.pointer (some ⟨q, 0, none⟩)) ∧ Z.cell? ⟨N, 1, none⟩ = some (.pointer (some ⟨r, 0, none⟩)) ∧ Z.cell? ⟨P, 0, none⟩ = some (.pointer (some ⟨A.p, 0, none⟩)) ∧ Z.cell? ⟨P, 1, none⟩ = some (.pointer (some ⟨R.p, 0, none⟩))) := Lib.hid (fun Y Z hk h => ⟨hk.cell (p := ⟨N, 0, none⟩) (fun n => n (.inr (.inr hNl))) h.1, hk.cell (p := ⟨N, 1, none⟩) (fun n => n (.inr (.inr hNl))) h.2.1, hk.cell (p := ⟨P, 0, none⟩) (fun n => n (.inl HG0P.out)) h.2.2.1, hk.cell (p := ⟨P, 1, none⟩) (fun n => n (.inl HG0P.out)) h.2.2.2⟩)
            have HC1 := Lib.hid hC1
            clear hW6 hN hb6 hNl p0 p1 n0 n1 hC1 HST
            go_upto_region 24 with (go_at_call 13; ((with_reducible refine HC1.out.mono ?_); rintro e w7 ⟨rfl, hl7, hk7, C2⟩))
            have hd7 : Below w7.heap.size w7 w7.drew := (Below.refl _ _).drew
            have HC2 := Lib.hid (C2 _ hd7)
            have HZ7 := KZ.out _ _ (Kp.to hk7 (Kp.of hd7)) ⟨z0, z1, q0, q1⟩
            clear z0 z1 q0 q1 C2 HC1
            obtain ⟨z0, z1, q0, q1⟩ := HZ7
            have hl7 : w7.drew.cell? ⟨r, 0, none⟩ = some (.int .i64 ln) := hl7
            clear hk7 hd7
            have hne : (ov != ov) = false := by simp
            go_region_held3 (fun X => X.cell? ⟨N, 0, none⟩ = some (.pointer (some ⟨q, 0, none⟩)) ∧ X.cell? ⟨N, 1, none⟩ = some (.pointer (some ⟨r, 0, none⟩)) ∧ X.cell? ⟨P, 0, none⟩ = some (.pointer (some ⟨A.p, 0, none⟩)) ∧ X.cell? ⟨r, 0, none⟩ = some (.int .i64 ln))
              (first | exact ⟨by assumption, by assumption, by assumption, by assumption⟩)
              (first
                | (go_at_call 14; ((with_reducible refine HC2.out.mono ?_); rintro e w8 ⟨rfl, hf8, ⟨O8, hx8⟩, hk8, hl8⟩; have HX8 := Lib.hid hx8; have HR8 := Lib.hid hf8; have hz8 := KZ.out _ _ hk8 ⟨z0, z1, q0, q1⟩; clear z0 z1 q0 q1 hl7; obtain ⟨z0, z1, q0, q1⟩ := hz8; have hl7 := hl8; clear hf8 hx8 hk8 hl8))
                | (go_at_call 10; ((with_reducible refine (fp_same HX8.out).mono ?_); rintro e w9 ⟨rfl, hb9⟩; replace z0 := fl_up hb9 z0; replace z1 := fl_up hb9 z1; replace q0 := fl_up hb9 q0; replace hl7 := fl_up hb9 hl7)))
            have HR9 := Lib.hid (HR8.out.new hb9)
            clear z0 z1 q0 q1 hov hl7 hb9
            obtain ⟨p0, p1, -⟩ := PK.out _ HR9.out.kp
            go_wp2_with (go_at_call 15; refine HR9.out.same.mono ?_; rintro e w10 ⟨rfl, hk10⟩)
            go_roundw
            case rel => exact ⟨k + 1, by have := HKL.out; omega, by go_num, (HR9.out.new hk10).le (by omega)⟩
            case measure => have := HKL.out; simp [intOf]; omega
      · obtain rfl : l1 = k := by omega
        obtain ⟨p0, p1, hbw⟩ := HPK.out
        have HBX := Lib.hid hbw
        clear hbw
        go_wp2_with (first
          | (go_at_call 16; refine (HR.out.all (by have := HL.out; omega)).mono ?_; rintro e w9 ⟨rfl, hk9⟩)
          | (go_at_call 6; refine (lives27 _).mono ?_; rintro e w10 ⟨rfl, hk10⟩))
        go_ret
        exact ⟨rfl, below_then (below_then HBX.out hk9) hk10⟩
end Go.Proofs.YtaipbagnkjmddaaGreat
