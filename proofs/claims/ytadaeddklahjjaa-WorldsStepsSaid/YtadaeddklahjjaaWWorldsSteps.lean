/- The law WorldsSteps. -/
import Derived.Test.YtadaeddklahjjaaWsI
import Derived.Test.YtadaeddklahjjaaOpen
import Derived.Deep.RegionHeld3
import Derived.Deep.Cut
import Derived.Deep.CutBlock
namespace Go.Proofs.Ytadaeddklahjjaa
open Go.RowKit Go.Maps
set_option linter.unusedVariables false
theorem ws_begin {G : Nat → Prop} {w : World} {A R : Ad} {V : Wv} (h : PwG G w A R V) (hM : V.M = []) (hc : V.cnt ≤ 1000) (hb : 1 ≤ V.c.budget ∧ V.c.budget ≤ 65536) (hI : V.I.length ≤ 40) (v : Int) :
    WsI G (w.setCell ⟨A.p, 72, none⟩ (.int .i64 v)) A v 0 V.cnt [] ∧ Kp G w (w.setCell ⟨A.p, 72, none⟩ (.int .i64 v)) := by
  obtain ⟨S, T, h1, h2, h3⟩ := h
  have hp : S A.p := by obtain ⟨n, SC, SI, SN, h⟩ := h1.a; exact h.here
  have h0 : 0 ≤ V.cnt := by obtain ⟨n, SC, SI, SN, h⟩ := h1.a; exact h.cnt0
  refine ⟨⟨V.hset v, ⟨S, h1.a.setbox 72 _ (fun b => b.hset v) ⟨rfl, rfl, rfl, rfl, rfl, rfl, rfl, rfl⟩, fun k g s => h2 k g (.inl s), fun k g => by simpa [World.setCell] using h3 k g⟩, rfl, rfl, h0, by omega, by show V.I.length ≤ 40 + 0; omega, hM, Nat.le_refl _, fun y hy => by simp at hy, by show 0 ≤ V.c.budget; omega, by show V.c.budget ≤ _; omega⟩, ?_⟩
  exact Keeps.setCell (S := fun k => ¬ G k) (Keeps.refl _ w) (p := ⟨A.p, 72, none⟩) (.inl (fun g => h2 _ g (.inl hp))) _
set_option maxHeartbeats 8000000 in
set_option maxRecDepth 100000 in
theorem walk_WorldsSteps (a0_0 : Int) (a0_1 : Int) (a0_2 : Int) (a0_3 : Int) (a0_4 : Int) (a0_5 : Bool) (a0_6 : Option Addr) (l0_6 c0_6 : Nat) (a0_7 : Option Addr) (l0_7 c0_7 : Nat) (a0_8 : Option Addr) (l0_8 c0_8 : Nat) (a0_9 : Int) (a1 : Option Addr) (l1 c1 : Nat) (a2 : Int) (w : World) (w0_0 : (Lit.int .i64 a0_0).wf = true) (w0_1 : (Lit.int .i64 a0_1).wf = true) (w0_2 : (Lit.int .i64 a0_2).wf = true) (w0_3 : (Lit.int .i64 a0_3).wf = true) (w0_4 : (Lit.int .i64 a0_4).wf = true) (w0_6 : Reads Try.prog w 24 (.slice a0_6 l0_6 c0_6)) (w0_7 : Reads Try.prog w 25 (.slice a0_7 l0_7 c0_7)) (w0_8 : Reads Try.prog w 26 (.slice a0_8 l0_8 c0_8)) (w0_9 : (Lit.int .i64 a0_9).wf = true) (w1 : Reads Try.prog w 29 (.slice a1 l1 c1)) (w2 : (Lit.int .i64 a2).wf = true) :
    Calls Try.prog 3 #[.agg #[.int .i64 a0_0, .int .i64 a0_1, .int .i64 a0_2, .int .i64 a0_3, .int .i64 a0_4, .bool a0_5, .slice a0_6 l0_6 c0_6, .slice a0_7 l0_7 c0_7, .slice a0_8 l0_8 c0_8, .int .i64 a0_9], .slice a1 l1 c1, .int .i64 a2] w fun e w' => e = .returned (.bool true) ∧ Below w.heap.size w w' := by
  obtain ⟨L, hLl, hG, hBg⟩ := first_open w0_6 w0_7 w0_8 a0_0 a0_1 a0_2 a0_3 a0_4 a0_9 a0_5
  obtain ⟨ml, b1, o1, p1, lay1⟩ := reads_acts (e := 54) Try.underlying29 (by kernel_rfl) (by kernel_rfl) w1
  have HLL := Lib.hid hLl
  have CG := Lib.hid hG
  have CB := Lib.hid hBg
  have P1 := Lib.hid p1
  have LY := Lib.hid lay1
  obtain ⟨G, hGG⟩ : ∃ G : Nat → Prop, G = fun k => k < w.heap.size := ⟨_, rfl⟩
  have HGG := Lib.hid hGG
  clear hLl hG hBg w0_0 w0_1 w0_2 w0_3 w0_4 w0_6 w0_7 w0_8 w0_9 w1 w2 hGG p1 lay1
  go_enter Try.func3, Try.ntmps3
  go_wp2_with fail
  obtain ⟨F, hF⟩ : ∃ F, F = w.heap.size := ⟨_, rfl⟩
  generalize hW : World.alloc w _ = W
  have bW : Below w.heap.size w W := by rw [← hW]; exact (Below.refl _ _).alloc (Nat.le_refl _) _
  have HBW := Lib.hid bW
  have KEEP : Hid (∀ X, Below W.heap.size W X → X.cell? ⟨F, 0, none⟩ = some (.int .i64 a0_0) ∧ X.cell? ⟨F, 1, none⟩ = some (.int .i64 a0_1) ∧ X.cell? ⟨F, 2, none⟩ = some (.int .i64 a0_2) ∧ X.cell? ⟨F, 3, none⟩ = some (.int .i64 a0_3) ∧ X.cell? ⟨F, 4, none⟩ = some (.int .i64 a0_4) ∧ X.cell? ⟨F, 5, none⟩ = some (.bool a0_5) ∧ X.cell? ⟨F, 6, none⟩ = some (.slice a0_6 l0_6 c0_6) ∧ X.cell? ⟨F, 7, none⟩ = some (.slice a0_7 l0_7 c0_7) ∧ X.cell? ⟨F, 8, none⟩ = some (.slice a0_8 l0_8 c0_8) ∧ X.cell? ⟨F, 9, none⟩ = some (.int .i64 a0_9)) := Lib.hid (fun X hb => by
    have lt : F < W.heap.size := by rw [← hW, hF]; simp
    have up : ∀ {j v}, W.cell? ⟨F, j, none⟩ = some v → X.cell? ⟨F, j, none⟩ = some v := fun {j v} hc => (hb.cell (p := ⟨F, j, none⟩) lt).trans hc
    refine ⟨up ?_, up ?_, up ?_, up ?_, up ?_, up ?_, up ?_, up ?_, up ?_, up ?_⟩ <;> (rw [← hW, hF]; exact new_at rfl rfl))
  rw [← hF]
  clear hW bW
  refine (CG.out _ HBW.out).mono ?_
  rintro e w1 ⟨r, rfl, k1, hr⟩
  obtain ⟨f0, f1, f2, f3, f4, f5, f6, f7, f8, f9⟩ := KEEP.out _ k1
  have HB1 := Lib.hid (below_then HBW.out k1)
  clear k1 hF
  have hgo : r = true ∨ (r = false ∧ 60 < l1) ∨ (r = false ∧ l1 ≤ 60) := by
    cases r
    · by_cases h : 60 < l1
      · exact .inr (.inl ⟨rfl, h⟩)
      · exact .inr (.inr ⟨rfl, by omega⟩)
    · exact .inl rfl
  rcases hgo with rfl | ⟨rfl, hl⟩ | ⟨rfl, hl⟩
  · clear f0 f1 f2 f3 f4 f5 f6 f7 f8 f9 hr
    go_wp2_with (go_at_call 8; refine (lives10 _).mono ?_; rintro e w9 ⟨rfl, hk9⟩)
    go_ret
    exact ⟨rfl, below_then HB1.out hk9⟩
  · have d60 : decide (60 < (l1 : Int)) = true := decide_eq_true (by omega)
    clear f0 f1 f2 f3 f4 f5 f6 f7 f8 f9 hr
    go_wp2_with (go_at_call 8; refine (lives10 _).mono ?_; rintro e w9 ⟨rfl, hk9⟩)
    go_ret
    exact ⟨rfl, below_then HB1.out hk9⟩
  have HBIG := Lib.hid (show BigOk l0_6 l0_7 l0_8 L from hr rfl)
  have d60 : decide (60 < (l1 : Int)) = false := decide_eq_false (by omega)
  clear hr
  go_wp2_with fail
  refine (CB.out _ HB1.out HBIG.out).mono ?_
  rintro e w2 ⟨A, R, V, S, T, rfl, hP, ⟨hM, -, -⟩, hcfg, hVI, hcnt, hST, k2⟩
  have hIl : V.I.length ≤ 40 := by
    rw [hVI]
    rw [HLL.out]
    exact HBIG.out.1
  have hG2 : PwG G w2 A R V := by
    rw [HGG.out]
    exact (PwG.of_begin (L := L) hP hST k2).less (fun k g => Nat.lt_of_lt_of_le g HB1.out.size)
  have HB2 := Lib.hid (below_then HB1.out k2)
  obtain ⟨hI4, kp4⟩ := ws_begin hG2 hM hcnt ⟨hcfg.2.2.1, hcfg.2.2.2.1⟩ hIl a2
  have e72 := hP.a.box.ch
  have z72 := hP.a.box.fz 72 (by decide)
  have HI4 := Lib.hid hI4
  have KP4 := Lib.hid (Kp.to (Kp.of HB2.out) kp4)
  have hfl : ∀ W, (Instr.field 34 (.agg #[.pointer (some ⟨A.p, 0, none⟩), .pointer (some ⟨R.p, 0, none⟩)]) 0).run Try.prog W = .ok (.pointer (some ⟨A.p, 0, none⟩)) W := fun W => by kernel_rfl
  generalize V.cnt = cv at HI4
  generalize V.h = hv at e72
  clear hP hST k2 hG2 hcnt f0 f1 f2 f3 f4 f5 f6 f7 f8 f9 KEEP CG CB HBIG hI4 kp4 hM hcfg hVI hIl d60
  go_upto_region 5 with (fail)
  generalize hW4 : World.setCell w2 _ _ = W4 at *
  clear hW4 e72 z72 hfl
  go_wp2_with fail
  go_loopw [8] (fun i X => ∃ k : Nat, k ≤ l1 ∧ i = .int .i64 k ∧ ∃ c M, WsI G X A a2 k c M ∧ Kp G w X) (fun i _ => l1 - (intOf i).toNat)
  case atStart => exact ⟨0, Nat.zero_le _, rfl, _, _, HI4.out, KP4.out⟩
  case round =>
    obtain ⟨k, hk, rfl, c, M, hI, hkp⟩ := hrel
    by_cases hlt : k < l1
    · obtain ⟨hlc, rfl⟩ := P1.out (by omega)
      obtain ⟨x0, x1, x2, x3, x4, x5, x6, x7, x8, x9, x10, x11, x12, x13, x14, hx0, u7, u8, e0, e1, e2, e3, e4, e5, e6, e7, e8, e9, e10, e11, e12, e13, e14⟩ := LY.out k hlt
      have hb1 : G b1 := by rw [HGG.out]; exact World.block_lt_of_cell? _ _ e0
      have up : ∀ {j v}, w.cell? ⟨b1, j, none⟩ = some v → wr.cell? ⟨b1, j, none⟩ = some v := fun {j v} hc => hkp.cell (p := ⟨b1, j, none⟩) (fun n => n hb1) hc
      replace e0 := up e0
      replace e1 := up e1
      replace e2 := up e2
      replace e3 := up e3
      replace e4 := up e4
      replace e5 := up e5
      replace e6 := up e6
      replace e7 := up e7
      replace e8 := up e8
      replace e9 := up e9
      replace e10 := up e10
      replace e11 := up e11
      replace e12 := up e12
      replace e13 := up e13
      replace e14 := up e14
      have hkc : k < c1 := by omega
      have j0 : (0 : Int) ≤ (k : Int) := by omega
      have j1 : (k : Int) < (l1 : Int) := by omega
      have HI := Lib.hid hI
      have HKP := Lib.hid hkp
      obtain ⟨Q, hQ⟩ : ∃ Q, Q = wr.heap.size := ⟨_, rfl⟩
      clear up hI hkp
      go_upto_region 9 with (fail)
      generalize hW5 : World.alloc wr _ = W5
      rw [← hQ]
      have hb5 : Below wr.heap.size wr W5 := by rw [← hW5]; exact bs_alloc (Below.refl _ _)
      have hsz : Q < W5.heap.size := by rw [← hW5, hQ]; simp
      have FX : Hid (∀ X, Kp (fun k => G k ∨ k = Q) W5 X → X.cell? ⟨Q, 0, none⟩ = some (.int .u8 x0) ∧ X.cell? ⟨Q, 1, none⟩ = some (.int .u8 x1) ∧ X.cell? ⟨Q, 2, none⟩ = some (.int .i64 x2) ∧ X.cell? ⟨Q, 3, none⟩ = some (.int .i64 x3) ∧ X.cell? ⟨Q, 4, none⟩ = some (.int .i64 x4) ∧ X.cell? ⟨Q, 5, none⟩ = some (.int .i64 x5) ∧ X.cell? ⟨Q, 6, none⟩ = some (.int .i64 x6) ∧ X.cell? ⟨Q, 7, none⟩ = some (.int .u64 x7) ∧ X.cell? ⟨Q, 8, none⟩ = some (.int .u64 x8) ∧ X.cell? ⟨Q, 9, none⟩ = some (.string x9) ∧ X.cell? ⟨Q, 10, none⟩ = some (.string x10) ∧ X.cell? ⟨Q, 11, none⟩ = some (.int .u32 x11) ∧ X.cell? ⟨Q, 12, none⟩ = some (.int .u64 x12) ∧ X.cell? ⟨Q, 13, none⟩ = some (.int .i64 x13) ∧ X.cell? ⟨Q, 14, none⟩ = some (.int .i64 x14)) := Lib.hid (fun X hk => by
        have up : ∀ {j v}, W5.cell? ⟨Q, j, none⟩ = some v → X.cell? ⟨Q, j, none⟩ = some v := fun {j v} hc => hk.cell (p := ⟨Q, j, none⟩) (fun n => n (.inr rfl)) hc
        refine ⟨up ?_, up ?_, up ?_, up ?_, up ?_, up ?_, up ?_, up ?_, up ?_, up ?_, up ?_, up ?_, up ?_, up ?_, up ?_⟩ <;> (rw [← hW5, hQ]; exact new_at rfl rfl))
      have HI5 := Lib.hid (HI.out.add hb5 (q := Q) (by omega) hsz)
      have KP5 := Lib.hid (Kp.to HKP.out (Kp.of hb5))
      have hcc : 0 ≤ c ∧ c ≤ 1000 + (k : Int) := by obtain ⟨V, h⟩ := HI.out; exact ⟨h.c0, h.c1⟩
      have hml : M.length ≤ k := by obtain ⟨V, h⟩ := HI.out; exact h.ml
      have hc1' : IntKind.i64.wrap (c + 1) = c + 1 := IntWalk.i64_in _ (by omega)
      clear hW5 hb5 hQ e0 e1 e2 e3 e4 e5 e6 e7 e8 e9 e10 e11 e12 e13 e14 HI HKP hsz j0 j1
      have C1 := Lib.hid (ws_steps HI5.out)
      have C2 := Lib.hid (ws_count HI5.out (by omega))
      obtain ⟨m, hm⟩ : ∃ m, x0.tmod 5 = m := ⟨_, rfl⟩
      have hm5 : m = 0 ∨ m = 1 ∨ m = 2 ∨ m = 3 ∨ m = 4 := by rw [Int.tmod_eq_emod_of_nonneg hx0.1] at hm; omega
      obtain ⟨f0, f1, f2, f3, f4, f5, f6, f7, f8, f9, f10, f11, f12, f13, f14⟩ := FX.out _ (Keeps.refl _ _)
      obtain ⟨g0, g1, g2⟩ := HI5.out.box
      have hk100 : k ≤ 100 := by omega
      have hd5 : Below W5.heap.size W5 W5.drew := (Below.refl _ _).drew
      rcases hm5 with rfl | rfl | rfl | rfl | rfl
      · clear f1 f2 f3 f4 f5 f6 f9 f10 f11 f12 f13 f14
        go_wp2_with (first
          | (go_at_call 10; ((with_reducible refine C1.out.mono ?_); rintro e w6 ⟨rfl, rfl⟩))
          | (go_at_call 11; ((with_reducible refine C2.out.mono ?_); rintro e w6 ⟨rfl, rfl⟩)))
        clear f0 f7 f8 g0 g1 g2 hm
        obtain ⟨g0, g1, g2⟩ := (HI5.out.new hd5).box
        obtain ⟨f0, f1, f2, f3, f4, f5, f6, f7, f8, f9, f10, f11, f12, f13, f14⟩ := FX.out _ (Kp.of hd5)
        have CA := Lib.hid (ws_add (HI5.out.new hd5) hk100 u7 (v := x8))
        clear f0 f1 f2 f3 f4 f5 f6 f9 f10 f11 f12 f13 f14 g1 g2
        go_region_held3 (fun X => X.cell? ⟨A.p, 0, none⟩ = some (.pointer (some ⟨A.pc, 0, none⟩)) ∧ X.cell? ⟨Q, 7, none⟩ = some (.int .u64 x7) ∧ X.cell? ⟨Q, 8, none⟩ = some (.int .u64 x8))
          (first | exact ⟨by assumption, by assumption, by assumption⟩)
          (first
            | (go_at_call 12; ((with_reducible refine CA.out.mono ?_); rintro e w7 ⟨⟨z, rfl⟩, h7, kp7⟩; clear g0 f7 f8; obtain ⟨g0, -, -⟩ := h7.box; obtain ⟨f0, f1, f2, f3, f4, f5, f6, f7, f8, f9, f10, f11, f12, f13, f14⟩ := FX.out _ (Kp.to (Kp.of hd5) kp7); clear f0 f1 f2 f3 f4 f5 f6 f9 f10 f11 f12 f13 f14; have H7 := Lib.hid h7; have KP7 := Lib.hid (Kp.to (Kp.of hd5) kp7); clear h7 kp7)))
        all_goals
          clear g0 f7 f8
          have C3 := Lib.hid (ws_steps H7.out)
          have hne : (c + 1 != c + 1) = false := by simp
          go_wp2_with (go_at_call 10; ((with_reducible refine C3.out.mono ?_); rintro e w8 ⟨rfl, rfl⟩))
          go_roundw
          case rel => exact ⟨k + 1, by omega, by go_num, _, _, H7.out.less (fun k g => .inl g), Kp.to KP5.out (KP7.out.less (fun k g => .inl g))⟩
          case measure => simp [intOf]; omega
      · clear f1 f2 f3 f4 f5 f6 f7 f8 f9 f10 f11 f12 f13 f14
        go_wp2_with (first
          | (go_at_call 10; ((with_reducible refine C1.out.mono ?_); rintro e w6 ⟨rfl, rfl⟩))
          | (go_at_call 11; ((with_reducible refine C2.out.mono ?_); rintro e w6 ⟨rfl, rfl⟩)))
        clear f0 g0 g1 g2 hm
        obtain ⟨g0, g1, g2⟩ := (HI5.out.new hd5).box
        obtain ⟨f0, f1, f2, f3, f4, f5, f6, f7, f8, f9, f10, f11, f12, f13, f14⟩ := FX.out _ (Kp.of hd5)
        have CA := Lib.hid (ws_item (HI5.out.new hd5) hk100 x9 x10 x11 x12 x13 x14)
        clear f0 f1 f2 f3 f4 f5 f6 f7 f8 g0 g2
        go_region_held3 (fun X => X.cell? ⟨A.p, 1, none⟩ = some (.pointer (some ⟨A.pi, 0, none⟩)) ∧ X.cell? ⟨Q, 9, none⟩ = some (.string x9) ∧ X.cell? ⟨Q, 10, none⟩ = some (.string x10) ∧ X.cell? ⟨Q, 11, none⟩ = some (.int .u32 x11) ∧ X.cell? ⟨Q, 12, none⟩ = some (.int .u64 x12) ∧ X.cell? ⟨Q, 13, none⟩ = some (.int .i64 x13) ∧ X.cell? ⟨Q, 14, none⟩ = some (.int .i64 x14))
          (first | exact ⟨by assumption, by assumption, by assumption, by assumption, by assumption, by assumption, by assumption⟩)
          (first
            | (go_at_call 13; ((with_reducible refine CA.out.mono ?_); rintro e w7 ⟨⟨z, rfl⟩, h7, kp7⟩; clear g1 f9 f10 f11 f12 f13 f14; obtain ⟨-, g1, -⟩ := h7.box; obtain ⟨-, -, -, -, -, -, -, -, -, f9, f10, f11, f12, f13, f14⟩ := FX.out _ (Kp.to (Kp.of hd5) kp7); have H7 := Lib.hid h7; have KP7 := Lib.hid (Kp.to (Kp.of hd5) kp7); clear h7 kp7)))
        all_goals
          clear g1 f9 f10 f11 f12 f13 f14
          go_wp2_with fail
          have hd7 : Below w7.heap.size w7 w7.drew := (Below.refl _ _).drew
          obtain ⟨g0, g1, g2⟩ := (H7.out.new hd7).box
          obtain ⟨f0, f1, f2, f3, f4, f5, f6, f7, f8, f9, f10, f11, f12, f13, f14⟩ := FX.out _ (Kp.to KP7.out (Kp.of hd7))
          have CT := Lib.hid (ws_at (H7.out.new hd7) (by omega) x2)
          have KB : Hid (∀ X, Below w7.drew.heap.size w7.drew X → X.cell? ⟨A.p, 1, none⟩ = some (.pointer (some ⟨A.pi, 0, none⟩)) ∧ X.cell? ⟨Q, 2, none⟩ = some (.int .i64 x2)) := Lib.hid (fun X hb => ⟨((H7.out.new hd7).new hb).box.2.1, (hb.cell (p := ⟨Q, 2, none⟩) (World.block_lt_of_cell? _ _ f2)).trans f2⟩)
          clear f0 f1 f3 f4 f5 f6 f7 f8 f9 f10 f11 f12 f13 f14 g0 g2
          go_region_held3 (fun X => X.cell? ⟨A.p, 1, none⟩ = some (.pointer (some ⟨A.pi, 0, none⟩)) ∧ X.cell? ⟨Q, 2, none⟩ = some (.int .i64 x2))
            (first | exact ⟨by assumption, by assumption⟩ | exact KB.out _ (by assumption))
            (first
              | (go_at_call 14; ((with_reducible refine CT.out.mono ?_); rintro e w8 ⟨⟨z8, rfl⟩, hb8⟩; clear g1 f2; have HB8 := Lib.hid (below_then hd7 hb8))))
          all_goals
            have H8 := Lib.hid (H7.out.new HB8.out)
            have C3 := Lib.hid (ws_steps H8.out)
            have hne : (c != c) = false := by simp
            have KP8 := Lib.hid (Kp.to KP7.out (Kp.of HB8.out))
            try clear g1 f2
            go_wp2_with (go_at_call 10; ((with_reducible refine C3.out.mono ?_); rintro e w9 ⟨rfl, rfl⟩))
            go_roundw
            case rel => exact ⟨k + 1, by omega, by go_num, _, _, H8.out.less (fun k g => .inl g), Kp.to KP5.out (KP8.out.less (fun k g => .inl g))⟩
            case measure => simp [intOf]; omega
      · clear f1 f7 f8 f9 f10 f11 f12 f13 f14
        obtain ⟨mm, hmm⟩ : ∃ mm, mm = M.length := ⟨_, rfl⟩
        have CN := Lib.hid (ws_note HI5.out hk100 x2 x3 x4 x5 x6)
        rw [← hmm] at C2
        have HMM := Lib.hid hmm
        clear hmm g0 g1
        go_wp2_with (first
          | (go_at_call 10; ((with_reducible refine C1.out.mono ?_); rintro e w6 ⟨rfl, rfl⟩))
          | (go_at_call 11; ((with_reducible refine C2.out.mono ?_); rintro e w6 ⟨rfl, rfl⟩))
          | (go_at_call 15; ((with_reducible refine CN.out.mono ?_); rintro e w7 ⟨rfl, h7, kp7⟩; clear f0 f2 f3 f4 f5 f6 g2; obtain ⟨-, -, g2⟩ := h7.box; have H7 := Lib.hid h7; have KP7 := Lib.hid kp7; clear h7 kp7)))
        have CL := Lib.hid (ws_all H7.out (by omega))
        refine CL.out.mono ?_
        rintro e w8 ⟨v8, rfl, hl8, hb8⟩
        clear g2
        obtain ⟨gg, cap, rfl, hgc, hx⟩ : ∃ gg cap, v8 = .slice (some ⟨gg, 0, none⟩) (M ++ [(c, a2, (4 : Int), x2, x3, x4, x5, x6)]).length cap ∧ (M ++ [(c, a2, (4 : Int), x2, x3, x4, x5, x6)]).length ≤ cap ∧ ∀ j u, (rowsN (M ++ [(c, a2, (4 : Int), x2, x3, x4, x5, x6)]))[j]? = some u → w8.cell? ⟨gg, j, none⟩ = some u := by
          obtain ⟨_, ⟨_, h0'⟩ | ⟨g, cap, rfl, hB, hg, hn, hc, hx⟩⟩ := hl8
          · simp at h0'
          · exact ⟨g, cap, rfl, hn, fun j u hj => (hx j u hj).1⟩
        have hrow : ∀ j, j < 8 → (rowsN (M ++ [(c, a2, (4 : Int), x2, x3, x4, x5, x6)]))[mm * 8 + j]? = (Nv.cells (c, a2, (4 : Int), x2, x3, x4, x5, x6))[j]? := fun j hj => by
          have := rowsN_at (M ++ [(c, a2, (4 : Int), x2, x3, x4, x5, x6)]) mm j (by rw [HMM.out]; simp) hj
          rw [this]
          congr 1
          simp [HMM.out]
        have n0 : w8.cell? ⟨gg, mm * 8, none⟩ = some (.int .i64 c) := hx _ _ ((hrow 0 (by decide)).trans rfl)
        have n1 : w8.cell? ⟨gg, mm * 8 + 1, none⟩ = some (.int .i64 a2) := hx _ _ ((hrow 1 (by decide)).trans rfl)
        have n2 : w8.cell? ⟨gg, mm * 8 + 2, none⟩ = some (.int .u8 4) := hx _ _ ((hrow 2 (by decide)).trans rfl)
        have hlen : (M ++ [(c, a2, (4 : Int), x2, x3, x4, x5, x6)]).length = mm + 1 := by rw [HMM.out]; simp
        rw [hlen] at hgc ⊢
        have hm1 : IntKind.i64.wrap ((mm : Int) + 1) = (mm : Int) + 1 := IntWalk.i64_in _ (by have := HMM.out; omega)
        have q0 : (0 : Int) ≤ (mm : Int) := by omega
        have q1 : (mm : Int) < ((mm + 1 : Nat) : Int) := by omega
        have q2 : (((mm + 1 : Nat) : Int) != (mm : Int) + 1) = false := by simp
        have q5 : (mm : Int) < (mm : Int) + 1 := by omega
        have q6 : ((mm : Int) + 1 != (mm : Int) + 1) = false := by simp
        have q3 : (c != c) = false := by simp
        have q4 : (a2 != a2) = false := by simp
        have H8 := Lib.hid (H7.out.new hb8)
        have KP8 := Lib.hid (Kp.to KP7.out (Kp.of hb8))
        have C3 := Lib.hid (ws_steps H8.out)
        have hmc : mm < cap := by omega
        have hmm1 : mm < mm + 1 := by omega
        clear hl8 hb8 hx hrow hlen hm
        go_wp2_with (go_at_call 10; ((with_reducible refine C3.out.mono ?_); rintro e w9 ⟨rfl, rfl⟩))
        clear n0 n1 n2
        go_roundw
        case rel => exact ⟨k + 1, by omega, by go_num, _, _, H8.out.less (fun k g => .inl g), Kp.to KP5.out (KP8.out.less (fun k g => .inl g))⟩
        case measure => simp [intOf]; omega
      · clear f1 f2 f3 f4 f5 f6 f8 f9 f10 f11 f12 f13 f14
        have CGr := Lib.hid (ws_grows HI5.out)
        go_wp2_with (first
          | (go_at_call 10; ((with_reducible refine C1.out.mono ?_); rintro e w6 ⟨rfl, rfl⟩))
          | (go_at_call 11; ((with_reducible refine C2.out.mono ?_); rintro e w6 ⟨rfl, rfl⟩)))
        refine CGr.out.mono ?_
        rintro e w7 ⟨⟨z7, rfl⟩, hb7⟩
        clear f0 f7 g0 g1 g2 hm
        have H7 := Lib.hid (HI5.out.new hb7)
        have HB7 := Lib.hid hb7
        have CF := Lib.hid (ws_full H7.out)
        clear hb7
        go_wp2_with fail
        refine CF.out.mono ?_
        rintro e w8 ⟨⟨z8, rfl⟩, hb8⟩
        have H8 := Lib.hid (H7.out.new hb8)
        have HB8 := Lib.hid (below_then HB7.out hb8)
        clear hb8
        have hd8 : Below w8.heap.size w8 w8.drew := (Below.refl _ _).drew
        obtain ⟨g0, g1, g2⟩ := (H8.out.new hd8).box
        obtain ⟨f0, f1, f2, f3, f4, f5, f6, f7, f8, f9, f10, f11, f12, f13, f14⟩ := FX.out _ (Kp.of (below_then HB8.out hd8))
        have CPk := Lib.hid (ws_peek (H8.out.new hd8) u7)
        clear f0 f1 f2 f3 f4 f5 f6 f8 f9 f10 f11 f12 f13 f14 g1 g2
        go_wp2_with fail
        go_region_held3 (fun X => X.cell? ⟨A.p, 0, none⟩ = some (.pointer (some ⟨A.pc, 0, none⟩)) ∧ X.cell? ⟨Q, 7, none⟩ = some (.int .u64 x7))
          (first | exact ⟨by assumption, by assumption⟩)
          (first
            | (go_at_call 19; ((with_reducible refine CPk.out.mono ?_); rintro e w9 ⟨⟨z9, rfl⟩, rfl⟩)))
        all_goals
          clear g0 f7
          have H9 := Lib.hid (H8.out.new hd8)
          have KP9 := Lib.hid (show Kp (fun k => G k ∨ k = Q) W5 w8.drew from Kp.of (below_then HB8.out hd8))
          have C3 := Lib.hid (ws_steps H9.out)
          have hne : (c != c) = false := by simp
          go_wp2_with (go_at_call 10; ((with_reducible refine C3.out.mono ?_); rintro e w10 ⟨rfl, rfl⟩))
          go_roundw
          case rel => exact ⟨k + 1, by omega, by go_num, _, _, H9.out.next.less (fun k g => .inl g), Kp.to KP5.out (KP9.out.less (fun k g => .inl g))⟩
          case measure => simp [intOf]; omega
      · clear f1 f2 f3 f4 f5 f6 f7 f8 f9 f10 f11 f12 f13 f14
        obtain ⟨z, tt, hz, htt, hnow, hP1, hT⟩ := ws_tick HI5.out hk100
        have CP1 := Lib.hid hP1
        have CT := Lib.hid hT
        have CN1 := Lib.hid (noww z W5 hz.1 hz.2)
        have HNOW := Lib.hid hnow
        have HTT := Lib.hid htt
        have hnz : 0 ≤ nowf z ∧ nowf z ≤ 16777215 := by unfold nowf; omega
        clear hP1 hT hnow htt hz
        go_wp2_with (first
          | (go_at_call 10; ((with_reducible refine C1.out.mono ?_); rintro e w6 ⟨rfl, rfl⟩))
          | (go_at_call 11; ((with_reducible refine C2.out.mono ?_); rintro e w6 ⟨rfl, rfl⟩))
          | (go_at_call 19; ((with_reducible refine CP1.out.mono ?_); rintro e w6 ⟨rfl, rfl⟩))
          | (go_at_call 20; ((with_reducible refine CN1.out.mono ?_); rintro e w7 ⟨rfl, hb7⟩; clear f0 g0 g1 g2 hm)))
        refine (CT.out _ hb7).mono ?_
        rintro e w8 ⟨rfl, h8, kp8, hP2, hLa⟩
        obtain ⟨g0, g1, g2⟩ := h8.box
        have CP2 := Lib.hid hP2
        have CN2 := Lib.hid (noww tt w8 HTT.out.1 HTT.out.2)
        have CLa := Lib.hid hLa
        have H8 := Lib.hid h8
        have KP8 := Lib.hid (Kp.to (Kp.of hb7) kp8)
        have hn1 : IntKind.i64.wrap (nowf z + 1) = nowf z + 1 := IntWalk.i64_in _ (by omega)
        have hmn : min (nowf z + 1) 16777215 = nowf tt := by rw [HNOW.out]; split <;> omega
        have hne2 : (nowf tt != nowf tt) = false := by simp
        have hne : (c + 1 != c + 1) = false := by simp
        clear h8 kp8 hP2 hLa g1 g2
        generalize nowf tt = nt at *
        have hf2 : ∀ W, (Instr.field 72 (.agg #[.int .u8 3, .int .u64 8, .int .u64 z, .int .u64 tt]) 1).run Try.prog W = .ok (.int .u64 8) W := fun W => by kernel_rfl
        go_wp2_with (first
          | (go_at_call 19; ((with_reducible refine CP2.out.mono ?_); rintro e w9 ⟨rfl, rfl⟩))
          | (go_at_call 20; ((with_reducible refine CN2.out.mono ?_); rintro e w9 ⟨rfl, hb9⟩; replace g0 := (hb9.cell (p := ⟨A.p, 0, none⟩) (World.block_lt_of_cell? _ _ g0)).trans g0))
          | (go_at_call 22; ((refine (CLa.out _ hb9).mono ?_); rintro e w10 ⟨rfl, hb10⟩; clear g0; have HB10 := Lib.hid (below_then hb9 hb10); have C3 := Lib.hid (ws_steps (H8.out.new HB10.out))))
          | (go_at_call 10; ((with_reducible refine C3.out.mono ?_); rintro e w11 ⟨rfl, rfl⟩)))
        all_goals
          go_roundw
          case rel => exact ⟨k + 1, by omega, by go_num, _, _, (H8.out.new HB10.out).less (fun k g => .inl g), Kp.to KP5.out ((Kp.to KP8.out (Kp.of HB10.out)).less (fun k g => .inl g))⟩
          case measure => simp [intOf]; omega
    · obtain rfl : l1 = k := by omega
      have KP := Lib.hid hkp
      clear hI hkp
      go_wp2_with (go_at_call 8; refine (lives10 _).mono ?_; rintro e w9 ⟨rfl, hk9⟩)
      go_ret
      have kb : Below w.heap.size w wr := by
        have kk := KP.out
        rw [HGG.out] at kk
        exact kk.below (Nat.le_refl _)
      exact ⟨rfl, below_then kb hk9⟩
end Go.Proofs.Ytadaeddklahjjaa
