/- The law WorldsPlay. -/
import Derived.Test.YthlebfiedejhhaaGreatWpD
import Derived.Test.YthlebfiedejhhaaGreatOpen
import Derived.Deep.Cut
import Derived.Deep.RegionHeld3
namespace Go.Proofs.YthlebfiedejhhaaGreat
open Go.RowKit Go.Maps
set_option linter.unusedVariables false
section
variable {G : Nat → Prop} {w : World} {A R : Ad} {V : Wv} {k : Nat}
theorem WpI.same (h : WpI G w A R V k) (hk : k ≤ 1000) :
    Calls Tryz.prog 15 #[.agg #[.pointer (some ⟨A.p, 0, none⟩), .pointer (some ⟨R.p, 0, none⟩)]] w fun e w' => e = .returned (.bool true) ∧ Below w.heap.size w w' := by
  obtain ⟨S, T, hp, -⟩ := h.pg
  exact pw_same hp (by have := h.ml; omega)
theorem WpI.all (h : WpI G w A R V k) (hk : k ≤ 200) :
    Calls Tryz.prog 13 #[.agg #[.pointer (some ⟨A.p, 0, none⟩), .pointer (some ⟨R.p, 0, none⟩)]] w fun e w' => e = .returned (.bool true) ∧ Below w.heap.size w w' := by
  obtain ⟨S, T, hp, -⟩ := h.pg
  exact pw_alla hp (by have := h.ml; omega) h.kd (by have := h.il; omega) (by have := h.cc; omega)
end
set_option maxHeartbeats 8000000 in
set_option maxRecDepth 100000 in
theorem walk_WorldsPlay (a0_0 : Int) (a0_1 : Int) (a0_2 : Int) (a0_3 : Int) (a0_4 : Int) (a0_5 : Bool) (a0_6 : Option Addr) (l0_6 c0_6 : Nat) (a0_7 : Option Addr) (l0_7 c0_7 : Nat) (a0_8 : Option Addr) (l0_8 c0_8 : Nat) (a0_9 : Int) (a1 : Option Addr) (l1 c1 : Nat) (w : World) (w0_0 : (Lit.int .i64 a0_0).wf = true) (w0_1 : (Lit.int .i64 a0_1).wf = true) (w0_2 : (Lit.int .i64 a0_2).wf = true) (w0_3 : (Lit.int .i64 a0_3).wf = true) (w0_4 : (Lit.int .i64 a0_4).wf = true) (w0_6 : Reads Tryz.prog w 24 (.slice a0_6 l0_6 c0_6)) (w0_7 : Reads Tryz.prog w 25 (.slice a0_7 l0_7 c0_7)) (w0_8 : Reads Tryz.prog w 26 (.slice a0_8 l0_8 c0_8)) (w0_9 : (Lit.int .i64 a0_9).wf = true) (w1 : Reads Tryz.prog w 29 (.slice a1 l1 c1)) :
    Calls Tryz.prog 3 #[.agg #[.int .i64 a0_0, .int .i64 a0_1, .int .i64 a0_2, .int .i64 a0_3, .int .i64 a0_4, .bool a0_5, .slice a0_6 l0_6 c0_6, .slice a0_7 l0_7 c0_7, .slice a0_8 l0_8 c0_8, .int .i64 a0_9], .slice a1 l1 c1] w fun e w' => e = .returned (.bool true) ∧ Below w.heap.size w w' := by
  obtain ⟨L, hLl, hG, hBg⟩ := first_open w0_6 w0_7 w0_8 a0_0 a0_1 a0_2 a0_3 a0_4 a0_9 a0_5
  obtain ⟨hm1, bA, oA, hA1, hA2⟩ := reads_acts10 (e := 48) Tryz.underlying29 (by kernel_rfl) (by kernel_rfl) w1
  have CG := Lib.hid hG
  have CB := Lib.hid hBg
  have HLL := Lib.hid hLl
  have HA1 := Lib.hid hA1
  have HA2 := Lib.hid hA2
  have HM1 := Lib.hid hm1
  clear hG hBg hLl hA1 hA2 hm1 w0_0 w0_1 w0_2 w0_3 w0_4 w0_6 w0_7 w0_8 w0_9 w1
  go_enter Tryz.func3, Tryz.ntmps3
  go_wp2_with fail
  obtain ⟨F, hF⟩ : ∃ F, F = w.heap.size := ⟨_, rfl⟩
  generalize hW : World.alloc w _ = W
  have bW : Below w.heap.size w W := by rw [← hW]; exact (Below.refl _ _).alloc (Nat.le_refl _) _
  have HBW := Lib.hid bW
  have KEEP : Hid (∀ X, Below W.heap.size W X → X.cell? ⟨F, 0, none⟩ = some (.int .i64 a0_0) ∧ X.cell? ⟨F, 1, none⟩ = some (.int .i64 a0_1) ∧ X.cell? ⟨F, 2, none⟩ = some (.int .i64 a0_2) ∧ X.cell? ⟨F, 3, none⟩ = some (.int .i64 a0_3) ∧ X.cell? ⟨F, 4, none⟩ = some (.int .i64 a0_4) ∧ X.cell? ⟨F, 5, none⟩ = some (.bool a0_5) ∧ X.cell? ⟨F, 6, none⟩ = some (.slice a0_6 l0_6 c0_6) ∧ X.cell? ⟨F, 7, none⟩ = some (.slice a0_7 l0_7 c0_7) ∧ X.cell? ⟨F, 8, none⟩ = some (.slice a0_8 l0_8 c0_8) ∧ X.cell? ⟨F, 9, none⟩ = some (.int .i64 a0_9)) := Lib.hid (fun X hb => by
    have lt : F < W.heap.size := by rw [← hW, hF]; simp
    have up : ∀ {j v}, W.cell? ⟨F, j, none⟩ = some v → X.cell? ⟨F, j, none⟩ = some v := fun {j v} hc => (hb.cell (p := ⟨F, j, none⟩) lt).trans hc
    refine ⟨up ?_, up ?_, up ?_, up ?_, up ?_, up ?_, up ?_, up ?_, up ?_, up ?_⟩ <;> (rw [← hW, hF]; exact new_at rfl rfl))
  rw [← hF]
  clear hW bW hF
  refine (CG.out _ HBW.out).mono ?_
  rintro e w1 ⟨r, rfl, k1, hr⟩
  obtain ⟨f0, f1, f2, f3, f4, f5, f6, f7, f8, f9⟩ := KEEP.out _ k1
  have HB1 := Lib.hid (below_then HBW.out k1)
  clear k1
  cases r with
  | true =>
    clear f0 f1 f2 f3 f4 f5 f6 f7 f8 f9 hr
    go_wp2_with (go_at_call 11; refine (lives10 _).mono ?_; rintro e w9 ⟨rfl, hk9⟩)
    go_ret
    exact ⟨rfl, below_then HB1.out hk9⟩
  | false =>
    have HBIG := Lib.hid (show BigOk l0_6 l0_7 l0_8 L from hr rfl)
    clear hr
    by_cases hl : l1 ≤ 60
    rotate_left
    · have hd : decide ((60 : Int) < (l1 : Int)) = true := decide_eq_true (by omega)
      clear f0 f1 f2 f3 f4 f5 f6 f7 f8 f9
      go_wp2_with (go_at_call 11; refine (lives10 _).mono ?_; rintro e w9 ⟨rfl, hk9⟩)
      go_ret
      exact ⟨rfl, below_then HB1.out hk9⟩
    have hd : decide ((60 : Int) < (l1 : Int)) = false := decide_eq_false (by omega)
    have HL := Lib.hid hl
    clear hl
    go_wp2_with fail
    refine (CB.out _ HB1.out HBIG.out).mono ?_
    rintro e w2 ⟨A, R, V, S, T, rfl, hP, ⟨hM0, -, -⟩, ⟨-, -, hbu1, hbu2, -⟩, hI, hcnt, hST, k2⟩
    have hPG : PwG (fun k => k < w.heap.size) w2 A R V := (PwG.of_begin (L := L) hP hST k2).less (fun k g => Nat.lt_of_lt_of_le g HB1.out.size)
    have HG2 : Hid (WpI (fun k => k < w.heap.size) w2 A R V 0) := Lib.hid ⟨hPG, by rw [hM0]; simp, fun x hx => by rw [hM0] at hx; simp at hx, by rw [hI, HLL.out]; have := HBIG.out.1; omega, by simpa using hcnt, ⟨by omega, hbu2⟩⟩
    have HB2 := Lib.hid (below_then HB1.out k2)
    clear hP hM0 hbu1 hbu2 hI hcnt hST k2 hPG f0 f1 f2 f3 f4 f5 f6 f7 f8 f9 KEEP CG CB hd
    obtain ⟨P, hPq⟩ : ∃ P, P = w2.heap.size := ⟨_, rfl⟩
    go_upto_region 4 with (fail)
    generalize hW3 : World.alloc w2 _ = W3
    rw [← hPq]
    have k23 : Below w2.heap.size w2 W3 := by rw [← hW3]; exact bs_alloc (Below.refl _ _)
    have p0 : W3.cell? ⟨P, 0, none⟩ = some (.pointer (some ⟨A.p, 0, none⟩)) := by rw [← hW3, hPq]; exact new_at rfl rfl
    have p1 : W3.cell? ⟨P, 1, none⟩ = some (.pointer (some ⟨R.p, 0, none⟩)) := by rw [← hW3, hPq]; exact new_at rfl rfl
    have HG3 := Lib.hid (HG2.out.add k23 (q := P) (by omega) (by rw [← hW3, hPq]; simp))
    have HB3 := Lib.hid (below_then HB2.out k23)
    have PK : Hid (∀ X, Kp (fun j => j < w.heap.size ∨ j = P) W3 X → X.cell? ⟨P, 0, none⟩ = some (.pointer (some ⟨A.p, 0, none⟩)) ∧ X.cell? ⟨P, 1, none⟩ = some (.pointer (some ⟨R.p, 0, none⟩)) ∧ Below w.heap.size w X) := Lib.hid (fun X hk => ⟨hk.cell (p := ⟨P, 0, none⟩) (fun n => n (.inr rfl)) p0, hk.cell (p := ⟨P, 1, none⟩) (fun n => n (.inr rfl)) p1, HB3.out.trans ((hk.less (fun j h => .inl h)).below HB3.out.size)⟩)
    clear hW3 k23 hPq HG2 HB2 HB1
    go_wp2_with (go_at_call 13; (refine (HG3.out.all (by decide)).mono ?_); rintro e w4 ⟨rfl, hk4⟩; have HB4 := Lib.hid hk4; clear hk4 p0 p1)
    go_loopw [6] (fun i X => ∃ k : Nat, k ≤ l1 ∧ i = .int .i64 k ∧ ∃ V, WpI (fun j => j < w.heap.size ∨ j = P) X A R V k ∧ Kp (fun j => j < w.heap.size ∨ j = P) W3 X) (fun i _ => l1 - (intOf i).toNat)
    case atStart => exact ⟨0, by omega, rfl, V, HG3.out.new HB4.out, Kp.of HB4.out⟩
    case round =>
      clear HG3 HB4 V
      obtain ⟨k, hk, rfl, V, hI, hK⟩ := hrel
      have HI := Lib.hid hI
      have HK := Lib.hid hK
      have HPK := Lib.hid (PK.out _ hK)
      clear hI hK
      by_cases hlt : k < l1
      · obtain ⟨hlc, rfl⟩ := HA1.out (by omega)
        obtain ⟨x0, x1, x2, x3, x4, x5, x6, x7, x8, x9, x10, x11, x12, x13, x14, hx0, hx1, h7, h8, h9, h10, hq⟩ := HA2.out k hlt
        have AK : Hid (∀ X, Below w.heap.size w X → X.cell? ⟨bA, oA + k * 15, none⟩ = some (.int .u8 x0) ∧ X.cell? ⟨bA, oA + k * 15 + 1, none⟩ = some (.int .u8 x1) ∧ X.cell? ⟨bA, oA + k * 15 + 2, none⟩ = some (.int .i64 x2) ∧ X.cell? ⟨bA, oA + k * 15 + 3, none⟩ = some (.int .i64 x3) ∧ X.cell? ⟨bA, oA + k * 15 + 4, none⟩ = some (.int .i64 x4) ∧ X.cell? ⟨bA, oA + k * 15 + 5, none⟩ = some (.int .i64 x5) ∧ X.cell? ⟨bA, oA + k * 15 + 6, none⟩ = some (.int .i64 x6) ∧ X.cell? ⟨bA, oA + k * 15 + 7, none⟩ = some (.int .u64 x7) ∧ X.cell? ⟨bA, oA + k * 15 + 8, none⟩ = some (.int .u64 x8) ∧ X.cell? ⟨bA, oA + k * 15 + 9, none⟩ = some (.string x9) ∧ X.cell? ⟨bA, oA + k * 15 + 10, none⟩ = some (.string x10) ∧ X.cell? ⟨bA, oA + k * 15 + 11, none⟩ = some (.int .u32 x11) ∧ X.cell? ⟨bA, oA + k * 15 + 12, none⟩ = some (.int .u64 x12) ∧ X.cell? ⟨bA, oA + k * 15 + 13, none⟩ = some (.int .i64 x13) ∧ X.cell? ⟨bA, oA + k * 15 + 14, none⟩ = some (.int .i64 x14)) := Lib.hid (fun X hb => by
          have up : ∀ {o v}, w.cell? ⟨bA, o, none⟩ = some v → X.cell? ⟨bA, o, none⟩ = some v := fun {o v} hc => (hb.cell (p := ⟨bA, o, none⟩) (World.block_lt_of_cell? _ _ hc)).trans hc
          obtain ⟨e0, e1, e2, e3, e4, e5, e6, e7, e8, e9, e10, e11, e12, e13, e14⟩ := hq
          exact ⟨up e0, up e1, up e2, up e3, up e4, up e5, up e6, up e7, up e8, up e9, up e10, up e11, up e12, up e13, up e14⟩)
        have hk60 : k < 60 := by have := HL.out; omega
        have hkc : k < c1 := by omega
        have j0 : (0 : Int) ≤ (k : Int) := by omega
        have j1 : (k : Int) < (l1 : Int) := by omega
        have HKL := Lib.hid (And.intro hk hlt)
        obtain ⟨sm, hsum⟩ : ∃ sm, IntKind.i64.wrap ((x9.size : Int) + (x10.size : Int)) = sm := ⟨_, rfl⟩
        obtain ⟨p0, p1, hbw⟩ := HPK.out
        have HBX := Lib.hid hbw
        obtain ⟨e0, e1, e2, e3, e4, e5, e6, e7, e8, e9, e10, e11, e12, e13, e14⟩ := AK.out _ hbw
        clear hq hbw hk hlt hlc h9 h10
        by_cases hs : (2000 : Int) < sm
        · have hds : decide ((2000 : Int) < sm) = true := decide_eq_true hs
          clear e0 e1 e2 e3 e4 e5 e6 e7 e8 e11 e12 e13 e14
          go_wp2_with fail
          go_quiet (fail)
          clear e9 e10 p0 p1 hsum
          go_wp2_with (go_at_call 11; refine (lives10 _).mono ?_; rintro e w9 ⟨rfl, hk9⟩)
          go_ret
          exact ⟨rfl, below_then (belowNd HBX.out _) hk9⟩
        · have hds : decide ((2000 : Int) < sm) = false := decide_eq_false hs
          clear hs e0 e1 e2 e3 e4 e5 e6 e7 e8 e11 e12 e13 e14
          go_wp2_with fail
          go_quiet (fail)
          clear e9 e10 p0 p1
          have hbn : Below wr.heap.size wr (wr.drewN nq) := belowNd (Below.refl _ _) nq
          have HIn := Lib.hid (HI.out.new hbn)
          have HKn := Lib.hid (Kp.to HK.out (Kp.of hbn))
          go_upto_region 11 with (fail)
          clear hds hsum hbn
          generalize wr.drewN nq = X5 at *
          have hd5 : Below X5.heap.size X5 X5.drew := (Below.refl _ _).drew
          have CD := Lib.hid (do_w (HIn.out.new hd5) hk60 x0 x1 x2 x3 x4 x5 x6 x7 x8 x9 x10 x11 x12 x13 x14 hx0 hx1 h7 h8)
          obtain ⟨p0, p1, hbw⟩ := PK.out _ (Kp.to HKn.out (Kp.of hd5))
          obtain ⟨e0, e1, e2, e3, e4, e5, e6, e7, e8, e9, e10, e11, e12, e13, e14⟩ := AK.out _ hbw
          clear hbw
          go_wp2_with fail
          go_region_held3 (fun X => X.cell? ⟨P, 0, none⟩ = some (.pointer (some ⟨A.p, 0, none⟩)) ∧ X.cell? ⟨P, 1, none⟩ = some (.pointer (some ⟨R.p, 0, none⟩)) ∧ X.cell? ⟨bA, oA + k * 15, none⟩ = some (.int .u8 x0) ∧ X.cell? ⟨bA, oA + k * 15 + 1, none⟩ = some (.int .u8 x1) ∧ X.cell? ⟨bA, oA + k * 15 + 2, none⟩ = some (.int .i64 x2) ∧ X.cell? ⟨bA, oA + k * 15 + 3, none⟩ = some (.int .i64 x3) ∧ X.cell? ⟨bA, oA + k * 15 + 4, none⟩ = some (.int .i64 x4) ∧ X.cell? ⟨bA, oA + k * 15 + 5, none⟩ = some (.int .i64 x5) ∧ X.cell? ⟨bA, oA + k * 15 + 6, none⟩ = some (.int .i64 x6) ∧ X.cell? ⟨bA, oA + k * 15 + 7, none⟩ = some (.int .u64 x7) ∧ X.cell? ⟨bA, oA + k * 15 + 8, none⟩ = some (.int .u64 x8) ∧ X.cell? ⟨bA, oA + k * 15 + 9, none⟩ = some (.string x9) ∧ X.cell? ⟨bA, oA + k * 15 + 10, none⟩ = some (.string x10) ∧ X.cell? ⟨bA, oA + k * 15 + 11, none⟩ = some (.int .u32 x11) ∧ X.cell? ⟨bA, oA + k * 15 + 12, none⟩ = some (.int .u64 x12) ∧ X.cell? ⟨bA, oA + k * 15 + 13, none⟩ = some (.int .i64 x13) ∧ X.cell? ⟨bA, oA + k * 15 + 14, none⟩ = some (.int .i64 x14))
            (first | exact ⟨by assumption, by assumption, by assumption, by assumption, by assumption, by assumption, by assumption, by assumption, by assumption, by assumption, by assumption, by assumption, by assumption, by assumption, by assumption, by assumption, by assumption⟩)
            (first
              | (go_at_call 14; ((with_reducible refine CD.out.mono ?_); rintro e w6 ⟨rfl, V6, h6, k6⟩; have HK6 := Lib.hid (Kp.to (Kp.to HKn.out (Kp.of hd5)) k6); have HI6 := Lib.hid h6; clear h6 k6 p0 p1 e0 e1 e2 e3 e4 e5 e6 e7 e8 e9 e10 e11 e12 e13 e14; obtain ⟨p0, p1, hbw⟩ := PK.out _ HK6.out; obtain ⟨e0, e1, e2, e3, e4, e5, e6, e7, e8, e9, e10, e11, e12, e13, e14⟩ := AK.out _ hbw; clear hbw))
              | (go_at_call 15; (refine (HI6.out.same (by omega)).mono ?_); rintro e w7 ⟨rfl, hk7⟩; have HK7 := Lib.hid (Kp.to HK6.out (Kp.of hk7)); have HI7 := Lib.hid (HI6.out.new hk7); clear hk7 p0 p1 e0 e1 e2 e3 e4 e5 e6 e7 e8 e9 e10 e11 e12 e13 e14; obtain ⟨p0, p1, hbw⟩ := PK.out _ HK7.out; obtain ⟨e0, e1, e2, e3, e4, e5, e6, e7, e8, e9, e10, e11, e12, e13, e14⟩ := AK.out _ hbw; clear hbw))
          clear p0 p1 e0 e1 e2 e3 e4 e5 e6 e7 e8 e9 e10 e11 e12 e13 e14
          go_wp2_with fail
          go_roundw
          case rel => exact ⟨k + 1, by have := HKL.out; omega, by go_num, V6, HI7.out, HK7.out⟩
          case measure => have := HKL.out; simp [intOf]; omega
      · obtain rfl : l1 = k := by omega
        obtain ⟨p0, p1, hbw⟩ := HPK.out
        have HBX := Lib.hid hbw
        clear hbw
        go_wp2_with (first
          | (go_at_call 13; refine (HI.out.all (by have := HL.out; omega)).mono ?_; rintro e w9 ⟨rfl, hk9⟩)
          | (go_at_call 11; refine (lives10 _).mono ?_; rintro e w10 ⟨rfl, hk10⟩))
        go_ret
        exact ⟨rfl, below_then (below_then HBX.out hk9) hk10⟩
end Go.Proofs.YthlebfiedejhhaaGreat
