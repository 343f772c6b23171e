/- The law GrowsPlay. -/
import Derived.Test.YtepkpbhhiianpaaGreatGGw
import Derived.Test.YtepkpbhhiianpaaGreatGG4
import Derived.Test.YtepkpbhhiianpaaGreatOpen
import Derived.Deep.Cut
import Derived.Deep.CutBlock
import Derived.Deep.RegionHeld3
import Derived.Deep.CutRange
import Derived.Deep.QuietTactic
import Derived.BigQuiet
namespace Go.Proofs.YtepkpbhhiianpaaGreat
open Go.RowKit Go.Maps
set_option linter.unusedVariables false
theorem belowNv {w : World} (n : Nat) : Below w.heap.size w (w.drewN n) := by
  induction n with
  | zero => exact Below.refl _ _
  | succ n ih => exact ih.drew
theorem rnewG {t l z : Int} (h : LnG t l z) (ht : isU t) (w : World) : Calls Tryz.prog 24 #[.int .u64 t] w fun e w' => ∃ r, e = .returned (.pointer (some ⟨r, 0, none⟩)) ∧ Ob w' r (rgC l z) ∧ w.heap.size ≤ r ∧ Below w.heap.size w w' := by
  refine (rnewGrow t w ht h).mono ?_
  rintro e w' ⟨he, rfl⟩
  exact ⟨_, he, gw_at rfl rfl, Nat.le_refl _, bs_alloc (Below.refl _ _)⟩
theorem rnewS {t l z : Int} (h : LnS t l z) (ht : isU t) (w : World) : Calls Tryz.prog 27 #[.int .u64 t] w fun e w' => ∃ r, e = .returned (.pointer (some ⟨r, 0, none⟩)) ∧ Ob w' r (rgC l z) ∧ w.heap.size ≤ r ∧ Below w.heap.size w w' := by
  refine (rnewSwap t w ht h).mono ?_
  rintro e w' ⟨he, rfl⟩
  exact ⟨_, he, gw_at rfl rfl, Nat.le_refl _, bs_alloc (Below.refl _ _)⟩
/-- Four cells of a block, open. -/
def Fo4 (w : World) (n : Nat) (c0 c1 c2 c3 : Value) : Prop := (w.cell? ⟨n, 0, none⟩ = some c0 ∧ w.cell? ⟨n, 1, none⟩ = some c1 ∧ w.cell? ⟨n, 2, none⟩ = some c2 ∧ w.cell? ⟨n, 3, none⟩ = some c3) ∧ w.frozen? ⟨n, 0, none⟩ = false ∧ w.frozen? ⟨n, 1, none⟩ = false ∧ w.frozen? ⟨n, 2, none⟩ = false ∧ w.frozen? ⟨n, 3, none⟩ = false
theorem Fo4.up {X Y : World} {n : Nat} {a b c d : Value} (z : Fo4 X n a b c d) (h : Below X.heap.size X Y) : Fo4 Y n a b c d := by
  obtain ⟨⟨z0, z1, z2, z3⟩, y0, y1, y2, y3⟩ := z
  have hl : n < X.heap.size := World.block_lt_of_cell? _ _ z0
  exact ⟨⟨(h.cell (p := ⟨n, 0, none⟩) hl).trans z0, (h.cell (p := ⟨n, 1, none⟩) hl).trans z1, (h.cell (p := ⟨n, 2, none⟩) hl).trans z2, (h.cell (p := ⟨n, 3, none⟩) hl).trans z3⟩, (h.frozen (p := ⟨n, 0, none⟩) hl).trans y0, (h.frozen (p := ⟨n, 1, none⟩) hl).trans y1, (h.frozen (p := ⟨n, 2, none⟩) hl).trans y2, (h.frozen (p := ⟨n, 3, none⟩) hl).trans y3⟩
theorem fo4_at {X : World} {a b c d : Value} {t : TypeId} : Fo4 (X.alloc (.cells #[a, b, c, d] t)) X.heap.size a b c d :=
  ⟨⟨by simp, by simp, by simp, by simp⟩, by simp, by simp, by simp, by simp⟩
theorem fo4_atN {X Y : World} {n : Nat} {a b c d : Value} {t : TypeId} (hn : n = X.heap.size) (h : Below (X.alloc (.cells #[a, b, c, d] t)).heap.size (X.alloc (.cells #[a, b, c, d] t)) Y) : Fo4 Y n a b c d := by
  subst hn
  exact fo4_at.up h
/-- What a new operation leaves: its struct, in a block of its own, and its own blocks. -/
def Np19 (X wx : World) (s : Value) (q b r : Nat) (v0 v1 v2 v3 : Value) : Prop := ∃ n, s = .pointer (some ⟨n, 0, none⟩) ∧ (wx.cell? ⟨n, 0, none⟩ = some v0 ∧ wx.cell? ⟨n, 1, none⟩ = some v1 ∧ wx.cell? ⟨n, 2, none⟩ = some v2 ∧ wx.cell? ⟨n, 3, none⟩ = some v3) ∧ GwS wx ⟨[v0, v1, v2, v3], fun j => j = q ∨ j = r ∨ j = b⟩ ∧ (X.heap.size ≤ q ∧ q < wx.heap.size) ∧ (X.heap.size ≤ r ∧ r < wx.heap.size) ∧ (X.heap.size ≤ b ∧ b < wx.heap.size) ∧ Below X.heap.size X wx
theorem np19_set {X w7 : World} {n q b r : Nat} {v0 v1 v2 v3 c0 c1 c2 c3 : Value} (hk7 : Below X.heap.size X w7) (z : Fo4 w7 n c0 c1 c2 c3) (hn : X.heap.size ≤ n) (hq : X.heap.size ≤ q ∧ q < w7.heap.size) (hr : X.heap.size ≤ r ∧ r < w7.heap.size) (hb : X.heap.size ≤ b ∧ b < w7.heap.size) (hP : ∀ Y, Keeps (fun j => j = n) w7 Y → GwS Y ⟨[v0, v1, v2, v3], fun j => j = q ∨ j = r ∨ j = b⟩) :
    Np19 X ((((w7.setCell ⟨n, 0, none⟩ v0).setCell ⟨n, 1, none⟩ v1).setCell ⟨n, 2, none⟩ v2).setCell ⟨n, 3, none⟩ v3) (.pointer (some ⟨n, 0, none⟩)) q b r v0 v1 v2 v3 := by
  obtain ⟨⟨z0, z1, z2, z3⟩, y0, y1, y2, y3⟩ := z
  have k3 : Keeps (fun j => j = n) w7 ((((w7.setCell ⟨n, 0, none⟩ v0).setCell ⟨n, 1, none⟩ v1).setCell ⟨n, 2, none⟩ v2).setCell ⟨n, 3, none⟩ v3) := ((((Keeps.refl (fun j => j = n) w7).setCell (p := ⟨n, 0, none⟩) (.inl rfl) v0).setCell (p := ⟨n, 1, none⟩) (.inl rfl) v1).setCell (p := ⟨n, 2, none⟩) (.inl rfl) v2).setCell (p := ⟨n, 3, none⟩) (.inl rfl) v3
  have so : ∀ {w : World} {i j : Nat} {u v : Value}, i ≠ j → w.cell? ⟨n, j, none⟩ = some v → (w.setCell ⟨n, i, none⟩ u).cell? ⟨n, j, none⟩ = some v := fun hij hc => set_other hij hc
  have hsz := k3.size
  refine ⟨n, rfl, ⟨so (by decide) (so (by decide) (so (by decide) (World.cell?_setCell_same _ _ _ z0))), so (by decide) (so (by decide) (World.cell?_setCell_same _ _ _ (so (by decide) z1))), so (by decide) (World.cell?_setCell_same _ _ _ (so (by decide) (so (by decide) z2))), World.cell?_setCell_same _ _ _ (so (by decide) (so (by decide) (so (by decide) z3)))⟩, hP _ k3, ⟨hq.1, by omega⟩, ⟨hr.1, by omega⟩, ⟨hb.1, by omega⟩, bs_set (bs_set (bs_set (bs_set hk7 hn) hn) hn) hn⟩
theorem np19_new {X w7 : World} {q b r : Nat} {v0 v1 v2 v3 : Value} {t : TypeId} (hk7 : Below X.heap.size X w7) (hq : X.heap.size ≤ q ∧ q < w7.heap.size) (hr : X.heap.size ≤ r ∧ r < w7.heap.size) (hb : X.heap.size ≤ b ∧ b < w7.heap.size) (hP : ∀ Y, Keeps (fun _ => False) w7 Y → GwS Y ⟨[v0, v1, v2, v3], fun j => j = q ∨ j = r ∨ j = b⟩) :
    Np19 X (w7.alloc (.cells #[v0, v1, v2, v3] t)) (.pointer (some ⟨w7.heap.size, 0, none⟩)) q b r v0 v1 v2 v3 := by
  have hba : Below w7.heap.size w7 (w7.alloc (.cells #[v0, v1, v2, v3] t)) := bs_alloc (Below.refl _ _)
  refine ⟨w7.heap.size, rfl, ⟨by simp, by simp, by simp, by simp⟩, hP _ (Keeps.of_new hba), ⟨hq.1, by simp; omega⟩, ⟨hr.1, by simp; omega⟩, ⟨hb.1, by simp; omega⟩, bs_alloc hk7⟩
set_option maxHeartbeats 8000000 in
set_option maxRecDepth 100000 in
theorem walk_GrowsPlay (a0_0 : Int) (a0_1 : Int) (a0_2 : Int) (a0_3 : Int) (a0_4 : Int) (a0_5 : Bool) (a0_6 : Option Addr) (l0_6 c0_6 : Nat) (a0_7 : Option Addr) (l0_7 c0_7 : Nat) (a0_8 : Option Addr) (l0_8 c0_8 : Nat) (a0_9 : Int) (a1 : Option Addr) (l1 c1 : Nat) (w : World) (w0_0 : (Lit.int .i64 a0_0).wf = true) (w0_1 : (Lit.int .i64 a0_1).wf = true) (w0_2 : (Lit.int .i64 a0_2).wf = true) (w0_3 : (Lit.int .i64 a0_3).wf = true) (w0_4 : (Lit.int .i64 a0_4).wf = true) (w0_6 : Reads Tryz.prog w 24 (.slice a0_6 l0_6 c0_6)) (w0_7 : Reads Tryz.prog w 25 (.slice a0_7 l0_7 c0_7)) (w0_8 : Reads Tryz.prog w 26 (.slice a0_8 l0_8 c0_8)) (w0_9 : (Lit.int .i64 a0_9).wf = true) (w1 : Reads Tryz.prog w 58 (.slice a1 l1 c1)) :
    Calls Tryz.prog 4 #[.agg #[.int .i64 a0_0, .int .i64 a0_1, .int .i64 a0_2, .int .i64 a0_3, .int .i64 a0_4, .bool a0_5, .slice a0_6 l0_6 c0_6, .slice a0_7 l0_7 c0_7, .slice a0_8 l0_8 c0_8, .int .i64 a0_9], .slice a1 l1 c1] w fun e w' => e = .returned (.bool true) ∧ Below w.heap.size w w' := by
  obtain ⟨L, hLl, hG, hBg⟩ := first_open w0_6 w0_7 w0_8 a0_0 a0_1 a0_2 a0_3 a0_4 a0_9 a0_5
  obtain ⟨hm1, bA, oA, hA1, hA2⟩ := reads_acts19 (e := 61) Tryz.underlying58 (by kernel_rfl) (by kernel_rfl) w1
  have CG := Lib.hid hG
  have CB := Lib.hid hBg
  have HLL := Lib.hid hLl
  have HA1 := Lib.hid hA1
  have HA2 := Lib.hid hA2
  have HM1 := Lib.hid hm1
  clear hG hBg hLl hA1 hA2 hm1 w0_0 w0_1 w0_2 w0_3 w0_4 w0_6 w0_7 w0_8 w0_9 w1
  go_enter Tryz.func4, Tryz.ntmps4
  go_wp2_with fail
  obtain ⟨F, hF⟩ : ∃ F, F = w.heap.size := ⟨_, rfl⟩
  generalize hW : World.alloc w _ = W
  have bW : Below w.heap.size w W := by rw [← hW]; exact (Below.refl _ _).alloc (Nat.le_refl _) _
  have HBW := Lib.hid bW
  have KEEP : Hid (∀ X, Below W.heap.size W X → X.cell? ⟨F, 0, none⟩ = some (.int .i64 a0_0) ∧ X.cell? ⟨F, 1, none⟩ = some (.int .i64 a0_1) ∧ X.cell? ⟨F, 2, none⟩ = some (.int .i64 a0_2) ∧ X.cell? ⟨F, 3, none⟩ = some (.int .i64 a0_3) ∧ X.cell? ⟨F, 4, none⟩ = some (.int .i64 a0_4) ∧ X.cell? ⟨F, 5, none⟩ = some (.bool a0_5) ∧ X.cell? ⟨F, 6, none⟩ = some (.slice a0_6 l0_6 c0_6) ∧ X.cell? ⟨F, 7, none⟩ = some (.slice a0_7 l0_7 c0_7) ∧ X.cell? ⟨F, 8, none⟩ = some (.slice a0_8 l0_8 c0_8) ∧ X.cell? ⟨F, 9, none⟩ = some (.int .i64 a0_9)) := Lib.hid (fun X hb => by
    have lt : F < W.heap.size := by rw [← hW, hF]; simp
    have up : ∀ {j v}, W.cell? ⟨F, j, none⟩ = some v → X.cell? ⟨F, j, none⟩ = some v := fun {j v} hc => (hb.cell (p := ⟨F, j, none⟩) lt).trans hc
    refine ⟨up ?_, up ?_, up ?_, up ?_, up ?_, up ?_, up ?_, up ?_, up ?_, up ?_⟩ <;> (rw [← hW, hF]; exact new_at rfl rfl))
  rw [← hF]
  clear hW bW hF
  refine (CG.out _ HBW.out).mono ?_
  rintro e w1 ⟨r, rfl, k1, hr⟩
  obtain ⟨f0, f1, f2, f3, f4, f5, f6, f7, f8, f9⟩ := KEEP.out _ k1
  have HB1 := Lib.hid (below_then HBW.out k1)
  clear k1
  cases r with
  | true =>
    clear f0 f1 f2 f3 f4 f5 f6 f7 f8 f9 hr
    go_wp2_with (go_at_call 22; refine (lives19 _).mono ?_; rintro e w9 ⟨rfl, hk9⟩)
    go_ret
    exact ⟨rfl, below_then HB1.out hk9⟩
  | false =>
    have HBIG := Lib.hid (show BigOk l0_6 l0_7 l0_8 L from hr rfl)
    clear hr
    by_cases hl : l1 ≤ 200
    rotate_left
    · have hd : decide ((200 : Int) < (l1 : Int)) = true := decide_eq_true (by omega)
      clear f0 f1 f2 f3 f4 f5 f6 f7 f8 f9
      go_wp2_with (go_at_call 22; refine (lives19 _).mono ?_; rintro e w9 ⟨rfl, hk9⟩)
      go_ret
      exact ⟨rfl, below_then HB1.out hk9⟩
    have hd : decide ((200 : Int) < (l1 : Int)) = false := decide_eq_false (by omega)
    have HL := Lib.hid hl
    clear hl
    go_wp2_with fail
    refine (CB.out _ HB1.out HBIG.out).mono ?_
    rintro e w2 ⟨A, R, V, S, T, rfl, hP, ⟨hM0, -, -⟩, -, hI, hcnt, hST, k2⟩
    have hPG : PwG (fun k => k < w.heap.size) w2 A R V := (PwG.of_begin (L := L) hP hST k2).less (fun k g => Nat.lt_of_lt_of_le g HB1.out.size)
    have HG2 := Lib.hid hPG.hf
    have HB2 := Lib.hid (below_then HB1.out k2)
    have HV := Lib.hid (show V.M = [] ∧ V.I.length ≤ 300 ∧ V.cnt ≤ 1000 from ⟨hM0, by rw [hI, HLL.out]; have := HBIG.out.1; omega, hcnt⟩)
    clear hP hM0 hI hcnt hST k2 hPG f0 f1 f2 f3 f4 f5 f6 f7 f8 f9 KEEP CG CB hd
    obtain ⟨P, hPq⟩ : ∃ P, P = w2.heap.size := ⟨_, rfl⟩
    go_upto_region 4 with (fail)
    generalize hW3 : World.alloc w2 _ = W3
    rw [← hPq]
    have k23 : Below w2.heap.size w2 W3 := by rw [← hW3]; exact bs_alloc (Below.refl _ _)
    have p0 : W3.cell? ⟨P, 0, none⟩ = some (.pointer (some ⟨A.p, 0, none⟩)) := by rw [← hW3, hPq]; exact new_at rfl rfl
    have p1 : W3.cell? ⟨P, 1, none⟩ = some (.pointer (some ⟨R.p, 0, none⟩)) := by rw [← hW3, hPq]; exact new_at rfl rfl
    have HG3 := HG2.out.add k23 (q := P) (by omega) (by rw [← hW3, hPq]; simp)
    have HB3 := Lib.hid (below_then HB2.out k23)
    have HR0 : Hid (Pl19 w.heap.size P W3 A R W3 (.slice none 0 0) 0 1000) := Lib.hid (PlM.first HG3 (fun j hj => hj) HV.out.1 (by decide) HV.out.2.1 HV.out.2.2)
    have PK : Hid (∀ X, Kp (fun j => j < w.heap.size ∨ j = P) W3 X → X.cell? ⟨P, 0, none⟩ = some (.pointer (some ⟨A.p, 0, none⟩)) ∧ X.cell? ⟨P, 1, none⟩ = some (.pointer (some ⟨R.p, 0, none⟩)) ∧ Below w.heap.size w X) := Lib.hid (fun X hk => ⟨hk.cell (p := ⟨P, 0, none⟩) (fun n => n (.inr rfl)) p0, hk.cell (p := ⟨P, 1, none⟩) (fun n => n (.inr rfl)) p1, HB3.out.trans ((hk.less (fun j h => .inl h)).below HB3.out.size)⟩)
    clear hW3 k23 hPq p0 p1 HG3 HG2 HV HB2 HB1
    go_wp2_with fail
    go_loopw [6, 7] (fun s6 i X => ∃ k : Nat, k ≤ l1 ∧ i = .int .i64 k ∧ Pl19 w.heap.size P W3 A R X s6 k (1000 + k)) (fun _ i _ => l1 - (intOf i).toNat)
    case atStart => exact ⟨0, by omega, rfl, HR0.out⟩
    case round =>
      clear HR0
      obtain ⟨k, hk, rfl, hR⟩ := hrel
      have HR := Lib.hid hR
      have HPK := Lib.hid (PK.out _ hR.kp)
      clear hR
      by_cases hlt : k < l1
      · obtain ⟨hlc, rfl⟩ := HA1.out (by omega)
        obtain ⟨x0, x1, x2, x3, x4, hx0, hx1, hx2, hsa, hsv, e0, e1, e2, e3, e4⟩ := (HA2.out k hlt).new HPK.out.2.2
        have hkc : k < c1 := by omega
        have j0 : (0 : Int) ≤ (k : Int) := by omega
        have j1 : (k : Int) < (l1 : Int) := by omega
        obtain ⟨Q, hQ⟩ : ∃ Q, Q = wr.heap.size := ⟨_, rfl⟩
        go_upto_region 9 with (fail)
        generalize hW5 : World.alloc wr _ = W5
        rw [← hQ]
        have hb5 : Below wr.heap.size wr W5 := by rw [← hW5]; exact bs_alloc (Below.refl _ _)
        have hsz : Q < W5.heap.size := by rw [← hW5, hQ]; simp
        have FX : Hid (∀ X, Below W5.heap.size W5 X → X.cell? ⟨Q, 0, none⟩ = some (.int .u8 x0) ∧ X.cell? ⟨Q, 1, none⟩ = some (.int .u8 x1) ∧ X.cell? ⟨Q, 2, none⟩ = some (.int .u64 x2) ∧ X.cell? ⟨Q, 3, none⟩ = some (.int .u64 x3) ∧ X.cell? ⟨Q, 4, none⟩ = some (.int .u64 x4)) := Lib.hid (fun X hb => by
          have up : ∀ {j v}, W5.cell? ⟨Q, j, none⟩ = some v → X.cell? ⟨Q, j, none⟩ = some v := fun {j v} hc => (hb.cell (p := ⟨Q, j, none⟩) hsz).trans hc
          refine ⟨up ?_, up ?_, up ?_, up ?_, up ?_⟩ <;> (rw [← hW5, hQ]; exact new_at rfl rfl))
        have HR5 := Lib.hid (HR.out.new stabGw hb5)
        have HQS := Lib.hid (show Below wr.heap.size wr W5 ∧ wr.heap.size ≤ Q ∧ Q < W5.heap.size from ⟨hb5, by omega, hsz⟩)
        have HPK5 := Lib.hid (PK.out _ HR5.out.kp)
        have HKL := Lib.hid (And.intro hk hlt)
        have hk200 : k < 200 := by have := HL.out; omega
        clear hW5 hb5 hQ hsz e0 e1 e2 e3 e4 HPK j0 j1 hlc hkc hk hlt
        obtain ⟨m, hm⟩ : ∃ m, x0.tmod 8 = m := ⟨_, rfl⟩
        have hmr : 0 ≤ m ∧ m < 8 := by rw [Int.tmod_eq_emod_of_nonneg hx0.1] at hm; omega
        obtain ⟨f0, f1, f2, f3, f4⟩ := FX.out _ (Below.refl _ _)
        obtain ⟨p0, p1, -⟩ := HPK5.out
        have hd5 : Below W5.heap.size W5 W5.drew := (Below.refl _ _).drew
        rcases (by omega : m = 0 ∨ m = 1 ∨ m = 2 ∨ (m ≠ 0 ∧ m ≠ 1 ∧ m ≠ 2)) with h3 | h3 | h3 | ⟨h3, h4, h5⟩
        · have t0 : (m == 0) = true := by simp [h3]
          clear h3 hmr f1 f3 f4
          go_upto_region 11 with (fail)
          clear f0 t0
          go_cut [10] from 22 to 108 (fun s10 wx => ∃ q b r : Nat, Np19 W5 wx s10 q b r (.pointer (some ⟨q, 0, none⟩)) (.pointer none) (.pointer (some ⟨r, 0, none⟩)) (.pointer none))
          case first =>
            obtain ⟨ll, zl, hln⟩ := lnG_any x2
            have HLN := Lib.hid hln
            have CP := Lib.hid (fun W => newGrowA x2 W hx2)
            have CR := Lib.hid (fun W => rnewG HLN.out hx2 W)
            have KB : Hid (∀ X, Below W5.heap.size W5 X → X.cell? ⟨Q, 2, none⟩ = some (.int .u64 x2)) := Lib.hid (fun X hb => by
              obtain ⟨-, -, a, -⟩ := FX.out X hb
              exact a)
            clear hln f2 p0 p1
            have f2 := KB.out _ hd5
            go_region_held3 (fun X => X.cell? ⟨Q, 2, none⟩ = some (.int .u64 x2))
              (first | assumption | exact KB.out _ (by assumption) | exact KB.out _ (bs_alloc (by assumption)) | exact KB.out _ (bs_set (bs_set (bs_set (bs_set hk7 (Nat.le_refl _)) (Nat.le_refl _)) (Nat.le_refl _)) (Nat.le_refl _)) | exact KB.out _ (bs_set (bs_set (bs_set (bs_set hk7 hk6.size) hk6.size) hk6.size) hk6.size))
              (first
                | (go_at_call 23; ((with_reducible refine (CP.out _).mono ?_); rintro e w6 ⟨q, b, rfl, g6, hq6, hB6, hb6⟩; have hk6 : Below W5.heap.size W5 w6 := (by first | exact below_then hd5 hb6 | exact below_then (bs_alloc hd5) hb6); (first | (have zz := fo4_atN (n := W5.heap.size) rfl hb6; have zz2 := zz; obtain ⟨⟨z0, z1, z2, z3⟩, y0, y1, y2, y3⟩ := zz2) | (have zz := fo4_atN (X := W5.drew) (n := W5.heap.size) rfl hb6; have zz2 := zz; obtain ⟨⟨z0, z1, z2, z3⟩, y0, y1, y2, y3⟩ := zz2) | skip); clear f2; have f2 := KB.out _ hk6))
                | (go_at_call 24; ((with_reducible refine (CR.out _).mono ?_); rintro e w7 ⟨r, rfl, o7, hq7, hb7⟩; have hk67 : Below w6.heap.size w6 w7 := (by first | exact hb7 | exact below_then (bs_alloc (Below.refl _ _)) hb7); have hk7 : Below W5.heap.size W5 w7 := below_then hk6 hk67; (first | (replace zz := zz.up hk67; clear z0 z1 z2 z3 y0 y1 y2 y3; have zz2 := zz; obtain ⟨⟨z0, z1, z2, z3⟩, y0, y1, y2, y3⟩ := zz2) | (have zz := fo4_atN (n := w6.heap.size) rfl hb7; have zz2 := zz; obtain ⟨⟨z0, z1, z2, z3⟩, y0, y1, y2, y3⟩ := zz2) | skip); clear f2; have f2 := KB.out _ hk7)))
            · have h6 : W5.heap.size ≤ q ∧ q < w6.heap.size := by (try simp at hq6); omega
              have h6b : W5.heap.size ≤ b ∧ b < w6.heap.size := by (try simp at hB6); omega
              have h7 : w6.heap.size ≤ r := by (try simp at hq7); omega
              have l7 := o7.lt
              have hs := hk6.size
              have hs7 := hk67.size
              have HG := Lib.hid (g6.keep (T := fun _ => False) (Keeps.of_new hk67) (fun s => s) (fun s => s))
              have HO := Lib.hid o7
              have HK7 := Lib.hid hk7
              have HS := Lib.hid (show (W5.heap.size ≤ q ∧ q < w7.heap.size) ∧ (W5.heap.size ≤ r ∧ r < w7.heap.size) ∧ (W5.heap.size ≤ b ∧ b < w7.heap.size) ∧ q ≠ r ∧ b ≠ r by omega)
              clear f2 hq6 hB6 hq7 hb6 hb7 hk6 hk67 hk7 g6 o7 l7 h6 h6b h7 hs hs7
              go_wp2_with fail
              go_meet
              case rel => exact ⟨q, b, r, np19_new HK7.out HS.out.1 HS.out.2.1 HS.out.2.2.1 (fun Y ky => gw_beginG (HG.out.keep ky (fun h => h) (fun h => h)) (HO.out.keep ky (fun h => h)) HLN.out (by have := HS.out; omega) (by have := HS.out; omega))⟩
            · have h6 : W5.heap.size ≤ q ∧ q < w6.heap.size := by (try simp at hq6); omega
              have h6b : W5.heap.size ≤ b ∧ b < w6.heap.size := by (try simp at hB6); omega
              have h7 : w6.heap.size ≤ r := by (try simp at hq7); omega
              have l7 := o7.lt
              have hs := hk6.size
              have hs7 := hk67.size
              have HG := Lib.hid (g6.keep (T := fun _ => False) (Keeps.of_new hk67) (fun s => s) (fun s => s))
              have HO := Lib.hid o7
              have HK7 := Lib.hid hk7
              have h7' : w6.heap.size + 1 ≤ r := by simpa using hq7
              have HS := Lib.hid (show (W5.heap.size ≤ q ∧ q < w7.heap.size) ∧ (W5.heap.size ≤ r ∧ r < w7.heap.size) ∧ (W5.heap.size ≤ b ∧ b < w7.heap.size) ∧ q ≠ r ∧ b ≠ r ∧ W5.heap.size ≤ w6.heap.size ∧ q ≠ w6.heap.size ∧ r ≠ w6.heap.size ∧ b ≠ w6.heap.size by omega)
              have HZZ := Lib.hid zz
              clear zz
              clear f2 hq6 hB6 hq7 hb6 hb7 hk6 hk67 hk7 g6 o7 l7 h6 h6b h7 hs hs7 h7'
              go_wp2_with fail
              go_meet
              case rel => exact ⟨q, b, r, np19_set HK7.out HZZ.out HS.out.2.2.2.2.2.1 HS.out.1 HS.out.2.1 HS.out.2.2.1 (fun Y ky => gw_beginG (HG.out.keep ky (fun h => by have := HS.out; omega) (fun h => by have := HS.out; omega)) (HO.out.keep ky (fun h => by have := HS.out; omega)) HLN.out (by have := HS.out; omega) (by have := HS.out; omega))⟩
            · have h6 : W5.heap.size ≤ q ∧ q < w6.heap.size := by (try simp at hq6); omega
              have h6b : W5.heap.size ≤ b ∧ b < w6.heap.size := by (try simp at hB6); omega
              have h7 : w6.heap.size ≤ r := by (try simp at hq7); omega
              have l7 := o7.lt
              have hs := hk6.size
              have hs7 := hk67.size
              have HG := Lib.hid (g6.keep (T := fun _ => False) (Keeps.of_new hk67) (fun s => s) (fun s => s))
              have HO := Lib.hid o7
              have HK7 := Lib.hid hk7
              have h6' : W5.heap.size + 1 ≤ q := by simpa using hq6.1
              have h6b' : W5.heap.size + 1 ≤ b := by simpa using hB6.1
              have HS := Lib.hid (show (W5.heap.size ≤ q ∧ q < w7.heap.size) ∧ (W5.heap.size ≤ r ∧ r < w7.heap.size) ∧ (W5.heap.size ≤ b ∧ b < w7.heap.size) ∧ q ≠ r ∧ b ≠ r ∧ W5.heap.size ≤ W5.heap.size ∧ q ≠ W5.heap.size ∧ r ≠ W5.heap.size ∧ b ≠ W5.heap.size by omega)
              have HZZ := Lib.hid zz
              clear zz
              clear f2 hq6 hB6 hq7 hb6 hb7 hk6 hk67 hk7 g6 o7 l7 h6 h6b h7 hs hs7 h6' h6b'
              go_wp2_with fail
              go_meet
              case rel => exact ⟨q, b, r, np19_set HK7.out HZZ.out HS.out.2.2.2.2.2.1 HS.out.1 HS.out.2.1 HS.out.2.2.1 (fun Y ky => gw_beginG (HG.out.keep ky (fun h => by have := HS.out; omega) (fun h => by have := HS.out; omega)) (HO.out.keep ky (fun h => by have := HS.out; omega)) HLN.out (by have := HS.out; omega) (by have := HS.out; omega))⟩
          obtain ⟨q, b, r, N, rfl, ⟨z0, z1, z2, z3⟩, hX, hq5, hr5, hb5, hb52⟩ := hcut
          generalize wc = X2 at *
          obtain ⟨ln, ov, hov, hT⟩ := gw_overG hX rfl
          have hl0 := (hT _ (Below.refl _ _)).1
          have CO := Lib.hid (fun n => (hT _ (belowNv n)).2)
          have hne : (ov != ov) = false := by simp
          have HX := Lib.hid (And.intro hX (And.intro (And.intro hq5 (And.intro hr5 hb5)) hb52))
          have HZ := Lib.hid (And.intro z0 (And.intro z1 (And.intro z2 z3)))
          clear hT hX hq5 hr5 hb5 hb52 f2 hd5 p0 p1 z1 z3
          go_wp2_with fail
          go_quiet ((go_at_call 25; exact quiet_left (CO.out _)))
          clear z0 z2 CO hl0 hov hne
          have hb8 : Below X2.heap.size X2 (X2.drewN nq) := belowNv nq
          generalize X2.drewN nq = w8 at *
          obtain ⟨z0, z1, z2, z3⟩ := HZ.out
          have hN := World.block_lt_of_cell? _ _ z0
          replace z0 := (hb8.cell (p := ⟨N, 0, none⟩) hN).trans z0
          replace z1 := (hb8.cell (p := ⟨N, 1, none⟩) hN).trans z1
          replace z2 := (hb8.cell (p := ⟨N, 2, none⟩) hN).trans z2
          replace z3 := (hb8.cell (p := ⟨N, 3, none⟩) hN).trans z3
          have HB8 := Lib.hid hb8
          clear hb8 hN HZ
          obtain ⟨V, LL, G, GL, h1, h2, h3, h4, h5, h6, h7⟩ := HR5.out
          have HA := Lib.hid (And.intro h1 (And.intro h2 (And.intro h4 (And.intro h5 (And.intro h6 h7)))))
          have H3 := Lib.hid h3
          have hown2 := own_below h3.row (below_then HX.out.2.2 HB8.out)
          obtain ⟨nl, hnl2⟩ : ∃ nl, nl = LL.length := ⟨_, rfl⟩
          have HNL := Lib.hid hnl2
          have hnlk : nl ≤ k := by rw [hnl2]; exact h7
          rw [← hnl2] at hown2
          have HO8 := Lib.hid hown2
          obtain ⟨i0, hi, hz0, hz1, hz2⟩ := info_parts info_op19
          clear h1 h2 h3 h4 h5 h6 h7 hown2 hnl2
          go_wp2_with (at_builtin; refine wpList_append_lies _ rfl _ _ 59 rfl 0 69 i0 _ 4 32 Tryz.underlying59 hi hz0 hz1 hz2 rfl (by decide) u6 nl (rowsX LL) rfl (HO8.out.alloc _) ⟨w8.heap.size, 0, none⟩ 1 1 [.pointer (some ⟨q, 0, none⟩), .pointer none, .pointer (some ⟨r, 0, none⟩), .pointer none] rfl rfl ?p1 ?p2 (by decide) ?p3 ?p4 (Nat.zero_le _) (w8.heap.size + 1) (by simp) ?_)
          case p1 => intro j u hj; exact news4 hj
          case p2 => intro u hu; exact gw_oneC HX.out.1 u hu
          case p3 => unfold maxLen; omega
          case p4 => omega
          intro g cap w9 hown9 hgrow hat hlt9
          have HPL := Lib.hid (pl19_app HA.out.1 HA.out.2.1 H3.out HA.out.2.2.1 HA.out.2.2.2.1 HA.out.2.2.2.2.1 HA.out.2.2.2.2.2 HX.out.2.2 HB8.out HX.out.1 rfl (fun j hj => by rcases hj with rfl | rfl | rfl; exact HX.out.2.1.1; exact HX.out.2.1.2.1; exact HX.out.2.1.2.2) HNL.out hown9 hgrow hat hlt9)
          clear hown9 hgrow hat hlt9 HO8 HX HA H3 hi hz0 hz1 hz2 hnlk HB8 z0 z1 z2 z3
          obtain ⟨p0, p1, -⟩ := PK.out _ HPL.out.kp
          go_wp2_with (go_at_call 20; refine (HPL.out.same (by have := HL.out; have := HKL.out; omega)).mono ?_; rintro e w10 ⟨rfl, hk10⟩)
          go_roundw
          case rel => exact ⟨k + 1, by have := HKL.out; omega, by go_num, (HPL.out.new stabGw hk10).le (by omega) (by omega)⟩
          case measure => have := HKL.out; simp [intOf]; omega
        · have t0 : (m == 0) = false := by simp [h3]
          have t1 : (m == 1) = true := by simp [h3]
          clear h3 hmr f1 f3 f4
          go_upto_region 16 with (fail)
          clear f0 t0 t1
          go_cut [11] from 22 to 108 (fun s10 wx => ∃ q b r : Nat, Np19 W5 wx s10 q b r (.pointer none) (.pointer (some ⟨q, 0, none⟩)) (.pointer none) (.pointer (some ⟨r, 0, none⟩)))
          case first =>
            obtain ⟨ll, zl, hln⟩ := lnS_any x2
            have HLN := Lib.hid hln
            have CP := Lib.hid (fun W => newSwapA x2 W hx2)
            have CR := Lib.hid (fun W => rnewS HLN.out hx2 W)
            have KB : Hid (∀ X, Below W5.heap.size W5 X → X.cell? ⟨Q, 2, none⟩ = some (.int .u64 x2)) := Lib.hid (fun X hb => by
              obtain ⟨-, -, a, -⟩ := FX.out X hb
              exact a)
            clear hln f2 p0 p1
            have f2 := KB.out _ hd5
            go_region_held3 (fun X => X.cell? ⟨Q, 2, none⟩ = some (.int .u64 x2))
              (first | assumption | exact KB.out _ (by assumption) | exact KB.out _ (bs_alloc (by assumption)) | exact KB.out _ (bs_set (bs_set (bs_set (bs_set hk7 (Nat.le_refl _)) (Nat.le_refl _)) (Nat.le_refl _)) (Nat.le_refl _)) | exact KB.out _ (bs_set (bs_set (bs_set (bs_set hk7 hk6.size) hk6.size) hk6.size) hk6.size))
              (first
                | (go_at_call 26; ((with_reducible refine (CP.out _).mono ?_); rintro e w6 ⟨q, b, rfl, g6, hq6, hB6, hb6⟩; have hk6 : Below W5.heap.size W5 w6 := (by first | exact below_then hd5 hb6 | exact below_then (bs_alloc hd5) hb6); (first | (have zz := fo4_atN (n := W5.heap.size) rfl hb6; have zz2 := zz; obtain ⟨⟨z0, z1, z2, z3⟩, y0, y1, y2, y3⟩ := zz2) | (have zz := fo4_atN (X := W5.drew) (n := W5.heap.size) rfl hb6; have zz2 := zz; obtain ⟨⟨z0, z1, z2, z3⟩, y0, y1, y2, y3⟩ := zz2) | skip); clear f2; have f2 := KB.out _ hk6))
                | (go_at_call 27; ((with_reducible refine (CR.out _).mono ?_); rintro e w7 ⟨r, rfl, o7, hq7, hb7⟩; have hk67 : Below w6.heap.size w6 w7 := (by first | exact hb7 | exact below_then (bs_alloc (Below.refl _ _)) hb7); have hk7 : Below W5.heap.size W5 w7 := below_then hk6 hk67; (first | (replace zz := zz.up hk67; clear z0 z1 z2 z3 y0 y1 y2 y3; have zz2 := zz; obtain ⟨⟨z0, z1, z2, z3⟩, y0, y1, y2, y3⟩ := zz2) | (have zz := fo4_atN (n := w6.heap.size) rfl hb7; have zz2 := zz; obtain ⟨⟨z0, z1, z2, z3⟩, y0, y1, y2, y3⟩ := zz2) | skip); clear f2; have f2 := KB.out _ hk7)))
            · have h6 : W5.heap.size ≤ q ∧ q < w6.heap.size := by (try simp at hq6); omega
              have h6b : W5.heap.size ≤ b ∧ b < w6.heap.size := by (try simp at hB6); omega
              have h7 : w6.heap.size ≤ r := by (try simp at hq7); omega
              have l7 := o7.lt
              have hs := hk6.size
              have hs7 := hk67.size
              have HG := Lib.hid (g6.keep (T := fun _ => False) (Keeps.of_new hk67) (fun s => s) (fun s => s))
              have HO := Lib.hid o7
              have HK7 := Lib.hid hk7
              have HS := Lib.hid (show (W5.heap.size ≤ q ∧ q < w7.heap.size) ∧ (W5.heap.size ≤ r ∧ r < w7.heap.size) ∧ (W5.heap.size ≤ b ∧ b < w7.heap.size) ∧ q ≠ r ∧ b ≠ r by omega)
              clear f2 hq6 hB6 hq7 hb6 hb7 hk6 hk67 hk7 g6 o7 l7 h6 h6b h7 hs hs7
              go_wp2_with fail
              go_meet
              case rel => exact ⟨q, b, r, np19_new HK7.out HS.out.1 HS.out.2.1 HS.out.2.2.1 (fun Y ky => gw_beginS (HG.out.keep ky (fun h => h) (fun h => h)) (HO.out.keep ky (fun h => h)) HLN.out (by have := HS.out; omega) (by have := HS.out; omega))⟩
            · have h6 : W5.heap.size ≤ q ∧ q < w6.heap.size := by (try simp at hq6); omega
              have h6b : W5.heap.size ≤ b ∧ b < w6.heap.size := by (try simp at hB6); omega
              have h7 : w6.heap.size ≤ r := by (try simp at hq7); omega
              have l7 := o7.lt
              have hs := hk6.size
              have hs7 := hk67.size
              have HG := Lib.hid (g6.keep (T := fun _ => False) (Keeps.of_new hk67) (fun s => s) (fun s => s))
              have HO := Lib.hid o7
              have HK7 := Lib.hid hk7
              have h7' : w6.heap.size + 1 ≤ r := by simpa using hq7
              have HS := Lib.hid (show (W5.heap.size ≤ q ∧ q < w7.heap.size) ∧ (W5.heap.size ≤ r ∧ r < w7.heap.size) ∧ (W5.heap.size ≤ b ∧ b < w7.heap.size) ∧ q ≠ r ∧ b ≠ r ∧ W5.heap.size ≤ w6.heap.size ∧ q ≠ w6.heap.size ∧ r ≠ w6.heap.size ∧ b ≠ w6.heap.size by omega)
              have HZZ := Lib.hid zz
              clear zz
              clear f2 hq6 hB6 hq7 hb6 hb7 hk6 hk67 hk7 g6 o7 l7 h6 h6b h7 hs hs7 h7'
              go_wp2_with fail
              go_meet
              case rel => exact ⟨q, b, r, np19_set HK7.out HZZ.out HS.out.2.2.2.2.2.1 HS.out.1 HS.out.2.1 HS.out.2.2.1 (fun Y ky => gw_beginS (HG.out.keep ky (fun h => by have := HS.out; omega) (fun h => by have := HS.out; omega)) (HO.out.keep ky (fun h => by have := HS.out; omega)) HLN.out (by have := HS.out; omega) (by have := HS.out; omega))⟩
            · have h6 : W5.heap.size ≤ q ∧ q < w6.heap.size := by (try simp at hq6); omega
              have h6b : W5.heap.size ≤ b ∧ b < w6.heap.size := by (try simp at hB6); omega
              have h7 : w6.heap.size ≤ r := by (try simp at hq7); omega
              have l7 := o7.lt
              have hs := hk6.size
              have hs7 := hk67.size
              have HG := Lib.hid (g6.keep (T := fun _ => False) (Keeps.of_new hk67) (fun s => s) (fun s => s))
              have HO := Lib.hid o7
              have HK7 := Lib.hid hk7
              have h6' : W5.heap.size + 1 ≤ q := by simpa using hq6.1
              have h6b' : W5.heap.size + 1 ≤ b := by simpa using hB6.1
              have HS := Lib.hid (show (W5.heap.size ≤ q ∧ q < w7.heap.size) ∧ (W5.heap.size ≤ r ∧ r < w7.heap.size) ∧ (W5.heap.size ≤ b ∧ b < w7.heap.size) ∧ q ≠ r ∧ b ≠ r ∧ W5.heap.size ≤ W5.heap.size ∧ q ≠ W5.heap.size ∧ r ≠ W5.heap.size ∧ b ≠ W5.heap.size by omega)
              have HZZ := Lib.hid zz
              clear zz
              clear f2 hq6 hB6 hq7 hb6 hb7 hk6 hk67 hk7 g6 o7 l7 h6 h6b h7 hs hs7 h6' h6b'
              go_wp2_with fail
              go_meet
              case rel => exact ⟨q, b, r, np19_set HK7.out HZZ.out HS.out.2.2.2.2.2.1 HS.out.1 HS.out.2.1 HS.out.2.2.1 (fun Y ky => gw_beginS (HG.out.keep ky (fun h => by have := HS.out; omega) (fun h => by have := HS.out; omega)) (HO.out.keep ky (fun h => by have := HS.out; omega)) HLN.out (by have := HS.out; omega) (by have := HS.out; omega))⟩
          obtain ⟨q, b, r, N, rfl, ⟨z0, z1, z2, z3⟩, hX, hq5, hr5, hb5, hb52⟩ := hcut
          generalize wc = X2 at *
          obtain ⟨ln, ov, hov, hT⟩ := gw_overS hX rfl
          have hl0 := (hT _ (Below.refl _ _)).1
          have CO := Lib.hid (fun n => (hT _ (belowNv n)).2)
          have hne : (ov != ov) = false := by simp
          have HX := Lib.hid (And.intro hX (And.intro (And.intro hq5 (And.intro hr5 hb5)) hb52))
          have HZ := Lib.hid (And.intro z0 (And.intro z1 (And.intro z2 z3)))
          clear hT hX hq5 hr5 hb5 hb52 f2 hd5 p0 p1 z0 z2
          go_wp2_with fail
          go_quiet ((go_at_call 28; exact quiet_left (CO.out _)))
          clear z1 z3 CO hl0 hov hne
          have hb8 : Below X2.heap.size X2 (X2.drewN nq) := belowNv nq
          generalize X2.drewN nq = w8 at *
          obtain ⟨z0, z1, z2, z3⟩ := HZ.out
          have hN := World.block_lt_of_cell? _ _ z0
          replace z0 := (hb8.cell (p := ⟨N, 0, none⟩) hN).trans z0
          replace z1 := (hb8.cell (p := ⟨N, 1, none⟩) hN).trans z1
          replace z2 := (hb8.cell (p := ⟨N, 2, none⟩) hN).trans z2
          replace z3 := (hb8.cell (p := ⟨N, 3, none⟩) hN).trans z3
          have HB8 := Lib.hid hb8
          clear hb8 hN HZ
          obtain ⟨V, LL, G, GL, h1, h2, h3, h4, h5, h6, h7⟩ := HR5.out
          have HA := Lib.hid (And.intro h1 (And.intro h2 (And.intro h4 (And.intro h5 (And.intro h6 h7)))))
          have H3 := Lib.hid h3
          have hown2 := own_below h3.row (below_then HX.out.2.2 HB8.out)
          obtain ⟨nl, hnl2⟩ : ∃ nl, nl = LL.length := ⟨_, rfl⟩
          have HNL := Lib.hid hnl2
          have hnlk : nl ≤ k := by rw [hnl2]; exact h7
          rw [← hnl2] at hown2
          have HO8 := Lib.hid hown2
          obtain ⟨i0, hi, hz0, hz1, hz2⟩ := info_parts info_op19
          clear h1 h2 h3 h4 h5 h6 h7 hown2 hnl2
          go_wp2_with (at_builtin; refine wpList_append_lies _ rfl _ _ 59 rfl 0 69 i0 _ 4 32 Tryz.underlying59 hi hz0 hz1 hz2 rfl (by decide) u6 nl (rowsX LL) rfl (HO8.out.alloc _) ⟨w8.heap.size, 0, none⟩ 1 1 [.pointer none, .pointer (some ⟨q, 0, none⟩), .pointer none, .pointer (some ⟨r, 0, none⟩)] rfl rfl ?p1 ?p2 (by decide) ?p3 ?p4 (Nat.zero_le _) (w8.heap.size + 1) (by simp) ?_)
          case p1 => intro j u hj; exact news4 hj
          case p2 => intro u hu; exact gw_oneC HX.out.1 u hu
          case p3 => unfold maxLen; omega
          case p4 => omega
          intro g cap w9 hown9 hgrow hat hlt9
          have HPL := Lib.hid (pl19_app HA.out.1 HA.out.2.1 H3.out HA.out.2.2.1 HA.out.2.2.2.1 HA.out.2.2.2.2.1 HA.out.2.2.2.2.2 HX.out.2.2 HB8.out HX.out.1 rfl (fun j hj => by rcases hj with rfl | rfl | rfl; exact HX.out.2.1.1; exact HX.out.2.1.2.1; exact HX.out.2.1.2.2) HNL.out hown9 hgrow hat hlt9)
          clear hown9 hgrow hat hlt9 HO8 HX HA H3 hi hz0 hz1 hz2 hnlk HB8 z0 z1 z2 z3
          obtain ⟨p0, p1, -⟩ := PK.out _ HPL.out.kp
          go_wp2_with (go_at_call 20; refine (HPL.out.same (by have := HL.out; have := HKL.out; omega)).mono ?_; rintro e w10 ⟨rfl, hk10⟩)
          go_roundw
          case rel => exact ⟨k + 1, by have := HKL.out; omega, by go_num, (HPL.out.new stabGw hk10).le (by omega) (by omega)⟩
          case measure => have := HKL.out; simp [intOf]; omega
        · have t0 : (m == 0) = false := by simp [h3]
          have t1 : (m == 1) = false := by simp [h3]
          have t2 : (m == 2) = true := by simp [h3]
          clear f1 f2 h3 hmr hd5
          go_wp2_with (first
            | (go_at_call 14; refine (HR5.out.store stabGw (by have := HKL.out; have := HL.out; omega) hsa hsv).mono ?_; rintro e w6 ⟨rfl, h6⟩; clear p0 p1 f0 f3 f4; obtain ⟨p0, p1, -⟩ := PK.out _ h6.kp; have HR6 := Lib.hid h6; clear h6)
            | (go_at_call 20; refine (HR6.out.same (by have := HL.out; have := HKL.out; omega)).mono ?_; rintro e w7 ⟨rfl, hk7⟩))
          go_roundw
          case rel => exact ⟨k + 1, by have := HKL.out; omega, by go_num, (HR6.out.new stabGw hk7).le (by omega) (by omega)⟩
          case measure => have := HKL.out; simp [intOf]; omega
        · have t0 : (m == 0) = false := by simp [h3]
          have t1 : (m == 1) = false := by simp [h4]
          have t2 : (m == 2) = false := by simp [h5]
          clear h3 h4 h5 hmr f2 f3 f4
          rcases HR5.out.form with ⟨a, cap, rfl⟩ | ⟨g, n, cap, hn0, hnc, hnk, rfl⟩
          · clear hd5
            go_upto_region 25 with (fail)
            clear f0 f1 t0 t1 t2
            go_wp2_with (go_at_call 20; refine (HR5.out.same (by have := HL.out; have := HKL.out; omega)).mono ?_; rintro e w10 ⟨rfl, hk10⟩)
            go_roundw
            case rel => exact ⟨k + 1, by have := HKL.out; omega, by go_num, (HR5.out.new stabGw hk10).le (by omega) (by omega)⟩
            case measure => have := HKL.out; simp [intOf]; omega
          · obtain ⟨i, hi, hin⟩ : ∃ i : Nat, x1.tmod (n : Int) = (i : Int) ∧ i < n := by
              have h1 := Int.emod_nonneg x1 (show (n : Int) ≠ 0 by omega)
              have h2 := Int.emod_lt_of_pos x1 (show (0 : Int) < n by omega)
              exact ⟨(x1.tmod n).toNat, by rw [Int.tmod_eq_emod_of_nonneg hx1.1]; omega, by rw [Int.tmod_eq_emod_of_nonneg hx1.1]; omega⟩
            obtain ⟨x, hxs, -, hcell, hstep⟩ := HR.out.step stabGw hin
            obtain ⟨v0, v1, v2, v3, hv⟩ := hxs.four
            have hwd : Below wr.heap.size wr W5.drew := HQS.out.1.drew
            have CS := Lib.hid (hstep 29 #[.agg #[v0, v1, v2, v3], .agg #[.pointer (some ⟨A.p, 0, none⟩), .pointer (some ⟨R.p, 0, none⟩)]] W5.drew hwd (fun V G hf hx ho hc hM => gw_stepV hv hf hx ho (by have := HL.out; have := HKL.out; omega) (by have := HL.out; have := HKL.out; omega)))
            have c0 : W5.drew.cell? ⟨g, i * 4, none⟩ = some v0 := hcell _ hwd 0 v0 (by rw [hv]; rfl)
            have c1 : W5.drew.cell? ⟨g, i * 4 + 1, none⟩ = some v1 := hcell _ hwd 1 v1 (by rw [hv]; rfl)
            have c2 : W5.drew.cell? ⟨g, i * 4 + 2, none⟩ = some v2 := hcell _ hwd 2 v2 (by rw [hv]; rfl)
            have c3 : W5.drew.cell? ⟨g, i * 4 + 3, none⟩ = some v3 := hcell _ hwd 3 v3 (by rw [hv]; rfl)
            have HV := Lib.hid hv
            have mk : IntKind.i64.wrap x1 = x1 := IntWalk.i64_in _ (by omega)
            have hnz : ((n : Int) == 0) = false := by simp; omega
            have dn2 : ¬ n = 0 := by omega
            have dn3 : ¬ (n : Int) = 0 := by omega
            have mi2 : IntKind.i64.wrap (i : Int) = (i : Int) := IntWalk.i64_in _ (by omega)
            have hni : (0 : Int) < (n : Int) := by omega
            have hd0 : decide ((0 : Int) < (n : Int)) = true := decide_eq_true hni
            have j0 : (0 : Int) ≤ (i : Int) := by omega
            have j1 : (i : Int) < (n : Int) := by omega
            have hic : i < cap := by omega
            clear hxs hcell hstep hv hwd
            go_upto_region 23 with (fail)
            clear f0 t0 t1 t2
            have s1 : W5.drew.cell? ⟨Q, 1, none⟩ = some (.int .u8 x1) := f1
            have q0 : W5.drew.cell? ⟨P, 0, none⟩ = some (.pointer (some ⟨A.p, 0, none⟩)) := p0
            have q1 : W5.drew.cell? ⟨P, 1, none⟩ = some (.pointer (some ⟨R.p, 0, none⟩)) := p1
            clear f1 p0 p1 hd5
            go_region_held3 (fun X => X.cell? ⟨Q, 1, none⟩ = some (.int .u8 x1) ∧ X.cell? ⟨g, i * 4, none⟩ = some v0 ∧ X.cell? ⟨g, i * 4 + 1, none⟩ = some v1 ∧ X.cell? ⟨g, i * 4 + 2, none⟩ = some v2 ∧ X.cell? ⟨g, i * 4 + 3, none⟩ = some v3 ∧ X.cell? ⟨P, 0, none⟩ = some (.pointer (some ⟨A.p, 0, none⟩)) ∧ X.cell? ⟨P, 1, none⟩ = some (.pointer (some ⟨R.p, 0, none⟩)))
              (first | exact ⟨by assumption, by assumption, by assumption, by assumption, by assumption, by assumption, by assumption⟩)
              (first
                | (go_at_call 29; ((with_reducible refine CS.out.mono ?_); rintro e w6 ⟨rfl, h6, k6, c6⟩; replace s1 := k6.cell (p := ⟨Q, 1, none⟩) (fun n => n HQS.out.2) s1; clear c0 c1 c2 c3 q0 q1; have c0 : w6.cell? ⟨g, i * 4, none⟩ = some v0 := c6 0 v0 (by rw [HV.out]; rfl); have c1 : w6.cell? ⟨g, i * 4 + 1, none⟩ = some v1 := c6 1 v1 (by rw [HV.out]; rfl); have c2 : w6.cell? ⟨g, i * 4 + 2, none⟩ = some v2 := c6 2 v2 (by rw [HV.out]; rfl); have c3 : w6.cell? ⟨g, i * 4 + 3, none⟩ = some v3 := c6 3 v3 (by rw [HV.out]; rfl); obtain ⟨q0, q1, -⟩ := PK.out _ h6.kp; have HR6 := Lib.hid h6; clear h6 k6 c6)))
            go_wp2_with (go_at_call 20; refine (HR6.out.same (by have := HL.out; have := HKL.out; omega)).mono ?_; rintro e w10 ⟨rfl, hk10⟩)
            go_roundw
            case rel => exact ⟨k + 1, by have := HKL.out; omega, by go_num, (HR6.out.new stabGw hk10).le (by omega) (by omega)⟩
            case measure => have := HKL.out; simp [intOf]; omega
      · obtain rfl : l1 = k := by omega
        obtain ⟨p0, p1, hbw⟩ := HPK.out
        have HBX := Lib.hid hbw
        clear hbw
        go_wp2_with (first
          | (go_at_call 21; refine (HR.out.all (by have := HL.out; omega)).mono ?_; rintro e w9 ⟨rfl, hk9⟩)
          | (go_at_call 22; refine (lives19 _).mono ?_; rintro e w10 ⟨rfl, hk10⟩))
        go_ret
        exact ⟨rfl, below_then (below_then HBX.out hk9) hk10⟩
end Go.Proofs.YtepkpbhhiianpaaGreat
