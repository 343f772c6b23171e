/- The law TicketsPlay. -/
import Derived.Test.YthlebfiedejhhaaGreatTkS
import Derived.Test.YthlebfiedejhhaaGreatGBg
import Derived.Test.YthlebfiedejhhaaGreatOpen
import Derived.Deep.Cut
import Derived.Deep.RegionHeld3
namespace Go.Proofs.YthlebfiedejhhaaGreat
open Go.RowKit Go.Maps
set_option linter.unusedVariables false
/-- The threads. -/
def thF : Nat → Nat
  | 0 => 0
  | 1 => 1
  | 2 => 2
  | 3 => 3
  | 4 => 62
  | _ => 63
theorem thF_lt (i : Nat) : thF i < 64 := by
  unfold thF
  split <;> decide
/-- An act, as it lies. -/
def Act11 (w : World) (b o : Nat) : Prop := ∃ x0 x1 x2 x3 : Int, (0 ≤ x0 ∧ x0 ≤ 255) ∧ (0 ≤ x1 ∧ x1 ≤ 255) ∧ isU x2 ∧ isU x3 ∧ w.cell? ⟨b, o, none⟩ = some (.int .u8 x0) ∧ w.cell? ⟨b, o + 1, none⟩ = some (.int .u8 x1) ∧ w.cell? ⟨b, o + 2, none⟩ = some (.int .u64 x2) ∧ w.cell? ⟨b, o + 3, none⟩ = some (.int .u64 x3)
theorem reads_acts11 {w : World} {t e : TypeId} {a : Option Addr} {len cap : Nat} (ht : Tryz.prog.underlying t = some (.slice e)) (hk : leaves Tryz.prog 9 e = some [.inl .u8, .inl .u8, .inl .u64, .inl .u64]) (hc : Tryz.prog.cellsOf e = 4) (h : Reads Tryz.prog w t (.slice a len cap)) :
    len ≤ 9223372036854775807 ∧ ∃ b off, (0 < len → len ≤ cap ∧ a = some ⟨b, off, none⟩) ∧ ∀ i, i < len → Act11 w b (off + i * 4) := by
  rcases Reads.slice ht hk h with ⟨_, rfl, _⟩ | ⟨b, off, sp, rfl, h1, h2, h3, h4⟩
  · exact ⟨by omega, 0, 0, fun h => by omega, fun i hi => by omega⟩
  · refine ⟨by unfold maxLen at h2; omega, b, off, fun h => ⟨h1, by rw [h3 (by omega) (by omega)]⟩, fun i hi => ?_⟩
    obtain ⟨l, hl, hll, hx⟩ := h4 i (by omega)
    obtain ⟨_, _, rfl, ⟨x0, rfl, y0⟩, g0⟩ := all2_cons hl
    obtain ⟨_, _, rfl, ⟨x1, rfl, y1⟩, g1⟩ := all2_cons g0
    obtain ⟨_, _, rfl, ⟨x2, rfl, y2⟩, g2⟩ := all2_cons g1
    obtain ⟨_, _, rfl, ⟨x3, rfl, y3⟩, g3⟩ := all2_cons g2
    obtain rfl := all2_nil g3
    rw [hc] at hx
    have b0 := bounds_u8 y0
    have b1 := bounds_u8 y1
    have b2 := bounds_u64 y2
    have b3 := bounds_u64 y3
    exact ⟨x0, x1, x2, x3, by omega, by omega, ⟨b2.1, by omega⟩, ⟨b3.1, by omega⟩, hx 0 _ rfl, hx 1 _ rfl, hx 2 _ rfl, hx 3 _ rfl⟩
theorem Act11.new {w W : World} {b o : Nat} (h : Act11 w b o) (hb : Below w.heap.size w W) : Act11 W b o := by
  obtain ⟨x0, x1, x2, x3, r1, r2, r3, r4, c0, c1, c2, c3⟩ := h
  have up : ∀ {o v}, w.cell? ⟨b, o, none⟩ = some v → W.cell? ⟨b, o, none⟩ = some v := fun {o v} hc => (hb.cell (p := ⟨b, o, none⟩) (World.block_lt_of_cell? _ _ hc)).trans hc
  exact ⟨x0, x1, x2, x3, r1, r2, r3, r4, up c0, up c1, up c2, up c3⟩
theorem newTakeN (t : Nat) (ht : t < 64) (w : World) : Calls Tryz.prog 17 #[.int .i64 t] w fun e w' => ∃ q, e = .returned (.pointer (some ⟨q, 0, none⟩)) ∧ Ob w' q (tkC t 0 false (mV 85 q)) ∧ w.heap.size ≤ q ∧ Below w.heap.size w w' :=
  (newTake t (decide_eq_true ⟨by omega, by omega⟩) w).mono fun e w' ⟨he, ho, hb⟩ => ⟨_, he, ho, Nat.le_refl _, hb⟩
theorem newGiveN (w : World) : Calls Tryz.prog 19 #[] w fun e w' => ∃ q, e = .returned (.pointer (some ⟨q, 0, none⟩)) ∧ Ob w' q [mV 86 q] ∧ w.heap.size ≤ q ∧ Below w.heap.size w w' :=
  (newGive w).mono fun e w' ⟨he, ho, hb⟩ => ⟨_, he, ho, Nat.le_refl _, hb⟩
theorem K4.mk {A B C D E F G H Z : Prop} (h : A ∧ B ∧ C ∧ D) (h' : E ∧ F ∧ G ∧ H) (k : A → B → C → D → E → F → G → H → Z) : Z := k h.1 h.2.1 h.2.2.1 h.2.2.2 h'.1 h'.2.1 h'.2.2.1 h'.2.2.2
theorem set4_other {w : World} {T D a b c d i : Nat} {u0 u1 u2 u3 v : Value} (hTD : T ≠ D) (h : w.cell? ⟨D, i, none⟩ = some v) : ((((w.setCell ⟨T, a, none⟩ u0).setCell ⟨T, b, none⟩ u1).setCell ⟨T, c, none⟩ u2).setCell ⟨T, d, none⟩ u3).cell? ⟨D, i, none⟩ = some v := by
  have o : ∀ {w : World} {j : Nat} {u : Value}, w.cell? ⟨D, i, none⟩ = some v → (w.setCell ⟨T, j, none⟩ u).cell? ⟨D, i, none⟩ = some v := fun {w j u} hc => (World.cell?_setCell_other w ⟨T, j, none⟩ ⟨D, i, none⟩ u (by intro e; injection e with e _; exact hTD e)).trans hc
  exact o (o (o (o h)))
theorem PlT.fz4 {G0 : Nat → Prop} {T : Nat} {W X : World} {A R : Ad} {c : Int} (h : PlT G0 T W A R X c) {i : Nat} (hi : i < 6) : ∀ Y, Below X.heap.size X Y → Y.frozen? ⟨T, i * 4, none⟩ = false ∧ Y.frozen? ⟨T, i * 4 + 1, none⟩ = false ∧ Y.frozen? ⟨T, i * 4 + 2, none⟩ = false ∧ Y.frozen? ⟨T, i * 4 + 3, none⟩ = false := fun Y hb => by
  obtain ⟨V, f, G, GL, h1, h2, h3, h4, h5, h6, h7⟩ := h
  have := (h3.new hb).fz
  exact ⟨this _ (by omega), this _ (by omega), this _ (by omega), this _ (by omega)⟩
theorem tab_at {W : World} {t : TypeId} {i : Nat} (hi : i < 24) : (W.alloc (.cells #[.pointer none, .pointer none, .pointer none, .pointer none, .pointer none, .pointer none, .pointer none, .pointer none, .pointer none, .pointer none, .pointer none, .pointer none, .pointer none, .pointer none, .pointer none, .pointer none, .pointer none, .pointer none, .pointer none, .pointer none, .pointer none, .pointer none, .pointer none, .pointer none] t)).cell? ⟨W.heap.size, i, none⟩ = some (.pointer none) := by
  have : ∀ i, i < 24 → (#[.pointer none, .pointer none, .pointer none, .pointer none, .pointer none, .pointer none, .pointer none, .pointer none, .pointer none, .pointer none, .pointer none, .pointer none, .pointer none, .pointer none, .pointer none, .pointer none, .pointer none, .pointer none, .pointer none, .pointer none, .pointer none, .pointer none, .pointer none, .pointer none] : Array Value)[i]? = some (.pointer none) := fun i hi => by
    match i, hi with
    | 0, _ => rfl
    | 1, _ => rfl
    | 2, _ => rfl
    | 3, _ => rfl
    | 4, _ => rfl
    | 5, _ => rfl
    | 6, _ => rfl
    | 7, _ => rfl
    | 8, _ => rfl
    | 9, _ => rfl
    | 10, _ => rfl
    | 11, _ => rfl
    | 12, _ => rfl
    | 13, _ => rfl
    | 14, _ => rfl
    | 15, _ => rfl
    | 16, _ => rfl
    | 17, _ => rfl
    | 18, _ => rfl
    | 19, _ => rfl
    | 20, _ => rfl
    | 21, _ => rfl
    | 22, _ => rfl
    | 23, _ => rfl
    | n + 24, h => exact absurd h (by omega)
  exact new_at rfl (this i hi)
theorem mk6 (w : World) : (Instr.makeSlice 53 (.int .i64 6) (.int .i64 6)).run Tryz.prog w = .ok (.slice (some ⟨w.heap.size, 0, none⟩) 6 6) (w.alloc (.cells #[.pointer none, .pointer none, .pointer none, .pointer none, .pointer none, .pointer none, .pointer none, .pointer none, .pointer none, .pointer none, .pointer none, .pointer none, .pointer none, .pointer none, .pointer none, .pointer none, .pointer none, .pointer none, .pointer none, .pointer none, .pointer none, .pointer none, .pointer none, .pointer none] 63)) := by kernel_rfl
theorem tab_fz {W : World} {t : TypeId} {i : Nat} (hi : i < 24) : (W.alloc (.cells #[.pointer none, .pointer none, .pointer none, .pointer none, .pointer none, .pointer none, .pointer none, .pointer none, .pointer none, .pointer none, .pointer none, .pointer none, .pointer none, .pointer none, .pointer none, .pointer none, .pointer none, .pointer none, .pointer none, .pointer none, .pointer none, .pointer none, .pointer none, .pointer none] t)).frozen? ⟨W.heap.size, i, none⟩ = false := by simp
set_option maxHeartbeats 8000000 in
set_option maxRecDepth 100000 in
theorem walk_TicketsPlay (a0_0 : Int) (a0_1 : Int) (a0_2 : Int) (a0_3 : Int) (a0_4 : Int) (a0_5 : Bool) (a0_6 : Option Addr) (l0_6 c0_6 : Nat) (a0_7 : Option Addr) (l0_7 c0_7 : Nat) (a0_8 : Option Addr) (l0_8 c0_8 : Nat) (a0_9 : Int) (a1 : Option Addr) (l1 c1 : Nat) (w : World) (w0_0 : (Lit.int .i64 a0_0).wf = true) (w0_1 : (Lit.int .i64 a0_1).wf = true) (w0_2 : (Lit.int .i64 a0_2).wf = true) (w0_3 : (Lit.int .i64 a0_3).wf = true) (w0_4 : (Lit.int .i64 a0_4).wf = true) (w0_6 : Reads Tryz.prog w 24 (.slice a0_6 l0_6 c0_6)) (w0_7 : Reads Tryz.prog w 25 (.slice a0_7 l0_7 c0_7)) (w0_8 : Reads Tryz.prog w 26 (.slice a0_8 l0_8 c0_8)) (w0_9 : (Lit.int .i64 a0_9).wf = true) (w1 : Reads Tryz.prog w 51 (.slice a1 l1 c1)) :
    Calls Tryz.prog 4 #[.agg #[.int .i64 a0_0, .int .i64 a0_1, .int .i64 a0_2, .int .i64 a0_3, .int .i64 a0_4, .bool a0_5, .slice a0_6 l0_6 c0_6, .slice a0_7 l0_7 c0_7, .slice a0_8 l0_8 c0_8, .int .i64 a0_9], .slice a1 l1 c1] w fun e w' => e = .returned (.bool true) ∧ Below w.heap.size w w' := by
  obtain ⟨L, hLl, hG, hBg⟩ := first_open w0_6 w0_7 w0_8 a0_0 a0_1 a0_2 a0_3 a0_4 a0_9 a0_5
  obtain ⟨hm1, bA, oA, hA1, hA2⟩ := reads_acts11 (e := 55) Tryz.underlying51 (by kernel_rfl) (by kernel_rfl) w1
  have CG := Lib.hid hG
  have CB := Lib.hid hBg
  have HLL := Lib.hid hLl
  have HA1 := Lib.hid hA1
  have HA2 := Lib.hid hA2
  have HM1 := Lib.hid hm1
  clear hG hBg hLl hA1 hA2 hm1 w0_0 w0_1 w0_2 w0_3 w0_4 w0_6 w0_7 w0_8 w0_9 w1
  go_enter Tryz.func4, Tryz.ntmps4
  go_wp2_with fail
  obtain ⟨F, hF⟩ : ∃ F, F = w.heap.size := ⟨_, rfl⟩
  generalize hW : World.alloc w _ = W
  have bW : Below w.heap.size w W := by rw [← hW]; exact (Below.refl _ _).alloc (Nat.le_refl _) _
  have HBW := Lib.hid bW
  have KEEP : Hid (∀ X, Below W.heap.size W X → X.cell? ⟨F, 0, none⟩ = some (.int .i64 a0_0) ∧ X.cell? ⟨F, 1, none⟩ = some (.int .i64 a0_1) ∧ X.cell? ⟨F, 2, none⟩ = some (.int .i64 a0_2) ∧ X.cell? ⟨F, 3, none⟩ = some (.int .i64 a0_3) ∧ X.cell? ⟨F, 4, none⟩ = some (.int .i64 a0_4) ∧ X.cell? ⟨F, 5, none⟩ = some (.bool a0_5) ∧ X.cell? ⟨F, 6, none⟩ = some (.slice a0_6 l0_6 c0_6) ∧ X.cell? ⟨F, 7, none⟩ = some (.slice a0_7 l0_7 c0_7) ∧ X.cell? ⟨F, 8, none⟩ = some (.slice a0_8 l0_8 c0_8) ∧ X.cell? ⟨F, 9, none⟩ = some (.int .i64 a0_9)) := Lib.hid (fun X hb => by
    have lt : F < W.heap.size := by rw [← hW, hF]; simp
    have up : ∀ {j v}, W.cell? ⟨F, j, none⟩ = some v → X.cell? ⟨F, j, none⟩ = some v := fun {j v} hc => (hb.cell (p := ⟨F, j, none⟩) lt).trans hc
    refine ⟨up ?_, up ?_, up ?_, up ?_, up ?_, up ?_, up ?_, up ?_, up ?_, up ?_⟩ <;> (rw [← hW, hF]; exact new_at rfl rfl))
  rw [← hF]
  clear hW bW hF
  refine (CG.out _ HBW.out).mono ?_
  rintro e w1 ⟨r, rfl, k1, hr⟩
  obtain ⟨f0, f1, f2, f3, f4, f5, f6, f7, f8, f9⟩ := KEEP.out _ k1
  have HB1 := Lib.hid (below_then HBW.out k1)
  clear k1
  cases r with
  | true =>
    clear f0 f1 f2 f3 f4 f5 f6 f7 f8 f9 hr
    go_wp2_with (go_at_call 16; refine (lives11 _).mono ?_; rintro e w9 ⟨rfl, hk9⟩)
    go_ret
    exact ⟨rfl, below_then HB1.out hk9⟩
  | false =>
    have HBIG := Lib.hid (show BigOk l0_6 l0_7 l0_8 L from hr rfl)
    clear hr
    by_cases hl : l1 ≤ 300
    rotate_left
    · have hd : decide ((300 : Int) < (l1 : Int)) = true := decide_eq_true (by omega)
      clear f0 f1 f2 f3 f4 f5 f6 f7 f8 f9
      go_wp2_with (go_at_call 16; refine (lives11 _).mono ?_; rintro e w9 ⟨rfl, hk9⟩)
      go_ret
      exact ⟨rfl, below_then HB1.out hk9⟩
    have hd : decide ((300 : Int) < (l1 : Int)) = false := decide_eq_false (by omega)
    have HL := Lib.hid hl
    clear hl
    go_wp2_with fail
    refine (CB.out _ HB1.out HBIG.out).mono ?_
    rintro e w2 ⟨A, R, V, S, T0, rfl, hP, ⟨hM0, -, htk⟩, -, hI, hcnt, hST, k2⟩
    have hPG : PwG (fun k => k < w.heap.size) w2 A R V := (PwG.of_begin (L := L) hP hST k2).less (fun k g => Nat.lt_of_lt_of_le g HB1.out.size)
    have HG2 := Lib.hid hPG.hf
    have HB2 := Lib.hid (below_then HB1.out k2)
    have HV := Lib.hid (show V.M = [] ∧ V.I.length ≤ 300 ∧ V.cnt ≤ 1000 ∧ ∀ n, isU (V.tk n) from ⟨hM0, by rw [hI, HLL.out]; have := HBIG.out.1; omega, hcnt, fun n => by rw [htk]; show isU 0; exact ⟨by decide, by decide⟩⟩)
    clear hP hM0 htk hI hcnt hST k2 hPG f0 f1 f2 f3 f4 f5 f6 f7 f8 f9 KEEP CG CB hd
    obtain ⟨P, hPq⟩ : ∃ P, P = w2.heap.size := ⟨_, rfl⟩
    go_upto_region 4 with (fail)
    generalize hW3 : World.alloc w2 _ = W3
    rw [← hPq]
    have k23 : Below w2.heap.size w2 W3 := by rw [← hW3]; exact bs_alloc (Below.refl _ _)
    have p0 : W3.cell? ⟨P, 0, none⟩ = some (.pointer (some ⟨A.p, 0, none⟩)) := by rw [← hW3, hPq]; exact new_at rfl rfl
    have p1 : W3.cell? ⟨P, 1, none⟩ = some (.pointer (some ⟨R.p, 0, none⟩)) := by rw [← hW3, hPq]; exact new_at rfl rfl
    have hs3 : W3.heap.size = P + 1 := by rw [← hW3, hPq]; simp
    have HG3 := HG2.out.add k23 (q := P) (by omega) (by omega)
    have HB3 := Lib.hid (below_then HB2.out k23)
    have HS3 := Lib.hid hs3
    have HG3h := Lib.hid HG3
    clear hW3 k23 HG2 HB2 HB1 hs3 hPq HG3
    go_upto_region 5 with (fail)
    generalize hW4 : World.alloc W3 _ = W4
    obtain ⟨D, hD⟩ : ∃ D, D = W3.heap.size := ⟨_, rfl⟩
    rw [← hD]
    have k34 : Below W3.heap.size W3 W4 := by rw [← hW4]; exact bs_alloc (Below.refl _ _)
    have dc : ∀ i, i < 6 → W4.cell? ⟨D, i, none⟩ = some (.int .i64 (thF i)) := fun i hi => by
      rw [← hW4, hD]
      match i, hi with
      | 0, _ => exact new_at rfl rfl
      | 1, _ => exact new_at rfl rfl
      | 2, _ => exact new_at rfl rfl
      | 3, _ => exact new_at rfl rfl
      | 4, _ => exact new_at rfl rfl
      | 5, _ => exact new_at rfl rfl
    have hs4 : W4.heap.size = D + 1 := by rw [← hW4, hD]; simp
    have hs3 := HS3.out
    have HG4 := HG3h.out.add k34 (q := D) (by omega) (by omega)
    have HB4 := Lib.hid (below_then HB3.out k34)
    have p0' := (k34.cell (p := ⟨P, 0, none⟩) (World.block_lt_of_cell? _ _ p0)).trans p0
    have p1' := (k34.cell (p := ⟨P, 1, none⟩) (World.block_lt_of_cell? _ _ p1)).trans p1
    have hPD : P < D := by omega
    have HS4 := Lib.hid (And.intro hs4 hPD)
    have HG4h := Lib.hid HG4
    have DC := Lib.hid dc
    clear hW4 k34 HB3 HG3h hs3 hs4 hPD hD HG4 dc p0 p1
    have P01 := Lib.hid (And.intro p0' p1')
    clear p0' p1'
    have hmk := mk6 W4
    go_upto_region 6 with (fail)
    clear hmk
    obtain ⟨T, hT⟩ : ∃ T, T = W4.heap.size := ⟨_, rfl⟩
    generalize hW5 : World.alloc W4 _ = W5
    rw [← hT]
    have k45 : Below W4.heap.size W4 W5 := by rw [← hW5]; exact bs_alloc (Below.refl _ _)
    have tc : ∀ i, i < 24 → W5.cell? ⟨T, i, none⟩ = some (.pointer none) := fun i hi => by
      rw [← hW5, hT]
      exact tab_at hi
    have tz : ∀ i, i < 24 → W5.frozen? ⟨T, i, none⟩ = false := fun i hi => by rw [← hW5, hT]; exact tab_fz hi
    have hs5 : W5.heap.size = T + 1 := by rw [← hW5, hT]; simp
    obtain ⟨hs4, hPD⟩ := HS4.out
    obtain ⟨p0, p1⟩ := P01.out
    have dc := DC.out
    have HG5 := HG4h.out.add k45 (q := T) (by omega) (by omega)
    have HB5 := Lib.hid (below_then HB4.out k45)
    replace p0 := (k45.cell (p := ⟨P, 0, none⟩) (World.block_lt_of_cell? _ _ p0)).trans p0
    replace p1 := (k45.cell (p := ⟨P, 1, none⟩) (World.block_lt_of_cell? _ _ p1)).trans p1
    replace dc : ∀ i, i < 6 → W5.cell? ⟨D, i, none⟩ = some (.int .i64 (thF i)) := fun i hi => (k45.cell (p := ⟨D, i, none⟩) (World.block_lt_of_cell? _ _ (dc i hi))).trans (dc i hi)
    obtain ⟨G0, hG0⟩ : ∃ G0 : Nat → Prop, G0 = fun j => (j < w.heap.size ∨ j = P) ∨ j = D := ⟨_, rfl⟩
    have hTG : ¬ G0 T := by
      have := HB4.out.size
      rw [hG0]
      rintro ((h | h) | h) <;> omega
    have hTD : T ≠ D := by omega
    have HTD := Lib.hid hTD
    have HR0 : Hid (PlT G0 T W5 A R W5 1000) := Lib.hid (PlT.first HG5 (by rw [hG0]; exact fun j hj => hj) tc tz hTG HV.out)
    have PK : Hid (∀ X, Kp G0 W5 X → (X.cell? ⟨P, 0, none⟩ = some (.pointer (some ⟨A.p, 0, none⟩)) ∧ X.cell? ⟨P, 1, none⟩ = some (.pointer (some ⟨R.p, 0, none⟩))) ∧ (∀ i, i < 6 → X.cell? ⟨D, i, none⟩ = some (.int .i64 (thF i))) ∧ Below w.heap.size w X) := Lib.hid (fun X hk => by
      subst hG0
      exact ⟨⟨hk.cell (p := ⟨P, 0, none⟩) (fun n => n (.inl (.inr rfl))) p0, hk.cell (p := ⟨P, 1, none⟩) (fun n => n (.inl (.inr rfl))) p1⟩, fun i hi => hk.cell (p := ⟨D, i, none⟩) (fun n => n (.inr rfl)) (dc i hi), HB5.out.trans ((hk.less (fun j h => .inl (.inl h))).below HB5.out.size)⟩)
    clear hW5 k45 p0 p1 dc tc tz hs4 hs5 HG4h HG5 HV HB4 hT hG0 hTG hTD hPD HS3 HS4 DC P01
    go_wp2_with fail
    go_loopw [8] (fun i X => ∃ k : Nat, k ≤ l1 ∧ i = .int .i64 k ∧ PlT G0 T W5 A R X (1000 + k)) (fun i _ => l1 - (intOf i).toNat)
    case atStart => exact ⟨0, by omega, rfl, HR0.out⟩
    case round =>
      clear HR0
      obtain ⟨k, hk, rfl, hR⟩ := hrel
      have HR := Lib.hid hR
      have HPK := Lib.hid (PK.out _ hR.kp)
      clear hR
      by_cases hlt : k < l1
      · obtain ⟨hlc, rfl⟩ := HA1.out (by omega)
        obtain ⟨x0, x1, x2, x3, hx0, hx1, h2, h3, e0, e1, e2, e3⟩ := (HA2.out k hlt).new HPK.out.2.2
        have hkc : k < c1 := by omega
        have j0 : (0 : Int) ≤ (k : Int) := by omega
        have j1 : (k : Int) < (l1 : Int) := by omega
        obtain ⟨Q, hQ⟩ : ∃ Q, Q = wr.heap.size := ⟨_, rfl⟩
        go_upto_region 10 with (fail)
        generalize hW6 : World.alloc wr _ = W6
        rw [← hQ]
        have hb6 : Below wr.heap.size wr W6 := by rw [← hW6]; exact bs_alloc (Below.refl _ _)
        have hsz : Q < W6.heap.size := by rw [← hW6, hQ]; simp
        have f0 : W6.cell? ⟨Q, 0, none⟩ = some (.int .u8 x0) := by rw [← hW6, hQ]; exact new_at rfl rfl
        have f1 : W6.cell? ⟨Q, 1, none⟩ = some (.int .u8 x1) := by rw [← hW6, hQ]; exact new_at rfl rfl
        have f2 : W6.cell? ⟨Q, 2, none⟩ = some (.int .u64 x2) := by rw [← hW6, hQ]; exact new_at rfl rfl
        have f3 : W6.cell? ⟨Q, 3, none⟩ = some (.int .u64 x3) := by rw [← hW6, hQ]; exact new_at rfl rfl
        have HR6 := Lib.hid (HR.out.new hb6)
        have hk300 : k < 300 := by have := HL.out; omega
        have HKL := Lib.hid (And.intro hk hlt)
        obtain ⟨⟨p0, p1⟩, dc, -⟩ := PK.out _ HR6.out.kp
        clear hW6 hb6 hQ hsz e0 e1 e2 e3 HR HPK j0 j1 hlc hkc hk hlt
        obtain ⟨i, hi, hi6⟩ : ∃ i : Nat, x1.tmod 6 = (i : Int) ∧ i < 6 := ⟨(x1.tmod 6).toNat, by rw [Int.tmod_eq_emod_of_nonneg hx1.1]; omega, by rw [Int.tmod_eq_emod_of_nonneg hx1.1]; omega⟩
        have mi : IntKind.i64.wrap x1 = x1 := IntWalk.i64_in _ (by omega)
        obtain ⟨m, hm⟩ : ∃ m, x0.tmod 10 = m := ⟨_, rfl⟩
        have hmr : 0 ≤ m ∧ m < 10 := by rw [Int.tmod_eq_emod_of_nonneg hx0.1] at hm; omega
        have j0 : (0 : Int) ≤ (i : Int) := by omega
        have j1 : (i : Int) < 6 := by omega
        have d0 : W6.cell? ⟨D, i, none⟩ = some (.int .i64 (thF i)) := dc i hi6
        have ht := thF_lt i
        clear dc
        have hd6 : Below W6.heap.size W6 W6.drew := (Below.refl _ _).drew
        obtain ⟨v0, v1, v2, v3, hat⟩ := HR6.out.at_ hi6
        have HAT := Lib.hid hat
        have HFZ := Lib.hid (HR6.out.fz4 hi6)
        clear hat
        rcases (by omega : m = 0 ∨ m = 1 ∨ m = 2 ∨ m = 3 ∨ m = 4 ∨ 4 < m) with h | h | h | h | h | h
        · have t0 : (m == 0) = true := by simp [h]
          clear f2 f3 p0 p1 h hmr
          go_upto_region 16 with (fail)
          clear f0 f1 t0 mi
          have q0 : W6.drew.cell? ⟨D, i, none⟩ = some (.int .i64 (thF i)) := d0
          clear d0
          go_wp2_with fail
          go_region_held3 (fun X => X.cell? ⟨D, i, none⟩ = some (.int .i64 (thF i)))
            (first | assumption | exact set4_other HTD.out q0)
            (first
              | (go_at_call 17; ((with_reducible refine (newTakeN (thF i) ht _).mono ?_); rintro e w65 ⟨p, rfl, o6, hp6, hb65⟩; have hk65 := below_then hd6 hb65; replace q0 := (hb65.cell (p := ⟨D, i, none⟩) (World.block_lt_of_cell? _ _ q0)).trans q0))
              | (go_at_call 18; ((with_reducible refine (rnewTake (thF i) (by omega) (by omega) _).mono ?_); rintro e w7 ⟨r, rfl, o7, hr7, hb7⟩; have hk7 := below_then hk65 hb7; replace q0 := (hb7.cell (p := ⟨D, i, none⟩) (World.block_lt_of_cell? _ _ q0)).trans q0; refine K4.mk (HAT.out w7 hk7).1 (HFZ.out w7 hk7) (fun z0 z1 z2 z3 y0 y1 y2 y3 => ?_))))
          have l6 := o6.lt
          have h6 : W6.heap.size ≤ p := hp6
          have h7 : w65.heap.size ≤ r := hr7
          have hs65 := hk65.size
          have hs7 := hb7.size
          have l7 := o7.lt
          have O6 := Lib.hid (o6.new hb7)
          have O7 := Lib.hid o7
          have HK7 := Lib.hid hk7
          have HS := Lib.hid (show p ≠ r ∧ ∀ j, (j = p ∨ j = r) → W6.heap.size ≤ j ∧ j < w7.heap.size from ⟨by omega, fun j hj => by rcases hj with rfl | rfl <;> omega⟩)
          clear o6 o7 l6 h6 h7 hs65 hs7 l7 hp6 hr7 hb65 hb7 hk65 hk7 hd6 z0 z1 z2 z3 y0 y1 y2 y3 q0
          go_upto_region 23 with (fail)
          generalize hX7 : World.setCell (World.setCell (World.setCell (World.setCell w7 _ _) _ _) _ _) _ _ = X7
          have HPM := Lib.hid (HR6.out.put hi6 HK7.out (x := ⟨[.pointer (some ⟨p, 0, none⟩), .pointer none, .pointer (some ⟨r, 0, none⟩), .pointer none], fun j => j = p ∨ j = r⟩) rfl (.inr (.inl ⟨p, r, thF i, 0, rfl, rfl, HS.out.1, ht, .inl ⟨O6.out, O7.out⟩⟩)) HS.out.2 hX7.symm)
          clear hX7
          have HPL := Lib.hid (HPM.out.le (c' := 1000 + (k : Int) + 1) (by omega))
          obtain ⟨u0, u1, u2, u3, hat'⟩ := HPL.out.at_ hi6
          obtain ⟨⟨c0, c1', c2, c3⟩, -, CS'⟩ := hat' X7 (Below.refl _ _)
          have CS := Lib.hid CS'
          obtain ⟨⟨p0, p1⟩, -, -⟩ := PK.out _ HPL.out.kp
          clear hat' CS' HPM
          go_upto_region 25 with (first
            | (go_at_call 23; ((with_reducible refine CS.out.mono ?_); rintro e w8 ⟨rfl, hb8⟩; have HP8 := Lib.hid (HPL.out.new hb8); clear c0 c1' c2 c3 p0 p1 hb8; obtain ⟨⟨p0, p1⟩, -, -⟩ := PK.out _ HP8.out.kp))
            | (go_at_call 15; (refine HP8.out.same.mono ?_); rintro e w9 ⟨rfl, hb9⟩; have HP9 := Lib.hid (HP8.out.new hb9); clear p0 p1 hb9))
          clear CS HP8
          have KB : Hid (∀ X, Below w9.heap.size w9 X → X.cell? ⟨P, 0, none⟩ = some (.pointer (some ⟨A.p, 0, none⟩)) ∧ X.cell? ⟨P, 1, none⟩ = some (.pointer (some ⟨R.p, 0, none⟩)) ∧ (∀ i, i < 6 → X.cell? ⟨D, i, none⟩ = some (.int .i64 (thF i)))) := Lib.hid (fun X hb => by
            obtain ⟨⟨a, b⟩, c, -⟩ := PK.out _ (HP9.out.new hb).kp
            exact ⟨a, b, c⟩)
          go_wp2_with fail
          go_loopw [11] (fun n X => ∃ j : Nat, j ≤ 6 ∧ n = .int .i64 j ∧ Below w9.heap.size w9 X) (fun n _ => 6 - (intOf n).toNat)
          case atStart => exact ⟨0, by omega, rfl, Below.refl _ _⟩
          case round =>
            obtain ⟨j, hj, rfl, hb⟩ := hrel
            have HB := Lib.hid hb
            by_cases hlj : j < 6
            · obtain ⟨b, W1, W2⟩ := (HP9.out.new hb).wait (thF_lt j)
              have CW1 := Lib.hid W1
              have CW2 := Lib.hid W2
              have eb : (b != b) = false := by simp
              have l0 : (0 : Int) ≤ (j : Int) := by omega
              have l1' : (j : Int) < 6 := by omega
              have hdr : Below wr.heap.size wr wr.drew := (Below.refl _ _).drew
              have KC : Hid (∀ X, Below wr.heap.size wr X → X.cell? ⟨P, 0, none⟩ = some (.pointer (some ⟨A.p, 0, none⟩)) ∧ X.cell? ⟨P, 1, none⟩ = some (.pointer (some ⟨R.p, 0, none⟩)) ∧ X.cell? ⟨D, j, none⟩ = some (.int .i64 (thF j))) := Lib.hid (fun X hx => by
                obtain ⟨a, b, c⟩ := KB.out X (below_then HB.out hx)
                exact ⟨a, b, c j hlj⟩)
              clear hb W1 W2
              go_upto_region 28 with (fail)
              go_wp2_with fail
              obtain ⟨s0, s1, s2⟩ := KC.out _ hdr
              go_region_held3 (fun X => X.cell? ⟨P, 0, none⟩ = some (.pointer (some ⟨A.p, 0, none⟩)) ∧ X.cell? ⟨P, 1, none⟩ = some (.pointer (some ⟨R.p, 0, none⟩)) ∧ X.cell? ⟨D, j, none⟩ = some (.int .i64 (thF j)))
                (first | exact ⟨by assumption, by assumption, by assumption⟩)
                (first
                  | (go_at_call 24; ((with_reducible refine (CW1.out _ hdr).mono ?_); rintro e w10 ⟨rfl, hb10⟩; have hk10 := below_then hdr hb10; clear s0 s1 s2; obtain ⟨s0, s1, s2⟩ := KC.out _ hk10))
                  | (go_at_call 25; ((with_reducible refine (CW2.out _ hk10).mono ?_); rintro e w11 ⟨rfl, hb11⟩; have hk11 := below_then hk10 hb11; clear s0 s1 s2; obtain ⟨s0, s1, s2⟩ := KC.out _ hk11)))
              all_goals
                clear s0 s1 s2
                go_wp2_with fail
                go_roundw
                case rel => exact ⟨j + 1, by omega, by go_num, below_then HB.out hk11⟩
                case measure => simp [intOf]; omega
            · obtain rfl : j = 6 := by omega
              clear hb
              go_wp2_with fail
              go_roundw
              case rel => exact ⟨k + 1, by have := HKL.out; omega, by go_num, (HP9.out.new HB.out).le (by omega)⟩
              case measure => have := HKL.out; simp [intOf]; omega
        · have t0 : (m == 0) = false := by simp [h]
          have t1 : (m == 1) = true := by simp [h]
          clear f2 f3 p0 p1 h hmr
          go_upto_region 16 with (fail)
          clear f0 f1 t0 t1 mi
          have q0 : W6.drew.cell? ⟨D, i, none⟩ = some (.int .i64 (thF i)) := d0
          clear d0
          go_wp2_with fail
          go_region_held3 (fun X => X.cell? ⟨D, i, none⟩ = some (.int .i64 (thF i)))
            (first | assumption | exact set4_other HTD.out q0)
            (first
              | (go_at_call 17; ((with_reducible refine (newTakeN (thF i) ht _).mono ?_); rintro e w65 ⟨p, rfl, o6, hp6, hb65⟩; have hk65 := below_then hd6 hb65; replace q0 := (hb65.cell (p := ⟨D, i, none⟩) (World.block_lt_of_cell? _ _ q0)).trans q0))
              | (go_at_call 18; ((with_reducible refine (rnewTake (thF i) (by omega) (by omega) _).mono ?_); rintro e w7 ⟨r, rfl, o7, hr7, hb7⟩; have hk7 := below_then hk65 hb7; replace q0 := (hb7.cell (p := ⟨D, i, none⟩) (World.block_lt_of_cell? _ _ q0)).trans q0; refine K4.mk (HAT.out w7 hk7).1 (HFZ.out w7 hk7) (fun z0 z1 z2 z3 y0 y1 y2 y3 => ?_))))
          have l6 := o6.lt
          have h6 : W6.heap.size ≤ p := hp6
          have h7 : w65.heap.size ≤ r := hr7
          have hs65 := hk65.size
          have hs7 := hb7.size
          have l7 := o7.lt
          have O6 := Lib.hid (o6.new hb7)
          have O7 := Lib.hid o7
          have HK7 := Lib.hid hk7
          have HS := Lib.hid (show p ≠ r ∧ ∀ j, (j = p ∨ j = r) → W6.heap.size ≤ j ∧ j < w7.heap.size from ⟨by omega, fun j hj => by rcases hj with rfl | rfl <;> omega⟩)
          clear o6 o7 l6 h6 h7 hs65 hs7 l7 hp6 hr7 hb65 hb7 hk65 hk7 hd6 z0 z1 z2 z3 y0 y1 y2 y3 q0
          go_upto_region 23 with (fail)
          generalize hX7 : World.setCell (World.setCell (World.setCell (World.setCell w7 _ _) _ _) _ _) _ _ = X7
          have HPM := Lib.hid (HR6.out.put hi6 HK7.out (x := ⟨[.pointer (some ⟨p, 0, none⟩), .pointer none, .pointer (some ⟨r, 0, none⟩), .pointer none], fun j => j = p ∨ j = r⟩) rfl (.inr (.inl ⟨p, r, thF i, 0, rfl, rfl, HS.out.1, ht, .inl ⟨O6.out, O7.out⟩⟩)) HS.out.2 hX7.symm)
          clear hX7
          have HPL := Lib.hid (HPM.out.le (c' := 1000 + (k : Int) + 1) (by omega))
          obtain ⟨u0, u1, u2, u3, hat'⟩ := HPL.out.at_ hi6
          obtain ⟨⟨c0, c1', c2, c3⟩, -, CS'⟩ := hat' X7 (Below.refl _ _)
          have CS := Lib.hid CS'
          obtain ⟨⟨p0, p1⟩, -, -⟩ := PK.out _ HPL.out.kp
          clear hat' CS' HPM
          go_upto_region 25 with (first
            | (go_at_call 23; ((with_reducible refine CS.out.mono ?_); rintro e w8 ⟨rfl, hb8⟩; have HP8 := Lib.hid (HPL.out.new hb8); clear c0 c1' c2 c3 p0 p1 hb8; obtain ⟨⟨p0, p1⟩, -, -⟩ := PK.out _ HP8.out.kp))
            | (go_at_call 15; (refine HP8.out.same.mono ?_); rintro e w9 ⟨rfl, hb9⟩; have HP9 := Lib.hid (HP8.out.new hb9); clear p0 p1 hb9))
          clear CS HP8
          have KB : Hid (∀ X, Below w9.heap.size w9 X → X.cell? ⟨P, 0, none⟩ = some (.pointer (some ⟨A.p, 0, none⟩)) ∧ X.cell? ⟨P, 1, none⟩ = some (.pointer (some ⟨R.p, 0, none⟩)) ∧ (∀ i, i < 6 → X.cell? ⟨D, i, none⟩ = some (.int .i64 (thF i)))) := Lib.hid (fun X hb => by
            obtain ⟨⟨a, b⟩, c, -⟩ := PK.out _ (HP9.out.new hb).kp
            exact ⟨a, b, c⟩)
          go_wp2_with fail
          go_loopw [11] (fun n X => ∃ j : Nat, j ≤ 6 ∧ n = .int .i64 j ∧ Below w9.heap.size w9 X) (fun n _ => 6 - (intOf n).toNat)
          case atStart => exact ⟨0, by omega, rfl, Below.refl _ _⟩
          case round =>
            obtain ⟨j, hj, rfl, hb⟩ := hrel
            have HB := Lib.hid hb
            by_cases hlj : j < 6
            · obtain ⟨b, W1, W2⟩ := (HP9.out.new hb).wait (thF_lt j)
              have CW1 := Lib.hid W1
              have CW2 := Lib.hid W2
              have eb : (b != b) = false := by simp
              have l0 : (0 : Int) ≤ (j : Int) := by omega
              have l1' : (j : Int) < 6 := by omega
              have hdr : Below wr.heap.size wr wr.drew := (Below.refl _ _).drew
              have KC : Hid (∀ X, Below wr.heap.size wr X → X.cell? ⟨P, 0, none⟩ = some (.pointer (some ⟨A.p, 0, none⟩)) ∧ X.cell? ⟨P, 1, none⟩ = some (.pointer (some ⟨R.p, 0, none⟩)) ∧ X.cell? ⟨D, j, none⟩ = some (.int .i64 (thF j))) := Lib.hid (fun X hx => by
                obtain ⟨a, b, c⟩ := KB.out X (below_then HB.out hx)
                exact ⟨a, b, c j hlj⟩)
              clear hb W1 W2
              go_upto_region 28 with (fail)
              go_wp2_with fail
              obtain ⟨s0, s1, s2⟩ := KC.out _ hdr
              go_region_held3 (fun X => X.cell? ⟨P, 0, none⟩ = some (.pointer (some ⟨A.p, 0, none⟩)) ∧ X.cell? ⟨P, 1, none⟩ = some (.pointer (some ⟨R.p, 0, none⟩)) ∧ X.cell? ⟨D, j, none⟩ = some (.int .i64 (thF j)))
                (first | exact ⟨by assumption, by assumption, by assumption⟩)
                (first
                  | (go_at_call 24; ((with_reducible refine (CW1.out _ hdr).mono ?_); rintro e w10 ⟨rfl, hb10⟩; have hk10 := below_then hdr hb10; clear s0 s1 s2; obtain ⟨s0, s1, s2⟩ := KC.out _ hk10))
                  | (go_at_call 25; ((with_reducible refine (CW2.out _ hk10).mono ?_); rintro e w11 ⟨rfl, hb11⟩; have hk11 := below_then hk10 hb11; clear s0 s1 s2; obtain ⟨s0, s1, s2⟩ := KC.out _ hk11)))
              all_goals
                clear s0 s1 s2
                go_wp2_with fail
                go_roundw
                case rel => exact ⟨j + 1, by omega, by go_num, below_then HB.out hk11⟩
                case measure => simp [intOf]; omega
            · obtain rfl : j = 6 := by omega
              clear hb
              go_wp2_with fail
              go_roundw
              case rel => exact ⟨k + 1, by have := HKL.out; omega, by go_num, (HP9.out.new HB.out).le (by omega)⟩
              case measure => have := HKL.out; simp [intOf]; omega
        · have t0 : (m == 0) = false := by simp [h]
          have t1 : (m == 1) = false := by simp [h]
          have t2 : (m == 2) = true := by simp [h]
          clear f2 f3 p0 p1 h hmr d0
          go_upto_region 23 with (first
            | (go_at_call 19; (refine (newGiveN _).mono ?_); rintro e w65 ⟨p, rfl, o6, hp6, hb65⟩; clear f0 f1)
            | (go_at_call 20; (refine (rnewGive _).mono ?_); rintro e w7 ⟨r, rfl, o7, hr7, hb7⟩; have hk65 := hb65; have hk7 := below_then hk65 hb7; refine K4.mk (HAT.out w7 hk7).1 (HFZ.out w7 hk7) (fun z0 z1 z2 z3 y0 y1 y2 y3 => ?_)))
          have l6 := o6.lt
          have h6 : W6.heap.size ≤ p := hp6
          have h7 : w65.heap.size ≤ r := hr7
          have hs65 := hk65.size
          have hs7 := hb7.size
          have l7 := o7.lt
          have O6 := Lib.hid (o6.new hb7)
          have O7 := Lib.hid o7
          have HK7 := Lib.hid hk7
          have HS := Lib.hid (show p ≠ r ∧ ∀ j, (j = p ∨ j = r) → W6.heap.size ≤ j ∧ j < w7.heap.size from ⟨by omega, fun j hj => by rcases hj with rfl | rfl <;> omega⟩)
          clear o6 o7 l6 h6 h7 hs65 hs7 l7 hp6 hr7 hb65 hb7 hk65 hk7 hd6 z0 z1 z2 z3 y0 y1 y2 y3
          generalize hX7 : World.setCell (World.setCell (World.setCell (World.setCell w7 _ _) _ _) _ _) _ _ = X7
          have HPM := Lib.hid (HR6.out.put hi6 HK7.out (x := ⟨[.pointer none, .pointer (some ⟨p, 0, none⟩), .pointer none, .pointer (some ⟨r, 0, none⟩)], fun j => j = p ∨ j = r⟩) rfl (.inr (.inr ⟨p, r, rfl, rfl, HS.out.1, .inl ⟨O6.out, O7.out⟩⟩)) HS.out.2 hX7.symm)
          clear hX7
          have HPL := Lib.hid (HPM.out.le (c' := 1000 + (k : Int) + 1) (by omega))
          obtain ⟨u0, u1, u2, u3, hat'⟩ := HPL.out.at_ hi6
          obtain ⟨⟨c0, c1', c2, c3⟩, -, CS'⟩ := hat' X7 (Below.refl _ _)
          have CS := Lib.hid CS'
          obtain ⟨⟨p0, p1⟩, -, -⟩ := PK.out _ HPL.out.kp
          clear hat' CS' HPM
          go_upto_region 25 with (first
            | (go_at_call 23; ((with_reducible refine CS.out.mono ?_); rintro e w8 ⟨rfl, hb8⟩; have HP8 := Lib.hid (HPL.out.new hb8); clear c0 c1' c2 c3 p0 p1 hb8; obtain ⟨⟨p0, p1⟩, -, -⟩ := PK.out _ HP8.out.kp))
            | (go_at_call 15; (refine HP8.out.same.mono ?_); rintro e w9 ⟨rfl, hb9⟩; have HP9 := Lib.hid (HP8.out.new hb9); clear p0 p1 hb9))
          clear CS HP8
          have KB : Hid (∀ X, Below w9.heap.size w9 X → X.cell? ⟨P, 0, none⟩ = some (.pointer (some ⟨A.p, 0, none⟩)) ∧ X.cell? ⟨P, 1, none⟩ = some (.pointer (some ⟨R.p, 0, none⟩)) ∧ (∀ i, i < 6 → X.cell? ⟨D, i, none⟩ = some (.int .i64 (thF i)))) := Lib.hid (fun X hb => by
            obtain ⟨⟨a, b⟩, c, -⟩ := PK.out _ (HP9.out.new hb).kp
            exact ⟨a, b, c⟩)
          go_wp2_with fail
          go_loopw [11] (fun n X => ∃ j : Nat, j ≤ 6 ∧ n = .int .i64 j ∧ Below w9.heap.size w9 X) (fun n _ => 6 - (intOf n).toNat)
          case atStart => exact ⟨0, by omega, rfl, Below.refl _ _⟩
          case round =>
            obtain ⟨j, hj, rfl, hb⟩ := hrel
            have HB := Lib.hid hb
            by_cases hlj : j < 6
            · obtain ⟨b, W1, W2⟩ := (HP9.out.new hb).wait (thF_lt j)
              have CW1 := Lib.hid W1
              have CW2 := Lib.hid W2
              have eb : (b != b) = false := by simp
              have l0 : (0 : Int) ≤ (j : Int) := by omega
              have l1' : (j : Int) < 6 := by omega
              have hdr : Below wr.heap.size wr wr.drew := (Below.refl _ _).drew
              have KC : Hid (∀ X, Below wr.heap.size wr X → X.cell? ⟨P, 0, none⟩ = some (.pointer (some ⟨A.p, 0, none⟩)) ∧ X.cell? ⟨P, 1, none⟩ = some (.pointer (some ⟨R.p, 0, none⟩)) ∧ X.cell? ⟨D, j, none⟩ = some (.int .i64 (thF j))) := Lib.hid (fun X hx => by
                obtain ⟨a, b, c⟩ := KB.out X (below_then HB.out hx)
                exact ⟨a, b, c j hlj⟩)
              clear hb W1 W2
              go_upto_region 28 with (fail)
              go_wp2_with fail
              obtain ⟨s0, s1, s2⟩ := KC.out _ hdr
              go_region_held3 (fun X => X.cell? ⟨P, 0, none⟩ = some (.pointer (some ⟨A.p, 0, none⟩)) ∧ X.cell? ⟨P, 1, none⟩ = some (.pointer (some ⟨R.p, 0, none⟩)) ∧ X.cell? ⟨D, j, none⟩ = some (.int .i64 (thF j)))
                (first | exact ⟨by assumption, by assumption, by assumption⟩)
                (first
                  | (go_at_call 24; ((with_reducible refine (CW1.out _ hdr).mono ?_); rintro e w10 ⟨rfl, hb10⟩; have hk10 := below_then hdr hb10; clear s0 s1 s2; obtain ⟨s0, s1, s2⟩ := KC.out _ hk10))
                  | (go_at_call 25; ((with_reducible refine (CW2.out _ hk10).mono ?_); rintro e w11 ⟨rfl, hb11⟩; have hk11 := below_then hk10 hb11; clear s0 s1 s2; obtain ⟨s0, s1, s2⟩ := KC.out _ hk11)))
              all_goals
                clear s0 s1 s2
                go_wp2_with fail
                go_roundw
                case rel => exact ⟨j + 1, by omega, by go_num, below_then HB.out hk11⟩
                case measure => simp [intOf]; omega
            · obtain rfl : j = 6 := by omega
              clear hb
              go_wp2_with fail
              go_roundw
              case rel => exact ⟨k + 1, by have := HKL.out; omega, by go_num, (HP9.out.new HB.out).le (by omega)⟩
              case measure => have := HKL.out; simp [intOf]; omega
        · have t0 : (m == 0) = false := by simp [h]
          have t1 : (m == 1) = false := by simp [h]
          have t2 : (m == 2) = false := by simp [h]
          have t3 : (m == 3) = true := by simp [h]
          clear d0 h hmr hd6
          go_upto_region 23 with (go_at_call 21; (refine (HR6.out.store (by omega) h2 h3).mono ?_); rintro e X7 ⟨rfl, h7⟩; have HPM := Lib.hid h7; clear h7 p0 p1 f0 f1 f2 f3)
          have HPL := Lib.hid (HPM.out.le (c' := 1000 + (k : Int) + 1) (by omega))
          obtain ⟨u0, u1, u2, u3, hat'⟩ := HPL.out.at_ hi6
          obtain ⟨⟨c0, c1', c2, c3⟩, -, CS'⟩ := hat' X7 (Below.refl _ _)
          have CS := Lib.hid CS'
          obtain ⟨⟨p0, p1⟩, -, -⟩ := PK.out _ HPL.out.kp
          clear hat' CS' HPM
          go_upto_region 25 with (first
            | (go_at_call 23; ((with_reducible refine CS.out.mono ?_); rintro e w8 ⟨rfl, hb8⟩; have HP8 := Lib.hid (HPL.out.new hb8); clear c0 c1' c2 c3 p0 p1 hb8; obtain ⟨⟨p0, p1⟩, -, -⟩ := PK.out _ HP8.out.kp))
            | (go_at_call 15; (refine HP8.out.same.mono ?_); rintro e w9 ⟨rfl, hb9⟩; have HP9 := Lib.hid (HP8.out.new hb9); clear p0 p1 hb9))
          clear CS HP8
          have KB : Hid (∀ X, Below w9.heap.size w9 X → X.cell? ⟨P, 0, none⟩ = some (.pointer (some ⟨A.p, 0, none⟩)) ∧ X.cell? ⟨P, 1, none⟩ = some (.pointer (some ⟨R.p, 0, none⟩)) ∧ (∀ i, i < 6 → X.cell? ⟨D, i, none⟩ = some (.int .i64 (thF i)))) := Lib.hid (fun X hb => by
            obtain ⟨⟨a, b⟩, c, -⟩ := PK.out _ (HP9.out.new hb).kp
            exact ⟨a, b, c⟩)
          go_wp2_with fail
          go_loopw [11] (fun n X => ∃ j : Nat, j ≤ 6 ∧ n = .int .i64 j ∧ Below w9.heap.size w9 X) (fun n _ => 6 - (intOf n).toNat)
          case atStart => exact ⟨0, by omega, rfl, Below.refl _ _⟩
          case round =>
            obtain ⟨j, hj, rfl, hb⟩ := hrel
            have HB := Lib.hid hb
            by_cases hlj : j < 6
            · obtain ⟨b, W1, W2⟩ := (HP9.out.new hb).wait (thF_lt j)
              have CW1 := Lib.hid W1
              have CW2 := Lib.hid W2
              have eb : (b != b) = false := by simp
              have l0 : (0 : Int) ≤ (j : Int) := by omega
              have l1' : (j : Int) < 6 := by omega
              have hdr : Below wr.heap.size wr wr.drew := (Below.refl _ _).drew
              have KC : Hid (∀ X, Below wr.heap.size wr X → X.cell? ⟨P, 0, none⟩ = some (.pointer (some ⟨A.p, 0, none⟩)) ∧ X.cell? ⟨P, 1, none⟩ = some (.pointer (some ⟨R.p, 0, none⟩)) ∧ X.cell? ⟨D, j, none⟩ = some (.int .i64 (thF j))) := Lib.hid (fun X hx => by
                obtain ⟨a, b, c⟩ := KB.out X (below_then HB.out hx)
                exact ⟨a, b, c j hlj⟩)
              clear hb W1 W2
              go_upto_region 28 with (fail)
              go_wp2_with fail
              obtain ⟨s0, s1, s2⟩ := KC.out _ hdr
              go_region_held3 (fun X => X.cell? ⟨P, 0, none⟩ = some (.pointer (some ⟨A.p, 0, none⟩)) ∧ X.cell? ⟨P, 1, none⟩ = some (.pointer (some ⟨R.p, 0, none⟩)) ∧ X.cell? ⟨D, j, none⟩ = some (.int .i64 (thF j)))
                (first | exact ⟨by assumption, by assumption, by assumption⟩)
                (first
                  | (go_at_call 24; ((with_reducible refine (CW1.out _ hdr).mono ?_); rintro e w10 ⟨rfl, hb10⟩; have hk10 := below_then hdr hb10; clear s0 s1 s2; obtain ⟨s0, s1, s2⟩ := KC.out _ hk10))
                  | (go_at_call 25; ((with_reducible refine (CW2.out _ hk10).mono ?_); rintro e w11 ⟨rfl, hb11⟩; have hk11 := below_then hk10 hb11; clear s0 s1 s2; obtain ⟨s0, s1, s2⟩ := KC.out _ hk11)))
              all_goals
                clear s0 s1 s2
                go_wp2_with fail
                go_roundw
                case rel => exact ⟨j + 1, by omega, by go_num, below_then HB.out hk11⟩
                case measure => simp [intOf]; omega
            · obtain rfl : j = 6 := by omega
              clear hb
              go_wp2_with fail
              go_roundw
              case rel => exact ⟨k + 1, by have := HKL.out; omega, by go_num, (HP9.out.new HB.out).le (by omega)⟩
              case measure => have := HKL.out; simp [intOf]; omega
        · have t0 : (m == 0) = false := by simp [h]
          have t1 : (m == 1) = false := by simp [h]
          have t2 : (m == 2) = false := by simp [h]
          have t3 : (m == 3) = false := by simp [h]
          have t4 : (m == 4) = true := by simp [h]
          clear d0 h hmr hd6
          go_upto_region 23 with (go_at_call 21; (refine (HR6.out.store (by omega) ⟨by decide, by decide⟩ h3).mono ?_); rintro e X7 ⟨rfl, h7⟩; have HPM := Lib.hid h7; clear h7 p0 p1 f0 f1 f2 f3)
          have HPL := Lib.hid (HPM.out.le (c' := 1000 + (k : Int) + 1) (by omega))
          obtain ⟨u0, u1, u2, u3, hat'⟩ := HPL.out.at_ hi6
          obtain ⟨⟨c0, c1', c2, c3⟩, -, CS'⟩ := hat' X7 (Below.refl _ _)
          have CS := Lib.hid CS'
          obtain ⟨⟨p0, p1⟩, -, -⟩ := PK.out _ HPL.out.kp
          clear hat' CS' HPM
          go_upto_region 25 with (first
            | (go_at_call 23; ((with_reducible refine CS.out.mono ?_); rintro e w8 ⟨rfl, hb8⟩; have HP8 := Lib.hid (HPL.out.new hb8); clear c0 c1' c2 c3 p0 p1 hb8; obtain ⟨⟨p0, p1⟩, -, -⟩ := PK.out _ HP8.out.kp))
            | (go_at_call 15; (refine HP8.out.same.mono ?_); rintro e w9 ⟨rfl, hb9⟩; have HP9 := Lib.hid (HP8.out.new hb9); clear p0 p1 hb9))
          clear CS HP8
          have KB : Hid (∀ X, Below w9.heap.size w9 X → X.cell? ⟨P, 0, none⟩ = some (.pointer (some ⟨A.p, 0, none⟩)) ∧ X.cell? ⟨P, 1, none⟩ = some (.pointer (some ⟨R.p, 0, none⟩)) ∧ (∀ i, i < 6 → X.cell? ⟨D, i, none⟩ = some (.int .i64 (thF i)))) := Lib.hid (fun X hb => by
            obtain ⟨⟨a, b⟩, c, -⟩ := PK.out _ (HP9.out.new hb).kp
            exact ⟨a, b, c⟩)
          go_wp2_with fail
          go_loopw [11] (fun n X => ∃ j : Nat, j ≤ 6 ∧ n = .int .i64 j ∧ Below w9.heap.size w9 X) (fun n _ => 6 - (intOf n).toNat)
          case atStart => exact ⟨0, by omega, rfl, Below.refl _ _⟩
          case round =>
            obtain ⟨j, hj, rfl, hb⟩ := hrel
            have HB := Lib.hid hb
            by_cases hlj : j < 6
            · obtain ⟨b, W1, W2⟩ := (HP9.out.new hb).wait (thF_lt j)
              have CW1 := Lib.hid W1
              have CW2 := Lib.hid W2
              have eb : (b != b) = false := by simp
              have l0 : (0 : Int) ≤ (j : Int) := by omega
              have l1' : (j : Int) < 6 := by omega
              have hdr : Below wr.heap.size wr wr.drew := (Below.refl _ _).drew
              have KC : Hid (∀ X, Below wr.heap.size wr X → X.cell? ⟨P, 0, none⟩ = some (.pointer (some ⟨A.p, 0, none⟩)) ∧ X.cell? ⟨P, 1, none⟩ = some (.pointer (some ⟨R.p, 0, none⟩)) ∧ X.cell? ⟨D, j, none⟩ = some (.int .i64 (thF j))) := Lib.hid (fun X hx => by
                obtain ⟨a, b, c⟩ := KB.out X (below_then HB.out hx)
                exact ⟨a, b, c j hlj⟩)
              clear hb W1 W2
              go_upto_region 28 with (fail)
              go_wp2_with fail
              obtain ⟨s0, s1, s2⟩ := KC.out _ hdr
              go_region_held3 (fun X => X.cell? ⟨P, 0, none⟩ = some (.pointer (some ⟨A.p, 0, none⟩)) ∧ X.cell? ⟨P, 1, none⟩ = some (.pointer (some ⟨R.p, 0, none⟩)) ∧ X.cell? ⟨D, j, none⟩ = some (.int .i64 (thF j)))
                (first | exact ⟨by assumption, by assumption, by assumption⟩)
                (first
                  | (go_at_call 24; ((with_reducible refine (CW1.out _ hdr).mono ?_); rintro e w10 ⟨rfl, hb10⟩; have hk10 := below_then hdr hb10; clear s0 s1 s2; obtain ⟨s0, s1, s2⟩ := KC.out _ hk10))
                  | (go_at_call 25; ((with_reducible refine (CW2.out _ hk10).mono ?_); rintro e w11 ⟨rfl, hb11⟩; have hk11 := below_then hk10 hb11; clear s0 s1 s2; obtain ⟨s0, s1, s2⟩ := KC.out _ hk11)))
              all_goals
                clear s0 s1 s2
                go_wp2_with fail
                go_roundw
                case rel => exact ⟨j + 1, by omega, by go_num, below_then HB.out hk11⟩
                case measure => simp [intOf]; omega
            · obtain rfl : j = 6 := by omega
              clear hb
              go_wp2_with fail
              go_roundw
              case rel => exact ⟨k + 1, by have := HKL.out; omega, by go_num, (HP9.out.new HB.out).le (by omega)⟩
              case measure => have := HKL.out; simp [intOf]; omega
        · have t0 : (m == 0) = false := by simp; omega
          have t1 : (m == 1) = false := by simp; omega
          have t2 : (m == 2) = false := by simp; omega
          have t3 : (m == 3) = false := by simp; omega
          have t4 : (m == 4) = false := by simp; omega
          clear f2 f3 d0 h hmr
          obtain ⟨⟨c0, c1', c2, c3⟩, CT', -⟩ := HAT.out W6.drew hd6
          have CT := Lib.hid (CT' (by omega))
          clear CT'
          go_upto_region 12 with (fail)
          clear f0 f1 t0 t1 t2 t3 t4 mi
          have q0 : W6.drew.cell? ⟨P, 0, none⟩ = some (.pointer (some ⟨A.p, 0, none⟩)) := p0
          have q1 : W6.drew.cell? ⟨P, 1, none⟩ = some (.pointer (some ⟨R.p, 0, none⟩)) := p1
          clear p0 p1
          go_wp2_with fail
          go_region_held3 (fun X => X.cell? ⟨T, i * 4, none⟩ = some (v0) ∧ X.cell? ⟨T, i * 4 + 1, none⟩ = some (v1) ∧ X.cell? ⟨T, i * 4 + 2, none⟩ = some (v2) ∧ X.cell? ⟨T, i * 4 + 3, none⟩ = some (v3) ∧ X.cell? ⟨P, 0, none⟩ = some (.pointer (some ⟨A.p, 0, none⟩)) ∧ X.cell? ⟨P, 1, none⟩ = some (.pointer (some ⟨R.p, 0, none⟩)))
            (first | exact ⟨by assumption, by assumption, by assumption, by assumption, by assumption, by assumption⟩)
            (first
              | (go_at_call 22; ((with_reducible refine CT.out.mono ?_); rintro e X7 ⟨rfl, h7, c7⟩; clear c0 c1' c2 c3 q0 q1; obtain ⟨c0, c1', c2, c3⟩ := c7; obtain ⟨⟨q0, q1⟩, -, -⟩ := PK.out _ h7.kp; have HPM := Lib.hid h7; clear h7)))
          have CG := Lib.hid (And.intro c0 (And.intro c1' (And.intro c2 c3)))
          clear c0 c1' c2 c3 q0 q1 hd6
          go_upto_region 23 with (fail)
          have HPL := Lib.hid (HPM.out.le (c' := 1000 + (k : Int) + 1) (by omega))
          obtain ⟨u0, u1, u2, u3, hat'⟩ := HPL.out.at_ hi6
          obtain ⟨⟨c0, c1', c2, c3⟩, -, CS'⟩ := hat' X7 (Below.refl _ _)
          obtain ⟨g0, g1, g2, g3⟩ := CG.out
          obtain rfl : u0 = v0 := Option.some.inj (c0.symm.trans g0)
          obtain rfl : u1 = v1 := Option.some.inj (c1'.symm.trans g1)
          obtain rfl : u2 = v2 := Option.some.inj (c2.symm.trans g2)
          obtain rfl : u3 = v3 := Option.some.inj (c3.symm.trans g3)
          have CS := Lib.hid CS'
          clear g0 g1 g2 g3
          obtain ⟨⟨p0, p1⟩, -, -⟩ := PK.out _ HPL.out.kp
          clear hat' CS' HPM
          go_upto_region 25 with (first
            | (go_at_call 23; ((with_reducible refine CS.out.mono ?_); rintro e w8 ⟨rfl, hb8⟩; have HP8 := Lib.hid (HPL.out.new hb8); clear c0 c1' c2 c3 p0 p1 hb8; obtain ⟨⟨p0, p1⟩, -, -⟩ := PK.out _ HP8.out.kp))
            | (go_at_call 15; (refine HP8.out.same.mono ?_); rintro e w9 ⟨rfl, hb9⟩; have HP9 := Lib.hid (HP8.out.new hb9); clear p0 p1 hb9))
          clear CS HP8
          have KB : Hid (∀ X, Below w9.heap.size w9 X → X.cell? ⟨P, 0, none⟩ = some (.pointer (some ⟨A.p, 0, none⟩)) ∧ X.cell? ⟨P, 1, none⟩ = some (.pointer (some ⟨R.p, 0, none⟩)) ∧ (∀ i, i < 6 → X.cell? ⟨D, i, none⟩ = some (.int .i64 (thF i)))) := Lib.hid (fun X hb => by
            obtain ⟨⟨a, b⟩, c, -⟩ := PK.out _ (HP9.out.new hb).kp
            exact ⟨a, b, c⟩)
          go_wp2_with fail
          go_loopw [11] (fun n X => ∃ j : Nat, j ≤ 6 ∧ n = .int .i64 j ∧ Below w9.heap.size w9 X) (fun n _ => 6 - (intOf n).toNat)
          case atStart => exact ⟨0, by omega, rfl, Below.refl _ _⟩
          case round =>
            obtain ⟨j, hj, rfl, hb⟩ := hrel
            have HB := Lib.hid hb
            by_cases hlj : j < 6
            · obtain ⟨b, W1, W2⟩ := (HP9.out.new hb).wait (thF_lt j)
              have CW1 := Lib.hid W1
              have CW2 := Lib.hid W2
              have eb : (b != b) = false := by simp
              have l0 : (0 : Int) ≤ (j : Int) := by omega
              have l1' : (j : Int) < 6 := by omega
              have hdr : Below wr.heap.size wr wr.drew := (Below.refl _ _).drew
              have KC : Hid (∀ X, Below wr.heap.size wr X → X.cell? ⟨P, 0, none⟩ = some (.pointer (some ⟨A.p, 0, none⟩)) ∧ X.cell? ⟨P, 1, none⟩ = some (.pointer (some ⟨R.p, 0, none⟩)) ∧ X.cell? ⟨D, j, none⟩ = some (.int .i64 (thF j))) := Lib.hid (fun X hx => by
                obtain ⟨a, b, c⟩ := KB.out X (below_then HB.out hx)
                exact ⟨a, b, c j hlj⟩)
              clear hb W1 W2
              go_upto_region 28 with (fail)
              go_wp2_with fail
              obtain ⟨s0, s1, s2⟩ := KC.out _ hdr
              go_region_held3 (fun X => X.cell? ⟨P, 0, none⟩ = some (.pointer (some ⟨A.p, 0, none⟩)) ∧ X.cell? ⟨P, 1, none⟩ = some (.pointer (some ⟨R.p, 0, none⟩)) ∧ X.cell? ⟨D, j, none⟩ = some (.int .i64 (thF j)))
                (first | exact ⟨by assumption, by assumption, by assumption⟩)
                (first
                  | (go_at_call 24; ((with_reducible refine (CW1.out _ hdr).mono ?_); rintro e w10 ⟨rfl, hb10⟩; have hk10 := below_then hdr hb10; clear s0 s1 s2; obtain ⟨s0, s1, s2⟩ := KC.out _ hk10))
                  | (go_at_call 25; ((with_reducible refine (CW2.out _ hk10).mono ?_); rintro e w11 ⟨rfl, hb11⟩; have hk11 := below_then hk10 hb11; clear s0 s1 s2; obtain ⟨s0, s1, s2⟩ := KC.out _ hk11)))
              all_goals
                clear s0 s1 s2
                go_wp2_with fail
                go_roundw
                case rel => exact ⟨j + 1, by omega, by go_num, below_then HB.out hk11⟩
                case measure => simp [intOf]; omega
            · obtain rfl : j = 6 := by omega
              clear hb
              go_wp2_with fail
              go_roundw
              case rel => exact ⟨k + 1, by have := HKL.out; omega, by go_num, (HP9.out.new HB.out).le (by omega)⟩
              case measure => have := HKL.out; simp [intOf]; omega
      · obtain rfl : l1 = k := by omega
        obtain ⟨⟨p0, p1⟩, -, hbw⟩ := HPK.out
        have HBX := Lib.hid hbw
        clear hbw
        go_wp2_with (first
          | (go_at_call 13; refine (HR.out.all (by have := HL.out; omega)).mono ?_; rintro e w9 ⟨rfl, hk9⟩)
          | (go_at_call 16; refine (lives11 _).mono ?_; rintro e w10 ⟨rfl, hk10⟩))
        go_ret
        exact ⟨rfl, below_then (below_then HBX.out hk9) hk10⟩
end Go.Proofs.YthlebfiedejhhaaGreat
