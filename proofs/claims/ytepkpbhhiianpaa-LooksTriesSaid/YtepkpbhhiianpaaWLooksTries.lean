/- The law LooksTries. -/
import Derived.Test.YtepkpbhhiianpaaLkU
import Derived.Test.YtepkpbhhiianpaaWnT
import Derived.Test.YtepkpbhhiianpaaGLk
import Derived.Test.YtepkpbhhiianpaaOpen
import Derived.Deep.Cut
import Derived.Deep.CutBlock
import Derived.Deep.RegionHeld3
import Derived.Deep.QuietTactic
import Derived.BigQuiet
namespace Go.Proofs.Ytepkpbhhiianpaa
open Go.RowKit Go.Maps
set_option linter.unusedVariables false
theorem v0_T (c : Cfg) {z : Int} (h : z ≠ 2) : (V0 c).f z = 0 := by show upd (fun _ => 0) 2 c.bits z = 0; exact upd_other h
theorem v0_2 (c : Cfg) : (V0 c).f 2 = c.bits := by show upd (fun _ => 0) 2 c.bits 2 = c.bits; exact upd_same _ _ _
theorem belowT {w : World} (n : Nat) : Below w.heap.size w (w.drewN n) := by
  induction n with
  | zero => exact Below.refl _ _
  | succ n ih => exact ih.drew
theorem rows_ntT {n each : Int} {t j : Nat} (hj : j < t) : (rowsN (ntT n each t))[j * 8]? = some (.int .i64 (1 + each * ((j : Int) + 1))) ∧ (rowsN (ntT n each t))[j * 8 + 7]? = some (.int .i64 (n - 1 - (j : Int))) := by
  have hl : j < (ntT n each t).length := by rw [ntT_len]; exact hj
  have e : (ntT n each t)[j] = (1 + each * ((j : Int) + 1), -1, 6, 0, 0, 0, 0, n - 1 - (j : Int)) := by simp [ntT]
  have r0 := rowsN_at (ntT n each t) j 0 hl (by decide)
  have r7 := rowsN_at (ntT n each t) j 7 hl (by decide)
  rw [e] at r0 r7
  exact ⟨r0, r7⟩
/-- Of what is stuck. -/
theorem stuck_T {z nb : Int} (hz : isU z) (hb : 1 ≤ nb ∧ nb ≤ 12) {k : Nat} {p0 pk : Pv} (h0 : (placesF z nb)[0]? = some p0) (hk : (placesF z nb)[k]? = some pk) {each : Nat} (he : each = if 0 < k ∧ versf p0.1 p0.2 ≠ versf pk.1 pk.2 then 3 else 2) :
    Stuck (upd (V0 ⟨nb, 8, 3, 1, 16⟩).f (versf pk.1 pk.2) 1) z nb (versf pk.1 pk.2) each := by
  obtain ⟨hl, hi⟩ := places_isp hz hb
  obtain ⟨s1, s2⟩ := strs_T hl hi h0 hk
  have vk := versf_T (hi pk (List.mem_of_getElem? hk))
  have v0 := versf_T (hi p0 (List.mem_of_getElem? h0))
  refine ⟨?_, upd_same _ _ _, ⟨by omega, by omega⟩, ?_⟩
  · rw [upd_other (by omega)]; exact v0_2 _
  · by_cases c : 0 < k ∧ versf p0.1 p0.2 ≠ versf pk.1 pk.2
    · rw [if_pos c] at he
      exact .inr ⟨he, _, s1 c, ⟨by omega, by omega⟩, by rw [upd_other c.2]; exact v0_T _ (by omega)⟩
    · rw [if_neg c] at he
      exact .inl ⟨he, s2 c⟩
set_option maxHeartbeats 4000000 in
set_option maxRecDepth 100000 in
theorem walk_LooksTries (a0 : ByteArray) (a1 : Int) (a2_0 : Int) (a2_1 : Int) (w : World) (w0 : a0.size ≤ maxLen) (w1 : (Lit.int .u8 a1).wf = true) (w2_0 : (Lit.int .u8 a2_0).wf = true) (w2_1 : (Lit.int .u8 a2_1).wf = true) :
    Calls Try.prog 6 #[.string a0, .int .u8 a1, .agg #[.int .u8 a2_0, .int .u8 a2_1]] w fun e w' => e = .returned (.bool true) ∧ Below w.heap.size w w' := by
  have q1 := bounds_u8 w1
  have q2 := bounds_u8 w2_0
  have q3 := bounds_u8 w2_1
  obtain ⟨tm, htm⟩ : ∃ tm, a2_0.tmod 12 = tm := ⟨_, rfl⟩
  obtain ⟨nb, hn⟩ : ∃ nb, 1 + tm = nb := ⟨_, rfl⟩
  have hnb : 1 ≤ nb ∧ nb ≤ 12 := by rw [Int.tmod_eq_emod_of_nonneg q2.1] at htm; omega
  have y1 : IntKind.i64.wrap a2_0 = a2_0 := IntWalk.i64_in _ (by omega)
  have y2 : IntKind.i64.wrap (1 + tm) = nb := by rw [IntWalk.i64_in _ (by omega)]; exact hn
  have HNB := Lib.hid hnb
  have HQ := Lib.hid (And.intro q1 q3)
  have HK := Lib.hid w0
  clear w0 w1 w2_0 w2_1 q1 q3 hn hnb
  go_enter Try.func6, Try.ntmps6
  go_upto_region 1 with fail
  generalize hW0 : World.alloc w _ = W0
  have b0 : Below w.heap.size w W0 := by rw [← hW0]; exact (Below.refl _ _).alloc (Nat.le_refl _) _
  have z0 : W0.cell? ⟨w.heap.size, 0, none⟩ = some (.int .u8 a2_0) := by rw [← hW0]; exact new_at rfl rfl
  have z1 : W0.cell? ⟨w.heap.size, 1, none⟩ = some (.int .u8 a2_1) := by rw [← hW0]; exact new_at rfl rfl
  have CW := Lib.hid (worldNT nb HNB.out W0)
  obtain ⟨BZ, hBZ⟩ : ∃ B, B = w.heap.size := ⟨_, rfl⟩
  rw [← hBZ] at z0 z1 ⊢
  have HBZ := Lib.hid (And.intro hBZ (show BZ < W0.heap.size by rw [hBZ, ← hW0]; simp))
  have HB0 := Lib.hid b0
  have HZ1 := Lib.hid z1
  clear hW0 b0 hBZ z1
  go_upto_region 2 with (go_at_call 7; ((with_reducible refine CW.out.mono ?_); rintro e w1 ⟨A, rfl, hW, hb1⟩))
  have HW := Lib.hid (hW.g hb1.size)
  have HB1 := Lib.hid hb1
  clear hW hb1 CW y1 y2 htm z0
  by_cases hgr : (2000 : Int) < (a0.size : Int)
  · have d1 : decide ((a0.size : Int) > 2000) = true := decide_eq_true hgr
    have d2 : decide ((2000 : Int) < (a0.size : Int)) = true := decide_eq_true hgr
    have d3 : decide (2000 < a0.size) = true := decide_eq_true (by omega)
    clear hgr
    go_wp2_with (go_at_call 29; refine (lives14 _).mono ?_; rintro e w9 ⟨rfl, hk9⟩; have HK9 := Lib.hid hk9; clear hk9)
    go_ret
    exact ⟨rfl, below_then (below_then HB0.out HB1.out) HK9.out⟩
  have d1 : decide ((a0.size : Int) > 2000) = false := decide_eq_false hgr
  have d2 : decide ((2000 : Int) < (a0.size : Int)) = false := decide_eq_false hgr
  have d3 : decide (2000 < a0.size) = false := decide_eq_false (by omega)
  clear hgr
  go_upto_region 4 with fail
  clear d1 d2 d3
  obtain ⟨z, hz⟩ : ∃ z, hsl a0.data.toList = z := ⟨_, rfl⟩
  have hzu : isU z := hz ▸ hsl_UL _
  have CH := fun W => hash a0 W HK.out
  rw [hz] at CH
  have CH := Lib.hid CH
  have f2 : (V0 ⟨nb, 8, 3, 1, 16⟩).f 2 = nb := v0_2 _
  have CP := Lib.hid (fun W => placesw z nb W hzu.1 (by have := hzu.2; omega) (by have := HNB.out; omega) (by have := HNB.out; omega))
  have hd1 : Below w1.heap.size w1 w1.drew := (Below.refl _ _).drew
  have h1 := HW.out.new hd1
  have c0 : w1.drew.cell? ⟨A.p, 0, none⟩ = some (.pointer (some ⟨A.pc, 0, none⟩)) := by obtain ⟨S, hS, -⟩ := h1; exact hS.box.c0
  have HD := Lib.hid hd1
  clear hd1 h1
  have CK := Lib.hid (fun W (hb : Below w1.heap.size w1 W) => (show Calls Try.prog 12 #[.pointer (some ⟨A.pc, 0, none⟩), .int .u64 2] W fun e w' => e = .returned (.int .u64 nb) ∧ W = w' by
    obtain ⟨S, hS, -⟩ := HW.out.new hb
    have := wpeek hS (a := 2) ⟨by decide, by decide⟩
    rw [f2] at this
    exact this))
  have CB := Lib.hid (fun W (hb : Below w1.heap.size w1 W) => (show W.cell? ⟨A.p, 0, none⟩ = some (.pointer (some ⟨A.pc, 0, none⟩)) by obtain ⟨S, hS, -⟩ := HW.out.new hb; exact hS.box.c0))
  have HZ := Lib.hid (And.intro hz hzu)
  clear hz hzu f2
  go_region_held3 (fun X => X.cell? ⟨A.p, 0, none⟩ = some (.pointer (some ⟨A.pc, 0, none⟩)))
    (first | assumption)
    (first
      | (go_at_call 27; ((with_reducible refine (CH.out _).mono ?_); rintro e w2 ⟨rfl, b2⟩; have b2' := below_then HD.out b2; clear c0 HD; have c0 := CB.out _ b2'; have HD := Lib.hid b2'; clear b2 b2'))
      | (go_at_call 12; ((with_reducible refine (CK.out _ HD.out).mono ?_); rintro e w3 ⟨rfl, rfl⟩))
      | (go_at_call 30; ((with_reducible refine (CP.out _).mono ?_); rintro e w4 ⟨a4, rfl, l4, b4⟩; have b4' := below_then HD.out b4; have HL := Lib.hid (Rb.of_lst (B := w1.heap.size) l4 HD.out.size); clear c0 HD; have c0 := CB.out _ b4'; have HD := Lib.hid b4'; clear b4 b4' l4)))
  have hpi := places_isp HZ.out.2 HNB.out
  generalize hPL : placesF z nb = PL at *
  have HPL := Lib.hid hPL
  obtain ⟨n1, hn1⟩ : ∃ n1, n1 = PL.length := ⟨_, rfl⟩
  rw [← hn1] at hpi HL ⊢
  obtain ⟨g, o, c, hsl, hnc, hcm, hgl, hat⟩ := R0.at_ HL.out hpi.1.1
  injection hsl with e1 e2 e3
  subst e1 e3
  obtain ⟨k, hk⟩ : ∃ k : Nat, a2_1.tmod (n1 : Int) = (k : Int) := ⟨(a2_1.tmod (n1 : Int)).toNat, by rw [Int.toNat_of_nonneg]; exact Int.tmod_nonneg _ HQ.out.2.1⟩
  have hkn : k < n1 := by
    have h1 := Int.tmod_lt_of_pos a2_1 (show (0 : Int) < (n1 : Int) by have := hpi.1.1; omega)
    rw [hk] at h1
    omega
  obtain ⟨pk, hpk⟩ : ∃ x, PL[k]? = some x := ⟨_, List.getElem?_eq_getElem (by omega)⟩
  obtain ⟨p0, hp0⟩ : ∃ x, PL[0]? = some x := ⟨_, List.getElem?_eq_getElem (by omega)⟩
  obtain ⟨pb, pc⟩ := pk
  obtain ⟨ob, oc⟩ := p0
  obtain ⟨r1, r2⟩ := rowsP_two hpk
  obtain ⟨r3, r4⟩ := rowsP_two hp0
  have x1 := hat _ _ r1
  have x2 := hat _ _ r2
  have x3 := hat _ _ r3
  have x4 := hat _ _ r4
  rw [Nat.zero_mul, Nat.add_zero] at x3
  rw [Nat.zero_mul, Nat.zero_add] at x4
  rw [← Nat.add_assoc] at x2
  have hv := versf_T (hpi.2 _ (List.mem_of_getElem? hpk))
  have HX := Lib.hid (And.intro (And.intro x1 x2) (And.intro x3 x4))
  have HV := Lib.hid (And.intro hpk (And.intro hp0 hv))
  have HN := Lib.hid (And.intro hkn (And.intro hpi.1 hgl))
  have h4 := wd_addNT HW.out HD.out
  have z1 : w4.cell? ⟨BZ, 1, none⟩ = some (.int .u8 a2_1) := (HD.out.cell (p := ⟨BZ, 1, none⟩) (Nat.lt_of_lt_of_le HBZ.out.2 HB1.out.size)).trans ((HB1.out.cell (p := ⟨BZ, 1, none⟩) HBZ.out.2).trans HZ1.out)
  have H4 := Lib.hid h4
  have y3 : IntKind.i64.wrap a2_1 = a2_1 := IntWalk.i64_in _ (by have := HQ.out.2; omega)
  have y4 : ((n1 : Int) == 0) = false := by have := hpi.1.1; simp; omega
  have y5 : ¬ ((n1 : Int) = 0) := by have := hpi.1.1; omega
  have y6 : IntKind.i64.wrap (k : Int) = (k : Int) := IntWalk.i64_in _ (by have := hpi.1.2; omega)
  clear hpi hat hnc hcm hgl hpk hp0 r1 r2 r3 r4 h4 c0 x1 x2 x3 x4 hv hPL hn1 CP CH
  go_upto_region 8 with fail
  clear z1 y3 y4 y5 y6 hk
  have x1 := HX.out.1.1
  have x2 := HX.out.1.2
  have i1 : (0 : Int) ≤ (k : Int) := by omega
  have i2 : (k : Int) < (n1 : Int) := by omega
  obtain ⟨x, hx⟩ : ∃ x, x = versf pb pc := ⟨_, rfl⟩
  have hvx : 64 ≤ x ∧ x ≤ 127 := by rw [hx]; exact HV.out.2.2
  have hst : strsF [((pb : Int), (pc : Int))] = [x] := by
    show addS [] (versf pb pc) = [x]
    unfold addS
    rw [← hx, if_neg (by simp; omega)]
    rfl
  have CM : Hid (∀ (T : TypeId) (g0 : Nat), g0 = w4.heap.size → Calls Try.prog 31 #[.slice (some ⟨g0, 0, none⟩) 1 1] (w4.alloc (.cells #[.int .i64 pb, .int .i64 pc] T)) (NwMk (w4.alloc (.cells #[.int .i64 pb, .int .i64 pc] T)) [x])) := Lib.hid (fun T g0 hg0 => by
    have hl : LayP (w4.alloc (.cells #[.int .i64 pb, .int .i64 pc] T)) (some ⟨g0, 0, none⟩) 1 1 [((pb : Int), (pc : Int))] := by
      refine ⟨rfl, fun i b k hx => ⟨g0, 0, rfl, Nat.le_refl _, ?_⟩⟩
      match i, hx with
      | 0, hx => simp at hx; obtain ⟨rfl, rfl⟩ := hx; exact ⟨new_at hg0 rfl, new_at hg0 rfl⟩
      | i + 1, hx => simp at hx
    have := newMark hl (by decide)
    rw [hst] at this
    exact this)
  have CRU := Lib.hid (fun (T : TypeId) (W : World) (q gg : Nat) (v : Value) (hv : MkV W v [x] gg) (ho : Ob W q [v]) (hq : (w4.alloc (.cells #[.int .i64 pb, .int .i64 pc] T)).heap.size ≤ q ∧ q < W.heap.size) (hg : ([x] : List Int) ≠ [] → (w4.alloc (.cells #[.int .i64 pb, .int .i64 pc] T)).heap.size ≤ gg ∧ gg < W.heap.size ∧ gg ≠ q) (hb : Below (w4.alloc (.cells #[.int .i64 pb, .int .i64 pc] T)).heap.size (w4.alloc (.cells #[.int .i64 pb, .int .i64 pc] T)) W) => And.intro (run1T (mw_new (H4.out.new ((Below.refl _ _).alloc (Nat.le_refl _) (.cells #[.int .i64 pb, .int .i64 pc] T))) hv ho hq hg hb) (by show (0 : Int) < 1000000; decide) ⟨by omega, by omega⟩ (v0_T _ (by omega))) (below_then ((Below.refl w4.heap.size w4).alloc (Nat.le_refl _) (.cells #[.int .i64 pb, .int .i64 pc] T)) hb))
  have HXX := Lib.hid (And.intro hx hvx)
  have HKN := Lib.hid hkn
  clear hst hvx hx hkn
  go_upto_region 10 with (first
    | (go_at_call 31; (refine (CM.out _ _ rfl).mono ?_); rintro e w6 ⟨q6, g6, v6, rfl, hv6, ho6, hq6, hg6, hb6⟩; have CR := Lib.hid (CRU.out _ _ _ _ _ hv6 ho6 hq6 hg6 hb6); clear hv6 ho6 hq6 hg6 hb6)
    | (go_at_call 20; (refine CR.out.1.mono ?_); rintro e w7 ⟨rfl, h7, k7⟩; have H7 := Lib.hid h7; have K7 := Lib.hid (Kp.to (Kp.of CR.out.2) k7); clear h7 k7))
  have x1 := K7.out.cell (p := ⟨g, o + k * 2, none⟩) (fun n => n (.inr HN.out.2.2)) HX.out.1.1
  have x2 := K7.out.cell (p := ⟨g, o + k * 2 + 1, none⟩) (fun n => n (.inr HN.out.2.2)) HX.out.1.2
  have x3 := K7.out.cell (p := ⟨g, o, none⟩) (fun n => n (.inr HN.out.2.2)) HX.out.2.1
  have x4 := K7.out.cell (p := ⟨g, o + 1, none⟩) (fun n => n (.inr HN.out.2.2)) HX.out.2.2
  obtain ⟨n, hn⟩ : ∃ n : Nat, a1.tmod 17 = (n : Int) := ⟨(a1.tmod 17).toNat, by rw [Int.toNat_of_nonneg]; exact Int.tmod_nonneg _ HQ.out.1.1⟩
  have hn16 : n ≤ 16 := by
    rw [Int.tmod_eq_emod_of_nonneg HQ.out.1.1] at hn
    omega
  have y1 : IntKind.u8.wrap (n : Int) = (n : Int) := by rw [IntKind.wrap_u8]; omega
  have y2 : IntKind.i64.wrap (n : Int) = (n : Int) := IntWalk.i64_in _ (by omega)
  have HN16 := Lib.hid hn16
  have hkn := HKN.out
  have hn2 := HN.out.2.1
  go_upto_region 12 with fail
  clear hn y1 y2
  have n0 : (0 : Int) ≤ (n : Int) := by omega
  have n16 : (n : Int) ≤ 16 := by omega
  have HW7 := Lib.hid (show ∃ V : Wv, V = (V0 ⟨nb, 8, 3, 1, 16⟩).acc (upd (V0 ⟨nb, 8, 3, 1, 16⟩).f x 1) 4 x 0 1 from ⟨_, rfl⟩)
  clear CM CRU CR CK CB hn16
  rcases (by omega : k = 0 ∨ (k = 1 ∧ n1 = 2)) with hk0 | ⟨hk1, hn1⟩
  · subst hk0
    have d0 : decide ((((0 : Nat) : Int)) > 0) = false := by decide
    have d1 : decide ((0 : Int) < ((0 : Nat) : Int)) = false := by decide
    have HST := Lib.hid (stuck_T (each := 2) HZ.out.2 HNB.out (by rw [HPL.out]; exact HV.out.2.1) (by rw [HPL.out]; exact HV.out.1) (by rw [if_neg (by omega)]))
    go_quiet (fail)
    have HT := Lib.hid (show Below w7.heap.size w7 (w7.drewN nq) from belowT nq)
    generalize hWT : w7.drewN nq = wT at *
    clear hWT x1 x2 x3 x4
    have HT7 := Lib.hid (H7.out.new HT.out)
    go_wp2_with fail
    refine (newLook _ _ _).mono ?_
    rintro e w9 ⟨rfl, o9, b9⟩
    obtain ⟨q9, hq9⟩ : ∃ q, q = wT.heap.size := ⟨_, rfl⟩
    rw [← hq9] at o9 ⊢
    obtain ⟨m, hm⟩ : ∃ m : Nat, m = 2 * (n + 1) := ⟨_, rfl⟩
    have s0 : StT (fun k => k < W0.heap.size ∨ (w1.heap.size ≤ k ∧ k < w4.heap.size)) w9 A q9 a0 (upd (V0 ⟨nb, 8, 3, 1, 16⟩).f x 1) z nb n 2 0 w9 := ⟨_, ⟨rfl, rfl⟩, rfl, Keeps.refl _ _, .inl ⟨0, 0, _, _, ⟨rfl, by decide, Nat.zero_le _⟩, rfl, lkO_first HT7.out o9 (Nat.le_of_eq hq9.symm) b9, ⟨by simp, rfl⟩, .inl ⟨rfl, rfl⟩⟩⟩
    have hst := HST.out
    rw [← HXX.out.1] at hst
    have CR := Lib.hid (lk_run (St := StT (fun k => k < W0.heap.size ∨ (w1.heap.size ≤ k ∧ k < w4.heap.size)) w9 A q9 a0 (upd (V0 ⟨nb, 8, 3, 1, 16⟩).f x 1) z nb n 2) (p := A.p) (q := q9) (m := m) (M := 99) (by have := HN16.out; rw [hm]; omega) (by decide) (by rw [hm]; exact stT_over (by decide)) (fun W h => by rw [hm] at h; obtain ⟨V, X, -, hO, -⟩ := stT_end (by decide) h; exact hO.over) (by rw [hm]; exact stT_step hst HZ.out.1 HZ.out.2 HK.out HN16.out) s0)
    have dm : ((m : Int) != 2 * ((n : Int) + 1)) = false := by rw [hm]; simp
    have HM := Lib.hid hm
    have HB9 := Lib.hid (below_then HT.out b9)
    clear s0 o9 hq9 b9 hst hm
    go_wp2_with fail
    refine CR.out.mono ?_
    rintro e w10 ⟨rfl, h10⟩
    rw [HM.out] at h10
    obtain ⟨V, X, hM, hO, hf, hk10⟩ := stT_end (by decide) h10
    have CF := hO.fails
    rw [hf] at CF
    have CF := Lib.hid CF
    obtain ⟨S, hS, -⟩ := hO.wd
    have c2 := hS.box.c2
    have hML : V.M.length = n := by rw [hM, ntT_len]
    have CN := wncount hS (by rw [hML]; have := HN16.out; omega)
    rw [hML] at CN
    have CN := Lib.hid CN
    have CA := wall hS (by rw [hML]; have := HN16.out; omega)
    rw [hML, hM] at CA
    have CA := Lib.hid CA
    have K10 := Lib.hid hk10
    have dn : ((n : Int) != (n : Int)) = false := by simp
    clear hM hO hf hk10 hS hML h10 CR
    go_upto_region 18 with (first
      | (go_at_call 34; ((with_reducible refine CF.out.mono ?_); rintro e w11 ⟨rfl, rfl⟩))
      | (go_at_call 35; ((with_reducible refine CN.out.mono ?_); rintro e w11 ⟨rfl, rfl⟩))
      | (go_at_call 24; ((with_reducible refine CA.out.mono ?_); rintro e w11 ⟨v11, rfl, l11, b11⟩; obtain ⟨sa, sc, hsl⟩ := lst_slice l11; subst hsl; have HL11 := Lib.hid l11; have HB11 := Lib.hid b11; clear l11 b11)))
    clear c2 dm dn CF CN CA
    go_wp2_with fail
    go_loopw [14] (fun i Y => ∃ j : Nat, j ≤ n ∧ i = .int .i64 j ∧ w11 = Y) (fun i _ => n - (intOf i).toNat)
    case atStart => exact ⟨0, Nat.zero_le _, rfl, rfl⟩
    case round =>
      obtain ⟨j, hj, rfl, rfl⟩ := hrel
      by_cases hlt : j < n
      · obtain ⟨-, ⟨-, h0⟩ | ⟨g11, cap, hsl, -, -, hnc, -, hat⟩⟩ := HL11.out
        · omega
        injection hsl with e1 e2' e3
        subst e1 e3
        obtain ⟨r1, r2⟩ := rows_ntT (n := (n : Int)) (each := ((2 : Nat) : Int)) hlt
        have ys : w11.cell? ⟨g11, j * 8, none⟩ = some (.int .i64 (1 + 2 * ((j : Int) + 1))) := (hat _ _ r1).1
        have yv : w11.cell? ⟨g11, j * 8 + 7, none⟩ = some (.int .i64 ((n : Int) - 1 - (j : Int))) := (hat _ _ r2).1
        have j1 : (0 : Int) ≤ (j : Int) := by omega
        have j2 : (j : Int) < (n : Int) := by omega
        have dv : ((n : Int) - 1 - (j : Int) != (n : Int) - 1 - (j : Int)) = false := by simp
        have ds : (1 + 2 * ((j : Int) + 1) != 1 + 2 * ((j : Int) + 1)) = false := by simp
        clear hat r1 r2
        go_wp2_with fail
        go_roundw
        case rel => exact ⟨j + 1, by omega, by go_num, by first | trivial | rfl⟩
        case measure => simp [intOf]; omega
      · obtain rfl : n = j := by omega
        clear hlt hj
        go_wp2_with (go_at_call 29; refine (lives14 _).mono ?_; rintro e w12 ⟨rfl, hk12⟩; have HK12 := Lib.hid hk12; clear hk12)
        go_ret
        refine ⟨rfl, ?_⟩
        have f : ∀ k, k < w.heap.size → (k < W0.heap.size ∨ (w1.heap.size ≤ k ∧ k < w4.heap.size)) := fun k h => .inl (Nat.lt_of_lt_of_le h HB0.out.size)
        have kk : Kp (fun k => k < w.heap.size) w w12 := Kp.to (Kp.to (Kp.to (Kp.to (Kp.of (below_then (below_then HB0.out HB1.out) HD.out)) (K7.out.less f)) (Kp.of HB9.out)) (K10.out.less f)) (Kp.of (below_then HB11.out HK12.out))
        exact kk.below (Nat.le_refl _)
  · subst hk1
    subst hn1
    have CV := Lib.hid (fun b k W => versw b k W)
    rw [Nat.one_mul] at x1 x2
    have hd : Below w7.heap.size w7 w7.drew := (Below.refl _ _).drew
    have HD7 := Lib.hid hd
    have HXS := Lib.hid (fun (W : World) (hb : Below w7.heap.size w7 W) => (show W.cell? ⟨g, o + 2, none⟩ = some (.int .i64 pb) ∧ W.cell? ⟨g, o + 2 + 1, none⟩ = some (.int .i64 pc) ∧ W.cell? ⟨g, o, none⟩ = some (.int .i64 ob) ∧ W.cell? ⟨g, o + 1, none⟩ = some (.int .i64 oc) from
      ⟨(hb.cell (p := ⟨g, o + 2, none⟩) (World.block_lt_of_cell? _ _ x1)).trans x1, (hb.cell (p := ⟨g, o + 2 + 1, none⟩) (World.block_lt_of_cell? _ _ x2)).trans x2, (hb.cell (p := ⟨g, o, none⟩) (World.block_lt_of_cell? _ _ x3)).trans x3, (hb.cell (p := ⟨g, o + 1, none⟩) (World.block_lt_of_cell? _ _ x4)).trans x4⟩))
    clear x1 x2 x3 x4
    obtain ⟨x1, x2, x3, x4⟩ := HXS.out _ hd
    clear hd
    have hxe := HXX.out.1
    obtain ⟨y, hy⟩ : ∃ y, y = versf ob oc := ⟨_, rfl⟩
    have HY := Lib.hid hy
    by_cases hyx : y = x
    · have d2 : (y != x) = false := by simpa using hyx
      have HST := Lib.hid (stuck_T (each := 2) HZ.out.2 HNB.out (by rw [HPL.out]; exact HV.out.2.1) (by rw [HPL.out]; exact HV.out.1) (by rw [if_neg (by rw [← hy, ← hxe]; exact fun h => h.2 hyx)]))
      clear hyx
      go_region_held3 (fun X => X.cell? ⟨g, o + 2, none⟩ = some (.int .i64 pb) ∧ X.cell? ⟨g, o + 2 + 1, none⟩ = some (.int .i64 pc) ∧ X.cell? ⟨g, o, none⟩ = some (.int .i64 ob) ∧ X.cell? ⟨g, o + 1, none⟩ = some (.int .i64 oc))
        (first | exact ⟨by assumption, by assumption, by assumption, by assumption⟩)
        (first | (go_at_call 32; ((with_reducible refine (CV.out _ _ _).mono ?_); rintro e w8 ⟨rfl, b8⟩; have b8' := below_then HD7.out b8; clear x1 x2 x3 x4 HD7; obtain ⟨x1, x2, x3, x4⟩ := HXS.out _ b8'; have HD7 := Lib.hid b8'; clear b8 b8')))
      rw [← HY.out, ← HXX.out.1]
      have HT := HD7
      clear x1 x2 x3 x4
      have HT7 := Lib.hid (H7.out.new HT.out)
      go_wp2_with fail
      refine (newLook _ _ _).mono ?_
      rintro e w9 ⟨rfl, o9, b9⟩
      obtain ⟨q9, hq9⟩ : ∃ q, q = w8.heap.size := ⟨_, rfl⟩
      rw [← hq9] at o9 ⊢
      obtain ⟨m, hm⟩ : ∃ m : Nat, m = 2 * (n + 1) := ⟨_, rfl⟩
      have s0 : StT (fun k => k < W0.heap.size ∨ (w1.heap.size ≤ k ∧ k < w4.heap.size)) w9 A q9 a0 (upd (V0 ⟨nb, 8, 3, 1, 16⟩).f x 1) z nb n 2 0 w9 := ⟨_, ⟨rfl, rfl⟩, rfl, Keeps.refl _ _, .inl ⟨0, 0, _, _, ⟨rfl, by decide, Nat.zero_le _⟩, rfl, lkO_first HT7.out o9 (Nat.le_of_eq hq9.symm) b9, ⟨by simp, rfl⟩, .inl ⟨rfl, rfl⟩⟩⟩
      have hst := HST.out
      rw [← HXX.out.1] at hst
      have CR := Lib.hid (lk_run (St := StT (fun k => k < W0.heap.size ∨ (w1.heap.size ≤ k ∧ k < w4.heap.size)) w9 A q9 a0 (upd (V0 ⟨nb, 8, 3, 1, 16⟩).f x 1) z nb n 2) (p := A.p) (q := q9) (m := m) (M := 99) (by have := HN16.out; rw [hm]; omega) (by decide) (by rw [hm]; exact stT_over (by decide)) (fun W h => by rw [hm] at h; obtain ⟨V, X, -, hO, -⟩ := stT_end (by decide) h; exact hO.over) (by rw [hm]; exact stT_step hst HZ.out.1 HZ.out.2 HK.out HN16.out) s0)
      have dm : ((m : Int) != 2 * ((n : Int) + 1)) = false := by rw [hm]; simp
      have HM := Lib.hid hm
      have HB9 := Lib.hid (below_then HT.out b9)
      clear s0 o9 hq9 b9 hst hm
      go_wp2_with fail
      refine CR.out.mono ?_
      rintro e w10 ⟨rfl, h10⟩
      rw [HM.out] at h10
      obtain ⟨V, X, hM, hO, hf, hk10⟩ := stT_end (by decide) h10
      have CF := hO.fails
      rw [hf] at CF
      have CF := Lib.hid CF
      obtain ⟨S, hS, -⟩ := hO.wd
      have c2 := hS.box.c2
      have hML : V.M.length = n := by rw [hM, ntT_len]
      have CN := wncount hS (by rw [hML]; have := HN16.out; omega)
      rw [hML] at CN
      have CN := Lib.hid CN
      have CA := wall hS (by rw [hML]; have := HN16.out; omega)
      rw [hML, hM] at CA
      have CA := Lib.hid CA
      have K10 := Lib.hid hk10
      have dn : ((n : Int) != (n : Int)) = false := by simp
      clear hM hO hf hk10 hS hML h10 CR
      go_upto_region 18 with (first
        | (go_at_call 34; ((with_reducible refine CF.out.mono ?_); rintro e w11 ⟨rfl, rfl⟩))
        | (go_at_call 35; ((with_reducible refine CN.out.mono ?_); rintro e w11 ⟨rfl, rfl⟩))
        | (go_at_call 24; ((with_reducible refine CA.out.mono ?_); rintro e w11 ⟨v11, rfl, l11, b11⟩; obtain ⟨sa, sc, hsl⟩ := lst_slice l11; subst hsl; have HL11 := Lib.hid l11; have HB11 := Lib.hid b11; clear l11 b11)))
      clear c2 dm dn CF CN CA
      go_wp2_with fail
      go_loopw [14] (fun i Y => ∃ j : Nat, j ≤ n ∧ i = .int .i64 j ∧ w11 = Y) (fun i _ => n - (intOf i).toNat)
      case atStart => exact ⟨0, Nat.zero_le _, rfl, rfl⟩
      case round =>
        obtain ⟨j, hj, rfl, rfl⟩ := hrel
        by_cases hlt : j < n
        · obtain ⟨-, ⟨-, h0⟩ | ⟨g11, cap, hsl, -, -, hnc, -, hat⟩⟩ := HL11.out
          · omega
          injection hsl with e1 e2' e3
          subst e1 e3
          obtain ⟨r1, r2⟩ := rows_ntT (n := (n : Int)) (each := ((2 : Nat) : Int)) hlt
          have ys : w11.cell? ⟨g11, j * 8, none⟩ = some (.int .i64 (1 + 2 * ((j : Int) + 1))) := (hat _ _ r1).1
          have yv : w11.cell? ⟨g11, j * 8 + 7, none⟩ = some (.int .i64 ((n : Int) - 1 - (j : Int))) := (hat _ _ r2).1
          have j1 : (0 : Int) ≤ (j : Int) := by omega
          have j2 : (j : Int) < (n : Int) := by omega
          have dv : ((n : Int) - 1 - (j : Int) != (n : Int) - 1 - (j : Int)) = false := by simp
          have ds : (1 + 2 * ((j : Int) + 1) != 1 + 2 * ((j : Int) + 1)) = false := by simp
          clear hat r1 r2
          go_wp2_with fail
          go_roundw
          case rel => exact ⟨j + 1, by omega, by go_num, by first | trivial | rfl⟩
          case measure => simp [intOf]; omega
        · obtain rfl : n = j := by omega
          clear hlt hj
          go_wp2_with (go_at_call 29; refine (lives14 _).mono ?_; rintro e w12 ⟨rfl, hk12⟩; have HK12 := Lib.hid hk12; clear hk12)
          go_ret
          refine ⟨rfl, ?_⟩
          have f : ∀ k, k < w.heap.size → (k < W0.heap.size ∨ (w1.heap.size ≤ k ∧ k < w4.heap.size)) := fun k h => .inl (Nat.lt_of_lt_of_le h HB0.out.size)
          have kk : Kp (fun k => k < w.heap.size) w w12 := Kp.to (Kp.to (Kp.to (Kp.to (Kp.of (below_then (below_then HB0.out HB1.out) HD.out)) (K7.out.less f)) (Kp.of HB9.out)) (K10.out.less f)) (Kp.of (below_then HB11.out HK12.out))
          exact kk.below (Nat.le_refl _)
    · have d2 : (y != x) = true := by simpa using hyx
      have HST := Lib.hid (stuck_T (each := 3) HZ.out.2 HNB.out (by rw [HPL.out]; exact HV.out.2.1) (by rw [HPL.out]; exact HV.out.1) (by rw [if_pos ⟨by omega, by rw [← hy, ← hxe]; exact hyx⟩]))
      clear hyx
      go_region_held3 (fun X => X.cell? ⟨g, o + 2, none⟩ = some (.int .i64 pb) ∧ X.cell? ⟨g, o + 2 + 1, none⟩ = some (.int .i64 pc) ∧ X.cell? ⟨g, o, none⟩ = some (.int .i64 ob) ∧ X.cell? ⟨g, o + 1, none⟩ = some (.int .i64 oc))
        (first | exact ⟨by assumption, by assumption, by assumption, by assumption⟩)
        (first | (go_at_call 32; ((with_reducible refine (CV.out _ _ _).mono ?_); rintro e w8 ⟨rfl, b8⟩; have b8' := below_then HD7.out b8; clear x1 x2 x3 x4 HD7; obtain ⟨x1, x2, x3, x4⟩ := HXS.out _ b8'; have HD7 := Lib.hid b8'; clear b8 b8')))
      rw [← HY.out, ← HXX.out.1]
      have HT := HD7
      clear x1 x2 x3 x4
      have HT7 := Lib.hid (H7.out.new HT.out)
      go_wp2_with fail
      refine (newLook _ _ _).mono ?_
      rintro e w9 ⟨rfl, o9, b9⟩
      obtain ⟨q9, hq9⟩ : ∃ q, q = w8.heap.size := ⟨_, rfl⟩
      rw [← hq9] at o9 ⊢
      obtain ⟨m, hm⟩ : ∃ m : Nat, m = 3 * (n + 1) := ⟨_, rfl⟩
      have s0 : StT (fun k => k < W0.heap.size ∨ (w1.heap.size ≤ k ∧ k < w4.heap.size)) w9 A q9 a0 (upd (V0 ⟨nb, 8, 3, 1, 16⟩).f x 1) z nb n 3 0 w9 := ⟨_, ⟨rfl, rfl⟩, rfl, Keeps.refl _ _, .inl ⟨0, 0, _, _, ⟨rfl, by decide, Nat.zero_le _⟩, rfl, lkO_first HT7.out o9 (Nat.le_of_eq hq9.symm) b9, ⟨by simp, rfl⟩, .inl ⟨rfl, rfl⟩⟩⟩
      have hst := HST.out
      rw [← HXX.out.1] at hst
      have CR := Lib.hid (lk_run (St := StT (fun k => k < W0.heap.size ∨ (w1.heap.size ≤ k ∧ k < w4.heap.size)) w9 A q9 a0 (upd (V0 ⟨nb, 8, 3, 1, 16⟩).f x 1) z nb n 3) (p := A.p) (q := q9) (m := m) (M := 99) (by have := HN16.out; rw [hm]; omega) (by decide) (by rw [hm]; exact stT_over (by decide)) (fun W h => by rw [hm] at h; obtain ⟨V, X, -, hO, -⟩ := stT_end (by decide) h; exact hO.over) (by rw [hm]; exact stT_step hst HZ.out.1 HZ.out.2 HK.out HN16.out) s0)
      have dm : ((m : Int) != 3 * ((n : Int) + 1)) = false := by rw [hm]; simp
      have HM := Lib.hid hm
      have HB9 := Lib.hid (below_then HT.out b9)
      clear s0 o9 hq9 b9 hst hm
      go_wp2_with fail
      refine CR.out.mono ?_
      rintro e w10 ⟨rfl, h10⟩
      rw [HM.out] at h10
      obtain ⟨V, X, hM, hO, hf, hk10⟩ := stT_end (by decide) h10
      have CF := hO.fails
      rw [hf] at CF
      have CF := Lib.hid CF
      obtain ⟨S, hS, -⟩ := hO.wd
      have c2 := hS.box.c2
      have hML : V.M.length = n := by rw [hM, ntT_len]
      have CN := wncount hS (by rw [hML]; have := HN16.out; omega)
      rw [hML] at CN
      have CN := Lib.hid CN
      have CA := wall hS (by rw [hML]; have := HN16.out; omega)
      rw [hML, hM] at CA
      have CA := Lib.hid CA
      have K10 := Lib.hid hk10
      have dn : ((n : Int) != (n : Int)) = false := by simp
      clear hM hO hf hk10 hS hML h10 CR
      go_upto_region 18 with (first
        | (go_at_call 34; ((with_reducible refine CF.out.mono ?_); rintro e w11 ⟨rfl, rfl⟩))
        | (go_at_call 35; ((with_reducible refine CN.out.mono ?_); rintro e w11 ⟨rfl, rfl⟩))
        | (go_at_call 24; ((with_reducible refine CA.out.mono ?_); rintro e w11 ⟨v11, rfl, l11, b11⟩; obtain ⟨sa, sc, hsl⟩ := lst_slice l11; subst hsl; have HL11 := Lib.hid l11; have HB11 := Lib.hid b11; clear l11 b11)))
      clear c2 dm dn CF CN CA
      go_wp2_with fail
      go_loopw [14] (fun i Y => ∃ j : Nat, j ≤ n ∧ i = .int .i64 j ∧ w11 = Y) (fun i _ => n - (intOf i).toNat)
      case atStart => exact ⟨0, Nat.zero_le _, rfl, rfl⟩
      case round =>
        obtain ⟨j, hj, rfl, rfl⟩ := hrel
        by_cases hlt : j < n
        · obtain ⟨-, ⟨-, h0⟩ | ⟨g11, cap, hsl, -, -, hnc, -, hat⟩⟩ := HL11.out
          · omega
          injection hsl with e1 e2' e3
          subst e1 e3
          obtain ⟨r1, r2⟩ := rows_ntT (n := (n : Int)) (each := ((3 : Nat) : Int)) hlt
          have ys : w11.cell? ⟨g11, j * 8, none⟩ = some (.int .i64 (1 + 3 * ((j : Int) + 1))) := (hat _ _ r1).1
          have yv : w11.cell? ⟨g11, j * 8 + 7, none⟩ = some (.int .i64 ((n : Int) - 1 - (j : Int))) := (hat _ _ r2).1
          have j1 : (0 : Int) ≤ (j : Int) := by omega
          have j2 : (j : Int) < (n : Int) := by omega
          have dv : ((n : Int) - 1 - (j : Int) != (n : Int) - 1 - (j : Int)) = false := by simp
          have ds : (1 + 3 * ((j : Int) + 1) != 1 + 3 * ((j : Int) + 1)) = false := by simp
          clear hat r1 r2
          go_wp2_with fail
          go_roundw
          case rel => exact ⟨j + 1, by omega, by go_num, by first | trivial | rfl⟩
          case measure => simp [intOf]; omega
        · obtain rfl : n = j := by omega
          clear hlt hj
          go_wp2_with (go_at_call 29; refine (lives14 _).mono ?_; rintro e w12 ⟨rfl, hk12⟩; have HK12 := Lib.hid hk12; clear hk12)
          go_ret
          refine ⟨rfl, ?_⟩
          have f : ∀ k, k < w.heap.size → (k < W0.heap.size ∨ (w1.heap.size ≤ k ∧ k < w4.heap.size)) := fun k h => .inl (Nat.lt_of_lt_of_le h HB0.out.size)
          have kk : Kp (fun k => k < w.heap.size) w w12 := Kp.to (Kp.to (Kp.to (Kp.to (Kp.of (below_then (below_then HB0.out HB1.out) HD.out)) (K7.out.less f)) (Kp.of HB9.out)) (K10.out.less f)) (Kp.of (below_then HB11.out HK12.out))
          exact kk.below (Nat.le_refl _)
end Go.Proofs.Ytepkpbhhiianpaa
