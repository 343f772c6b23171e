/- The chapter's bounds: Steps, Windows. -/
import Derived.Test.YteoeelhljimibaaBr
import Derived.StillTailTactics
namespace Go.Proofs.Yteoeelhljimibaa
open Go.RowKit Go.Maps
set_option linter.unusedVariables false

theorem stepsI_no {b u t q y v : Int} (h : mayc b u t q y = false) : stepsI b u t q y v = 0 := by
  unfold stepsI
  split
  · exact ofI_no _ h
  · rfl
theorem Cfg.drew {W : World} {p : Nat} {b u t q y : Int} (h : Cfg W p b u t q y) : Cfg W.drew p b u t q y := h.on (Below.refl _ _).drew
set_option maxHeartbeats 8000000 in
set_option maxRecDepth 100000 in
theorem rstepsw (b u t q y v : Int) (w : World) : Calls Try.prog 17 #[.agg #[.int .i64 b, .int .i64 u, .int .i64 t, .int .i64 q, .int .i64 y], .int .u8 v] w fun e w' => e = .returned (.int .i64 (stepsI b u t q y v)) ∧ Below w.heap.size w w' := by
  have CM := Lib.hid (rmay40 b u t q y)
  have CR := Lib.hid (rroomw b u t q y)
  have CT := Lib.hid (rturnw b u t q y)
  have CE := Lib.hid (revictw b u t q y)
  have HC := Lib.hid (cfg_new (w := w) (b := b) (u := u) (t := t) (q := q) (y := y) (T := 26))
  have hbl : Below w.heap.size w (w.alloc (.cells #[.int .i64 b, .int .i64 u, .int .i64 t, .int .i64 q, .int .i64 y] 26)) := (Below.refl _ _).alloc (Nat.le_refl _) _
  have HB := Lib.hid hbl
  clear hbl
  cases hm : mayc b u t q y with
  | false =>
    rw [hm] at CM
    have HE := Lib.hid (stepsI_no (v := v) hm)
    go_enter Try.func17, Try.ntmps17
    go_wp2_with (go_at_call 23; ((with_reducible refine (CM.out _).mono ?_); rintro e w6 ⟨rfl, hk6⟩))
    go_ret
    exact ⟨by rw [HE.out]; rfl, HB.out.trans (hk6.mono HB.out.size)⟩
  | true =>
    rw [hm] at CM
    unfold mayc at hm
    have hmay := of_decide_eq_true hm
    obtain ⟨a0, a1, a2, a3, a4, a5, a6⟩ := ofI_form hmay
    have bd0 := ofI_bd 0 b u t q y
    have bd1 := ofI_bd 1 b u t q y
    have bd2 := ofI_bd 2 b u t q y
    obtain ⟨b1, b2, u1, u2, t1, t2, q1, q2, y1, y2⟩ := hmay
    obtain ⟨r, hr⟩ : ∃ r, r = ofI 0 b u t q y := ⟨_, rfl⟩
    obtain ⟨n, hn⟩ : ∃ n, n = ofI 1 b u t q y := ⟨_, rfl⟩
    obtain ⟨x, hx⟩ : ∃ x, x = ofI 2 b u t q y := ⟨_, rfl⟩
    have H3 := Lib.hid a3
    have H4 := Lib.hid (show ofI 4 b u t q y = 66 + n + x + r + r by rw [a4, hn, hx, hr, a0, a1, a2]; omega)
    have H5 := Lib.hid (show ofI 5 b u t q y = 31 + n by rw [a5, hn, a1]; omega)
    have H6 := Lib.hid a6
    rw [← hr] at CR bd0
    rw [← hn] at CT bd1
    rw [← hx] at CE bd2
    clear a0 a1 a2 a3 a4 a5 a6 hm hr hn hx
    by_cases hv : 1 ≤ v ∧ v ≤ 11
    · rcases (by omega : (v = 1 ∨ v = 2) ∨ (v = 3 ∨ v = 4 ∨ v = 5 ∨ v = 6) ∨ (v = 7 ∨ v = 8 ∨ v = 9 ∨ v = 10) ∨ v = 11) with h | h | h | h
      · have HE := Lib.hid (show stepsI b u t q y v = 31 * t + 59 by unfold stepsI stepsK; rw [if_pos h]; show ofI 3 b u t q y = _; rw [H3.out]; omega)
        have hw1 : IntKind.i64.wrap (31 * t) = 31 * t := IntWalk.i64_in _ (by omega)
        have hw2 : IntKind.i64.wrap (31 * t + 59) = 31 * t + 59 := IntWalk.i64_in _ (by omega)
        rcases h with rfl | rfl
        all_goals
          go_enter Try.func17, Try.ntmps17
          go_wp2_with (go_at_call 23; ((with_reducible refine (CM.out _).mono ?_); rintro e w6 ⟨rfl, hk6⟩; obtain ⟨⟨f0, f1, f2, f3, f4⟩, -⟩ := HC.out.on hk6))
          go_ret
          exact ⟨by rw [HE.out]; rfl, HB.out.trans (hk6.mono HB.out.size)⟩
      · have HE := Lib.hid (show stepsI b u t q y v = 66 + n + x + r + r by unfold stepsI stepsK; rw [if_neg (by omega), if_pos h]; exact H4.out)
        have hw1 : IntKind.i64.wrap (66 + n) = 66 + n := IntWalk.i64_in _ (by omega)
        have hw2 : IntKind.i64.wrap (66 + n + x) = 66 + n + x := IntWalk.i64_in _ (by omega)
        have hw3 : IntKind.i64.wrap (66 + n + x + r) = 66 + n + x + r := IntWalk.i64_in _ (by omega)
        have hw4 : IntKind.i64.wrap (66 + n + x + r + r) = 66 + n + x + r + r := IntWalk.i64_in _ (by omega)
        rcases h with rfl | rfl | rfl | rfl
        all_goals
          go_enter Try.func17, Try.ntmps17
          go_upto_region 11 with (go_at_call 23; ((with_reducible refine (CM.out _).mono ?_); rintro e w6 ⟨rfl, hk6⟩; have HC := Lib.hid (And.intro (HC.out.on hk6) (HB.out.trans (hk6.mono HB.out.size)))))
          have hs := HC.out.1.cells
          have hsd : w6.drew.cell? ⟨w.heap.size, 0, none⟩ = some (.int .i64 b) ∧ w6.drew.cell? ⟨w.heap.size, 1, none⟩ = some (.int .i64 u) ∧ w6.drew.cell? ⟨w.heap.size, 2, none⟩ = some (.int .i64 t) ∧ w6.drew.cell? ⟨w.heap.size, 3, none⟩ = some (.int .i64 q) ∧ w6.drew.cell? ⟨w.heap.size, 4, none⟩ = some (.int .i64 y) := hs
          go_region_held3 (fun X => X.cell? ⟨w.heap.size, 0, none⟩ = some (.int .i64 b) ∧ X.cell? ⟨w.heap.size, 1, none⟩ = some (.int .i64 u) ∧ X.cell? ⟨w.heap.size, 2, none⟩ = some (.int .i64 t) ∧ X.cell? ⟨w.heap.size, 3, none⟩ = some (.int .i64 q) ∧ X.cell? ⟨w.heap.size, 4, none⟩ = some (.int .i64 y))
            (first | with_reducible exact hs | with_reducible exact hsd | assumption)
            (first
              | (go_at_call 11; ((with_reducible refine (CR.out _).mono ?_); rintro e w1 ⟨rfl, hb⟩; have HC := Lib.hid (by first | exact And.intro (HC.out.1.on hb) (HC.out.2.trans (hb.mono HC.out.2.size)) | exact And.intro (HC.out.1.drew.on hb) (HC.out.2.drew.trans (hb.mono HC.out.2.size)) : Cfg w1 w.heap.size b u t q y ∧ Below w.heap.size w w1); have hs := HC.out.1.cells; clear hb))
              | (go_at_call 13; ((with_reducible refine (CT.out _).mono ?_); rintro e w1 ⟨rfl, hb⟩; have HC := Lib.hid (by first | exact And.intro (HC.out.1.on hb) (HC.out.2.trans (hb.mono HC.out.2.size)) | exact And.intro (HC.out.1.drew.on hb) (HC.out.2.drew.trans (hb.mono HC.out.2.size)) : Cfg w1 w.heap.size b u t q y ∧ Below w.heap.size w w1); have hs := HC.out.1.cells; clear hb))
              | (go_at_call 15; ((with_reducible refine (CE.out _).mono ?_); rintro e w1 ⟨rfl, hb⟩; have HC := Lib.hid (by first | exact And.intro (HC.out.1.on hb) (HC.out.2.trans (hb.mono HC.out.2.size)) | exact And.intro (HC.out.1.drew.on hb) (HC.out.2.drew.trans (hb.mono HC.out.2.size)) : Cfg w1 w.heap.size b u t q y ∧ Below w.heap.size w w1); have hs := HC.out.1.cells; clear hb)))
          all_goals
            go_wp2_with fail
            go_ret
            exact ⟨by rw [HE.out]; rfl, by first | exact HC.out.2 | exact HC.out.2.drew⟩
      · have HE := Lib.hid (show stepsI b u t q y v = 31 + n by unfold stepsI stepsK; rw [if_neg (by omega), if_neg (by omega), if_pos h]; exact H5.out)
        have hw1 : IntKind.i64.wrap (31 + n) = 31 + n := IntWalk.i64_in _ (by omega)
        rcases h with rfl | rfl | rfl | rfl
        all_goals
          go_enter Try.func17, Try.ntmps17
          go_wp2_with (first
            | (go_at_call 23; ((with_reducible refine (CM.out _).mono ?_); rintro e w6 ⟨rfl, hk6⟩; obtain ⟨⟨f0, f1, f2, f3, f4⟩, -⟩ := HC.out.on hk6; have HC6 := Lib.hid (HB.out.trans (hk6.mono HB.out.size))))
            | (go_at_call 13; ((with_reducible refine (CT.out _).mono ?_); rintro e w7 ⟨rfl, hk7⟩)))
          go_ret
          exact ⟨by rw [HE.out]; rfl, HC6.out.trans (hk7.mono HC6.out.size)⟩
      · subst h
        have HE := Lib.hid (show stepsI b u t q y 11 = 4 from H6.out)
        go_enter Try.func17, Try.ntmps17
        go_wp2_with (go_at_call 23; ((with_reducible refine (CM.out _).mono ?_); rintro e w6 ⟨rfl, hk6⟩))
        go_ret
        exact ⟨by rw [HE.out]; rfl, HB.out.trans (hk6.mono HB.out.size)⟩
    · have HE := Lib.hid (show stepsI b u t q y v = 0 by unfold stepsI stepsK; rw [if_neg (by omega), if_neg (by omega), if_neg (by omega), if_neg (by omega)])
      have d1 : (v == 1) = false := beq_eq_false_iff_ne.mpr (by omega)
      have d2 : (v == 2) = false := beq_eq_false_iff_ne.mpr (by omega)
      have d3 : (v == 3) = false := beq_eq_false_iff_ne.mpr (by omega)
      have d4 : (v == 4) = false := beq_eq_false_iff_ne.mpr (by omega)
      have d5 : (v == 5) = false := beq_eq_false_iff_ne.mpr (by omega)
      have d6 : (v == 6) = false := beq_eq_false_iff_ne.mpr (by omega)
      have d7 : (v == 7) = false := beq_eq_false_iff_ne.mpr (by omega)
      have d8 : (v == 8) = false := beq_eq_false_iff_ne.mpr (by omega)
      have d9 : (v == 9) = false := beq_eq_false_iff_ne.mpr (by omega)
      have d10 : (v == 10) = false := beq_eq_false_iff_ne.mpr (by omega)
      have d11 : (v == 11) = false := beq_eq_false_iff_ne.mpr (by omega)
      clear hv
      go_enter Try.func17, Try.ntmps17
      go_wp2_with (go_at_call 23; ((with_reducible refine (CM.out _).mono ?_); rintro e w6 ⟨rfl, hk6⟩))
      go_ret
      exact ⟨by rw [HE.out]; rfl, HB.out.trans (hk6.mono HB.out.size)⟩
set_option maxHeartbeats 2000000 in
set_option maxRecDepth 100000 in
theorem rwindowsw (b u t q y : Int) (v : Value) (l : List Cl) (w : World) (h : ClR w v l) (hn : l.length ≤ 1048576) : Calls Try.prog 18 #[.agg #[.int .i64 b, .int .i64 u, .int .i64 t, .int .i64 q, .int .i64 y], v] w fun e w' => e = .returned (.int .i64 (winI b u t q y l)) ∧ Below w.heap.size w w' := by
  have HR := Lib.hid h
  obtain ⟨A, c, rfl, hlc, hcm, -, -⟩ := h.form
  unfold maxLen at hcm
  obtain ⟨n, hnn⟩ : ∃ n, n = l.length := ⟨_, rfl⟩
  rw [← hnn] at hn hlc ⊢
  rw [← hnn] at HR
  have HN := Lib.hid hnn
  have HST := Lib.hid (rstepsw b u t q y)
  have HC := Lib.hid (cfg_new (w := w) (b := b) (u := u) (t := t) (q := q) (y := y) (T := 26))
  have hbl : Below w.heap.size w (w.alloc (.cells #[.int .i64 b, .int .i64 u, .int .i64 t, .int .i64 q, .int .i64 y] 26)) := (Below.refl _ _).alloc (Nat.le_refl _) _
  have HB := Lib.hid hbl
  clear h hnn hbl
  go_enter Try.func18, Try.ntmps18
  go_wp2_with fail
  go_loopw [5, 6] (fun s i wr => ∃ k : Nat, k ≤ n ∧ i = .int .i64 k ∧ s = .int .i64 (winI b u t q y (l.take k)) ∧ Hid (Cfg wr w.heap.size b u t q y ∧ Below w.heap.size w wr)) (fun _ i _ => n - (intOf i).toNat)
  case atStart => exact ⟨0, by omega, rfl, rfl, HC.out, HB.out⟩
  case round =>
    obtain ⟨k, hk, rfl, rfl, hS⟩ := hrel
    by_cases hlt : k < n
    · obtain ⟨x, hx⟩ : ∃ x, l[k]? = some x := ⟨_, List.getElem?_eq_getElem (by have := HN.out; omega)⟩
      obtain ⟨g, rfl, hg, hc⟩ := cl_cells (HR.out.on hS.out.2) hx
      have r0 := hc 0 _ rfl
      simp only [Nat.add_zero] at r0
      have hb := winI_bd b u t q y (l.take k)
      have hb2 := stepsI_bd b u t q y x.verb
      have hlk : (l.take k).length = k := by rw [List.length_take]; have := HN.out; omega
      rw [hlk] at hb
      obtain ⟨s, hs⟩ : ∃ s, winI b u t q y (l.take k) = s := ⟨_, rfl⟩
      obtain ⟨d, hd⟩ : ∃ d, stepsI b u t q y x.verb = d := ⟨_, rfl⟩
      have HE := Lib.hid (show winI b u t q y (l.take (k + 1)) = s + d by rw [winI_take hx, hs, hd])
      have HSV := Lib.hid (HST.out (x.verb : Int))
      rw [hd] at HSV hb2
      rw [hs] at hb ⊢
      have hw2 : IntKind.i64.wrap (s + d) = s + d := IntWalk.i64_in _ (by omega)
      obtain ⟨⟨f0, f1, f2, f3, f4⟩, -⟩ := hS.out.1
      have hN2 : n ≤ 9223372036854775807 := by omega
      clear hc hs hd hlk hb hb2 hx
      go_upto_region 5 with (fail)
      have hs : wr.cell? ⟨w.heap.size, 0, none⟩ = some (.int .i64 b) ∧ wr.cell? ⟨w.heap.size, 1, none⟩ = some (.int .i64 u) ∧ wr.cell? ⟨w.heap.size, 2, none⟩ = some (.int .i64 t) ∧ wr.cell? ⟨w.heap.size, 3, none⟩ = some (.int .i64 q) ∧ wr.cell? ⟨w.heap.size, 4, none⟩ = some (.int .i64 y) ∧ wr.cell? ⟨g, k * 7, none⟩ = some (.int .u8 (x.verb : Nat)) := ⟨f0, f1, f2, f3, f4, r0⟩
      have hsd : wr.drew.cell? ⟨w.heap.size, 0, none⟩ = some (.int .i64 b) ∧ wr.drew.cell? ⟨w.heap.size, 1, none⟩ = some (.int .i64 u) ∧ wr.drew.cell? ⟨w.heap.size, 2, none⟩ = some (.int .i64 t) ∧ wr.drew.cell? ⟨w.heap.size, 3, none⟩ = some (.int .i64 q) ∧ wr.drew.cell? ⟨w.heap.size, 4, none⟩ = some (.int .i64 y) ∧ wr.drew.cell? ⟨g, k * 7, none⟩ = some (.int .u8 (x.verb : Nat)) := hs
      have HS := Lib.hid hS.out
      go_region_held3 (fun X => X.cell? ⟨w.heap.size, 0, none⟩ = some (.int .i64 b) ∧ X.cell? ⟨w.heap.size, 1, none⟩ = some (.int .i64 u) ∧ X.cell? ⟨w.heap.size, 2, none⟩ = some (.int .i64 t) ∧ X.cell? ⟨w.heap.size, 3, none⟩ = some (.int .i64 q) ∧ X.cell? ⟨w.heap.size, 4, none⟩ = some (.int .i64 y) ∧ X.cell? ⟨g, k * 7, none⟩ = some (.int .u8 (x.verb : Nat)))
        (first | with_reducible exact hs | with_reducible exact hsd | assumption)
        (first
          | (go_at_call 17; ((with_reducible refine (HSV.out _).mono ?_); rintro e w1 ⟨rfl, hb⟩; have HS := Lib.hid (by first | exact And.intro (HS.out.1.on hb) (HS.out.2.trans (hb.mono HS.out.2.size)) | exact And.intro (HS.out.1.drew.on hb) (HS.out.2.drew.trans (hb.mono HS.out.2.size)) : Cfg w1 w.heap.size b u t q y ∧ Below w.heap.size w w1); have hs : w1.cell? ⟨w.heap.size, 0, none⟩ = some (.int .i64 b) ∧ w1.cell? ⟨w.heap.size, 1, none⟩ = some (.int .i64 u) ∧ w1.cell? ⟨w.heap.size, 2, none⟩ = some (.int .i64 t) ∧ w1.cell? ⟨w.heap.size, 3, none⟩ = some (.int .i64 q) ∧ w1.cell? ⟨w.heap.size, 4, none⟩ = some (.int .i64 y) ∧ w1.cell? ⟨g, k * 7, none⟩ = some (.int .u8 (x.verb : Nat)) := (by obtain ⟨⟨a0, a1, a2, a3, a4⟩, -⟩ := HS.out.1; exact ⟨a0, a1, a2, a3, a4, (hb.cell (p := ⟨g, k * 7, none⟩) hg).trans r0⟩); clear hb)))
      all_goals
        go_wp2_with fail
        go_roundw
        case rel => exact ⟨k + 1, by omega, by go_num, by rw [HE.out], by first | exact HS.out | exact And.intro HS.out.1.drew HS.out.2.drew⟩
        case measure => simp [intOf]; omega
    · have hkn : k = n := by omega
      subst hkn
      have HE := Lib.hid (show winI b u t q y (l.take k) = winI b u t q y l by rw [HN.out, List.take_length])
      go_wp2_with fail
      go_ret
      exact ⟨by rw [HE.out]; rfl, hS.out.2⟩
end Go.Proofs.Yteoeelhljimibaa
