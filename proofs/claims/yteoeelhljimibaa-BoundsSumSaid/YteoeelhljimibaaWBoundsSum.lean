/- BoundsSum: all bounds are the chapter's. -/
import Derived.Test.YteoeelhljimibaaBoS
import Derived.Test.YteoeelhljimibaaBr2
import Derived.BigRegion
import Derived.Deep.RegionHeld
namespace Go.Proofs.Yteoeelhljimibaa
open Go.RowKit Go.Maps Go.Shelf
set_option linter.unusedVariables false

def callsU (V : List UInt8) (k : Nat) : List Cl := (V.take k).map fun x => callV x.toNat
theorem callsU_succ {V : List UInt8} {k : Nat} {x : UInt8} (h : V[k]? = some x) : callsU V (k + 1) = callsU V k ++ [callV x.toNat] := by
  unfold callsU
  rw [List.take_add_one, h]
  simp
theorem callsU_len {V : List UInt8} {k : Nat} (h : k ≤ V.length) : (callsU V k).length = k := by simp [callsU]; omega
theorem callsU_at {V : List UInt8} {k m : Nat} {x : UInt8} (hm : m = V.length) (h : V[k]? = some x) : (callsU V m)[k]? = some (callV x.toNat) := by
  unfold callsU
  rw [hm, List.take_length, List.getElem?_map, h]
  rfl
set_option maxHeartbeats 8000000 in
set_option maxRecDepth 100000 in
theorem walk_BoundsSum (a0_0 : Int) (a0_1 : Int) (a0_2 : Int) (a0_3 : Int) (a0_4 : Int) (a1 : Int) (a2 : Option Addr) (l2 c2 : Nat) (w : World) (w0_0 : (Lit.int .i64 a0_0).wf = true) (w0_1 : (Lit.int .i64 a0_1).wf = true) (w0_2 : (Lit.int .i64 a0_2).wf = true) (w0_3 : (Lit.int .i64 a0_3).wf = true) (w0_4 : (Lit.int .i64 a0_4).wf = true) (w1 : (Lit.int .u8 a1).wf = true) (w2 : Reads Try.prog w 24 (.slice a2 l2 c2)) :
    Calls Try.prog 3 #[.agg #[.int .i64 a0_0, .int .i64 a0_1, .int .i64 a0_2, .int .i64 a0_3, .int .i64 a0_4], .int .u8 a1, .slice a2 l2 c2] w fun e w' => e = .returned (.bool true) ∧ Below w.heap.size w w' := by
  obtain ⟨V, rfl, hVc, hVm, hA2, hrV⟩ := open_by (P := Try.prog) Try.underlying24 (by kernel_rfl) (by kernel_rfl) w2
  obtain ⟨i0, hi, hz0, hz1, hz2⟩ := info_parts info_call
  have HRV := Lib.hid hrV
  unfold maxLen at hVm
  obtain ⟨m, hm⟩ : ∃ m, m = V.length := ⟨_, rfl⟩
  rw [← hm] at hVc ⊢
  have HM := Lib.hid hm
  clear w0_0 w0_1 w0_2 w0_3 w0_4 w1 w2 hA2 hrV hm
  generalize a0_0 = b at *
  generalize a0_1 = u at *
  generalize a0_2 = t at *
  generalize a0_3 = q at *
  generalize a0_4 = y at *
  by_cases h200 : 200 < m
  · have d200 : decide (200 < (m : Int)) = true := decide_eq_true (by omega)
    go_enter Try.func3, Try.ntmps3
    go_wp2_with fail
    refine (lives40 _).mono ?_
    rintro e wz ⟨rfl, hbz⟩
    go_wp2_with fail
    go_ret
    have h1 : Below w.heap.size w (w.alloc (.cells #[.int .i64 b, .int .i64 u, .int .i64 t, .int .i64 q, .int .i64 y] 23)) := (Below.refl _ _).alloc (Nat.le_refl _) _
    exact ⟨rfl, h1.trans (hbz.mono h1.size)⟩
  have d200 : decide (200 < (m : Int)) = false := decide_eq_false (by omega)
  have CO := Lib.hid (other40 b u t q y)
  have hc1 : Cfg (w.alloc (.cells #[.int .i64 b, .int .i64 u, .int .i64 t, .int .i64 q, .int .i64 y] 23)) w.heap.size b u t q y := cfg_new
  have hbl : Below w.heap.size w (w.alloc (.cells #[.int .i64 b, .int .i64 u, .int .i64 t, .int .i64 q, .int .i64 y] 23)) := (Below.refl _ _).alloc (Nat.le_refl _) _
  go_enter Try.func3, Try.ntmps3
  go_upto_region 1 with (fail)
  generalize w.alloc (.cells #[.int .i64 b, .int .i64 u, .int .i64 t, .int .i64 q, .int .i64 y] 23) = W0 at *
  obtain ⟨p, hp⟩ : ∃ p, w.heap.size = p := ⟨_, rfl⟩
  rw [hp] at hc1 ⊢
  have HP := Lib.hid hp
  obtain ⟨f0, f1, f2, f3, f4⟩ := hc1.cells
  have HC1 := Lib.hid hc1
  have HBL := Lib.hid hbl
  clear hc1 hbl hp
  go_upto_region 4 with (go_at_call 8; ((with_reducible refine (CO.out _).mono ?_); rintro e w6 ⟨rfl, hk6⟩; have HC6 := Lib.hid (HC1.out.on hk6); have HB6 := Lib.hid (HBL.out.trans (hk6.mono HBL.out.size)); clear f0 f1 f2 f3 f4 hk6))
  have HC7 := Lib.hid (show Cfs w (w6.alloc (.cells #[.int .i64 b, .int .i64 u, .int .i64 t, .int .i64 q, .int .i64 y] 26)) p w6.heap.size b u t q y u t q y from ⟨HC6.out.on ((Below.refl _ _).alloc (Nat.le_refl _) _), cb_new rfl, HB6.out.alloc HB6.out.size _, HC6.out.lt, by have := HP.out; omega⟩)
  clear HC6 HB6 HBL HC1 CO
  generalize w6.alloc (.cells #[.int .i64 b, .int .i64 u, .int .i64 t, .int .i64 q, .int .i64 y] 26) = W7 at *
  generalize w6.heap.size = p' at *
  go_wp2_with fail
  obtain ⟨B, hB⟩ : ∃ B, B = W7.heap.size := ⟨_, rfl⟩
  have HB0 := Lib.hid (show Bms w W7 p p' b u t q y u t q y B (.slice none 0 0) [] from ⟨HC7.out, World.ownsRow_nil _ _ _ _, by omega, by rw [hB]; exact ⟨HC7.out.base.size, HC7.out.one.lt, HC7.out.two.lt⟩⟩)
  clear HC7 hB
  go_loopw [8, 9] (fun v i wr => ∃ k : Nat, k ≤ m ∧ i = .int .i64 k ∧ Hid (Bms w wr p p' b u t q y u t q y B v (callsU V k))) (fun _ i _ => m - (intOf i).toNat)
  case atStart => exact ⟨0, by omega, rfl, HB0.out⟩
  case round =>
    obtain ⟨k, hk, rfl, hS⟩ := hrel
    by_cases hlt : k < m
    · obtain ⟨x, hx⟩ : ∃ x, V[k]? = some x := ⟨_, List.getElem?_eq_getElem (by have := HM.out; omega)⟩
      obtain ⟨g, off, rfl, hg, hcell⟩ := HRV.out (by have := HM.out; omega)
      have hcx := hcell k (by have := HM.out; omega)
      rw [(List.getElem?_eq_some_iff.mp hx).2] at hcx
      have c0 := (hS.out.cfs.base.cell (p := ⟨g, off + k, none⟩) hg).trans hcx
      have HSU := Lib.hid (callsU_succ hx)
      have hlk : (callsU V k).length = k := callsU_len (by have := HM.out; omega)
      have hrow := hS.out.row
      rw [hlk] at hrow
      have hsz := hS.out.size
      obtain ⟨xv, hxv⟩ : ∃ xv, xv = x.toNat := ⟨_, rfl⟩
      rw [← hxv] at c0 HSU
      clear hcx hcell hx hxv
      go_wp2_with (at_builtin; refine wpList_append_own_at _ rfl (.tmp 24) (.tmp 30) 28 rfl B 33 i0 _ 7 72 Try.underlying28 hi hz0 hz1 hz2 rfl (by decide) u8 k _ rfl (hrow.alloc _) ⟨wr.heap.size, 0, none⟩ 1 1 (callC (callV xv)) rfl rfl ?c1 ?c2 ?c3 ?c4 ?c5 ?_)
      case c1 => intro j u hj; rw [Addr.add_lit, Nat.zero_add]; exact cl_new_at (c := callV xv) rfl j u hj
      case c2 => intro u hu; exact rowsC_one [callV xv] u (by show u ∈ callC (callV xv) ++ []; rw [List.append_nil]; exact hu)
      case c3 => unfold maxLen; omega
      case c4 => omega
      case c5 => simp; omega
      intro v' W11 hown' hgrow _ _
      have happ := hS.out.app (c := callV xv) (by rw [hlk]; exact hown') hgrow
      rw [← HSU.out] at happ
      have HS := Lib.hid happ
      clear happ hrow hown' hgrow hS
      go_wp2_with fail
      go_roundw
      case rel => exact ⟨k + 1, by omega, by go_num, HS.out⟩
      case measure => simp [intOf]; omega
    · have hd : decide (k < m) = false := decide_eq_false hlt
      have hkm : k = m := by omega
      subst hkm
      have hL : (callsU V k).length ≤ 1048576 := by rw [callsU_len (by have := HM.out; omega)]; omega
      have hlk : (callsU V k).length = k := callsU_len (by have := HM.out; omega)
      have hrow := hS.out.row
      rw [hlk] at hrow
      obtain ⟨va, vc, rfl, hvc1, hvc2, -⟩ := row_slice hrow
      unfold maxLen at hvc2
      clear hrow
      obtain ⟨h10, h11, h12, h13, h14, h20, h21, h22, h23, h24⟩ := hS.out.cfs.ten
      have HWC := Lib.hid (windowsw b u t q y (.slice va k vc) (callsU V k) wr (ClR.of_row hS.out.row rfl) hL)
      go_wp2_with fail
      refine HWC.out.mono ?_
      rintro e W12 ⟨rfl, hb⟩
      have HS2 := Lib.hid (hS.out.on hb)
      clear hb HWC hS h10 h11 h12 h13 h14 h20 h21 h22 h23 h24
      have HCM := Lib.hid (show ∀ w, Calls Try.prog 18 #[.agg #[.int .i64 b, .int .i64 u, .int .i64 t, .int .i64 q, .int .i64 y], .slice va k vc] w (fun e w' => e = .returned (.int .i64 (winI b u t q y (callsU V k))) ∧ Below w.heap.size w w') → True from fun _ _ => trivial)
      obtain ⟨nw, hnw⟩ : ∃ nw, nw = winI b u t q y (callsU V k) := ⟨_, rfl⟩
      have HNW := Lib.hid hnw
      rw [← hnw]
      clear hnw HCM
      go_wp2_with fail
      go_loopw [11] (fun i wr => ∃ j : Nat, j ≤ k ∧ i = .int .i64 j ∧ Hid (Bms w wr p p' b u t q y u t q y B (.slice va k vc) (callsU V k))) (fun i _ => k - (intOf i).toNat)
      case atStart => exact ⟨0, by omega, rfl, HS2.out⟩
      case round =>
        obtain ⟨j, hj, rfl, hS⟩ := hrel
        by_cases hlt2 : j < k
        · obtain ⟨x, hx⟩ : ∃ x, V[j]? = some x := ⟨_, List.getElem?_eq_getElem (by have := HM.out; omega)⟩
          obtain ⟨g, off, rfl, hg, hcell⟩ := HRV.out (by have := HM.out; omega)
          have hcx := hcell j (by have := HM.out; omega)
          rw [(List.getElem?_eq_some_iff.mp hx).2] at hcx
          have c0 := (hS.out.cfs.base.cell (p := ⟨g, off + j, none⟩) hg).trans hcx
          obtain ⟨gv, e, hgv, hcl⟩ := cl_cells (ClR.of_row hS.out.row rfl) (callsU_at HM.out hx)
          subst e
          have r0 := hcl 0 _ rfl; have r1 := hcl 1 _ rfl; have r2 := hcl 2 _ rfl; have r3 := hcl 3 _ rfl; have r4 := hcl 4 _ rfl; have r5 := hcl 5 _ rfl; have r6 := hcl 6 _ rfl
          obtain ⟨xv, hxv⟩ : ∃ xv, xv = x.toNat := ⟨_, rfl⟩
          rw [← hxv] at c0 r0 r1 r2 r3 r4 r5 r6
          simp only [callV, Nat.add_zero] at r0 r1 r2 r3 r4 r5 r6
          clear hcl hcx hcell hx hxv
          go_wp2_with fail
          go_quiet (fail)
          clear r0 r1 r2 r3 r4 r5 r6 c0
          go_wp2
          go_roundw
          case rel => exact ⟨j + 1, by omega, by go_num, hS.out.on (belowNf (Below.refl _ _) _)⟩
          case measure => simp [intOf]; omega
        · have hd2 : decide (j < k) = false := decide_eq_false hlt2
          have CR := Lib.hid (fun X => roomw40 b u t q y X)
          have CT := Lib.hid (fun X => turnw40 b u t q y X)
          have CE := Lib.hid (fun X => evictw40 b u t q y X)
          have CS := Lib.hid (fun X => stepsw40 b u t q y a1 X)
          have DR := Lib.hid (fun X => rroomw b u t q y X)
          have DT := Lib.hid (fun X => rturnw b u t q y X)
          have DE := Lib.hid (fun X => revictw b u t q y X)
          have DS := Lib.hid (fun X => rstepsw b u t q y a1 X)
          generalize ofI 0 b u t q y = r0 at *
          generalize ofI 1 b u t q y = r1 at *
          generalize ofI 2 b u t q y = r2 at *
          generalize stepsI b u t q y a1 = r3 at *
          have DW := Lib.hid (fun X (h : ClR X (.slice va k vc) (callsU V k)) => rwindowsw b u t q y (.slice va k vc) (callsU V k) X h hL)
          rw [← HNW.out] at DW
          go_upto_region 15 with (fail)
          have HC := Lib.hid hS.out
          have hs := HC.out.cfs.ten
          have hsd : wr.drew.cell? ⟨p, 0, none⟩ = some (.int .i64 b) ∧ wr.drew.cell? ⟨p, 1, none⟩ = some (.int .i64 u) ∧ wr.drew.cell? ⟨p, 2, none⟩ = some (.int .i64 t) ∧ wr.drew.cell? ⟨p, 3, none⟩ = some (.int .i64 q) ∧ wr.drew.cell? ⟨p, 4, none⟩ = some (.int .i64 y) ∧ wr.drew.cell? ⟨p', 0, none⟩ = some (.int .i64 b) ∧ wr.drew.cell? ⟨p', 1, none⟩ = some (.int .i64 u) ∧ wr.drew.cell? ⟨p', 2, none⟩ = some (.int .i64 t) ∧ wr.drew.cell? ⟨p', 3, none⟩ = some (.int .i64 q) ∧ wr.drew.cell? ⟨p', 4, none⟩ = some (.int .i64 y) := hs
          go_region_held3 (fun X => X.cell? ⟨p, 0, none⟩ = some (.int .i64 b) ∧ X.cell? ⟨p, 1, none⟩ = some (.int .i64 u) ∧ X.cell? ⟨p, 2, none⟩ = some (.int .i64 t) ∧ X.cell? ⟨p, 3, none⟩ = some (.int .i64 q) ∧ X.cell? ⟨p, 4, none⟩ = some (.int .i64 y) ∧ X.cell? ⟨p', 0, none⟩ = some (.int .i64 b) ∧ X.cell? ⟨p', 1, none⟩ = some (.int .i64 u) ∧ X.cell? ⟨p', 2, none⟩ = some (.int .i64 t) ∧ X.cell? ⟨p', 3, none⟩ = some (.int .i64 q) ∧ X.cell? ⟨p', 4, none⟩ = some (.int .i64 y))
            (first | with_reducible exact hs | with_reducible exact hsd | assumption)
            (first
        | (go_at_call 10; ((with_reducible refine (CR.out _).mono ?_); rintro e w1 ⟨rfl, hb⟩; have HC := Lib.hid (by first | exact HC.out.on hb | exact HC.out.drew.on hb : Bms w w1 p p' b u t q y u t q y B (.slice va k vc) (callsU V k)); have hs := HC.out.cfs.ten; clear hb))
        | (go_at_call 12; ((with_reducible refine (CT.out _).mono ?_); rintro e w1 ⟨rfl, hb⟩; have HC := Lib.hid (by first | exact HC.out.on hb | exact HC.out.drew.on hb : Bms w w1 p p' b u t q y u t q y B (.slice va k vc) (callsU V k)); have hs := HC.out.cfs.ten; clear hb))
        | (go_at_call 14; ((with_reducible refine (CE.out _).mono ?_); rintro e w1 ⟨rfl, hb⟩; have HC := Lib.hid (by first | exact HC.out.on hb | exact HC.out.drew.on hb : Bms w w1 p p' b u t q y u t q y B (.slice va k vc) (callsU V k)); have hs := HC.out.cfs.ten; clear hb))
        | (go_at_call 16; ((with_reducible refine (CS.out _).mono ?_); rintro e w1 ⟨rfl, hb⟩; have HC := Lib.hid (by first | exact HC.out.on hb | exact HC.out.drew.on hb : Bms w w1 p p' b u t q y u t q y B (.slice va k vc) (callsU V k)); have hs := HC.out.cfs.ten; clear hb))
        | (go_at_call 11; ((with_reducible refine (DR.out _).mono ?_); rintro e w1 ⟨rfl, hb⟩; have HC := Lib.hid (by first | exact HC.out.on hb | exact HC.out.drew.on hb : Bms w w1 p p' b u t q y u t q y B (.slice va k vc) (callsU V k)); have hs := HC.out.cfs.ten; clear hb))
        | (go_at_call 13; ((with_reducible refine (DT.out _).mono ?_); rintro e w1 ⟨rfl, hb⟩; have HC := Lib.hid (by first | exact HC.out.on hb | exact HC.out.drew.on hb : Bms w w1 p p' b u t q y u t q y B (.slice va k vc) (callsU V k)); have hs := HC.out.cfs.ten; clear hb))
        | (go_at_call 15; ((with_reducible refine (DE.out _).mono ?_); rintro e w1 ⟨rfl, hb⟩; have HC := Lib.hid (by first | exact HC.out.on hb | exact HC.out.drew.on hb : Bms w w1 p p' b u t q y u t q y B (.slice va k vc) (callsU V k)); have hs := HC.out.cfs.ten; clear hb))
        | (go_at_call 17; ((with_reducible refine (DS.out _).mono ?_); rintro e w1 ⟨rfl, hb⟩; have HC := Lib.hid (by first | exact HC.out.on hb | exact HC.out.drew.on hb : Bms w w1 p p' b u t q y u t q y B (.slice va k vc) (callsU V k)); have hs := HC.out.cfs.ten; clear hb))
        | (go_at_call 18; ((first | refine (DW.out _ (ClR.of_row HC.out.row rfl)).mono ?_ | refine (DW.out _ (ClR.of_row HC.out.drew.row rfl)).mono ?_); rintro e w1 ⟨rfl, hb⟩; have HC := Lib.hid (by first | exact HC.out.on hb | exact HC.out.drew.on hb : Bms w w1 p p' b u t q y u t q y B (.slice va k vc) (callsU V k)); have hs := HC.out.cfs.ten; clear hb))
        | (go_at_call 7; ((refine (lives40 _).mono ?_); rintro e w1 ⟨rfl, hb⟩; have HC := Lib.hid (by first | exact HC.out.on hb | exact HC.out.drew.on hb : Bms w w1 p p' b u t q y u t q y B (.slice va k vc) (callsU V k)); have hs := HC.out.cfs.ten; clear hb)))
          all_goals
            go_wp2_with fail
            go_ret
            exact ⟨rfl, by first | exact HC.out.cfs.base | exact HC.out.cfs.base.drew⟩
end Go.Proofs.Yteoeelhljimibaa
