/- LinesBack: the walk. Printed by tools/genlb.py. -/
import Derived.Test.YtifbcejekdhnlaaDoorGLl
import Derived.BigRegion
import Derived.Deep.RegionHeld
namespace Go.Proofs.YtifbcejekdhnlaaDoor
open Go.RowKit Go.Maps
set_option linter.unusedVariables false

set_option maxHeartbeats 8000000 in
set_option maxRecDepth 100000 in
theorem walk_LinesBack (a0 : ByteArray) (a1_0 : Int) (A : Option Addr) (n cap : Nat) (a1_2 : Int) (ky : ByteArray) (vl : ByteArray) (fl : Int) (ex : Int) (id : Int) (by_ : Int) (bt : Int) (qt : Bool) (w : World) (w0 : a0.size ≤ maxLen) (w1_0 : (Lit.int .u8 a1_0).wf = true) (w1_1 : Reads Tryd.prog w 24 (.slice A n cap)) (w1_2 : (Lit.int .u8 a1_2).wf = true) (w1_3 : ky.size ≤ maxLen) (w1_4 : vl.size ≤ maxLen) (w1_5 : (Lit.int .u32 fl).wf = true) (w1_6 : (Lit.int .i64 ex).wf = true) (w1_7 : (Lit.int .u64 id).wf = true) (w1_8 : (Lit.int .u64 by_).wf = true) (w1_9 : (Lit.int .i64 bt).wf = true) (htab : Lib.TabIs Tryd.prog w "internal/strconv.uint64pow10" .u64 Lib.pow10Tab) :
    Calls Tryd.prog 5 #[.string a0, .agg #[.int .u8 a1_0, .slice A n cap, .int .u8 a1_2, .string ky, .string vl, .int .u32 fl, .int .i64 ex, .int .u64 id, .int .u64 by_, .int .i64 bt, .bool qt]] w fun e w' => e = .returned (.bool true) ∧ Below w.heap.size w w' := by
  obtain ⟨p0, p1⟩ := bounds_u8 w1_0
  obtain ⟨p2, p3⟩ := bounds_u8 w1_2
  obtain ⟨vb, rfl⟩ : ∃ vb : Nat, a1_0 = vb := ⟨a1_0.toNat, by omega⟩
  obtain ⟨cv, rfl⟩ : ∃ cv : Nat, a1_2 = cv := ⟨a1_2.toNat, by omega⟩
  obtain ⟨hnm, ks, hk, hks⟩ := reads_keys (e := 9) Tryd.underlying24 (by kernel_rfl) (by kernel_rfl) w1_1
  have hr : CmR ⟨vb, ks, cv, ky.data.toList, vl.data.toList, fl, ex, id, by_, bt, qt⟩ := ⟨bounds_u32 w1_5, bounds_i64 w1_6, bounds_i64 w1_9, bounds_u64 w1_7, bounds_u64 w1_8⟩
  clear w1_0 w1_1 w1_2 w1_5 w1_6 w1_7 w1_8 w1_9 p0 p1 p2 p3 hks
  unfold maxLen at w0 w1_3 w1_4
  have hkl := hk.len
  have HR := Lib.hid hr
  have HK := Lib.hid hk
  have HT := Lib.hid htab
  have HNM := Lib.hid hnm
  unfold maxLen at hnm
  clear hr hk htab
  obtain ⟨X1, hX1⟩ : ∃ W1, W1 = w.alloc (.cells #[.int .u8 vb, .slice A n cap, .int .u8 cv, .string ky, .string vl, .int .u32 fl, .int .i64 ex, .int .u64 id, .int .u64 by_, .int .i64 bt, .bool qt] 30) := ⟨_, rfl⟩
  have HC1 := Lib.hid (show Cb X1 w.heap.size (cmdC ⟨vb, ks, cv, ky.data.toList, vl.data.toList, fl, ex, id, by_, bt, qt⟩ (.slice A n cap)) from by
    rw [hX1]
    exact cb_new (by simp only [cmdC, str_list]))
  have HB1 := Lib.hid (show Below w.heap.size w X1 from by rw [hX1]; exact (Below.refl _ _).alloc (Nat.le_refl _) _)
  go_enter Tryd.func5, Tryd.ntmps5
  go_upto_region 1 with fail
  rw [← hX1]
  clear hX1
  obtain ⟨x0, x1, x2, x3, x4, x5, x6, x7, x8, x9, x10⟩ := cb_cells HC1.out
  simp only [str_list] at x0 x1 x2 x3 x4 x5 x6 x7 x8 x9 x10
  obtain ⟨g, o, hA, hcells⟩ := HK.out.at_
  have HCL := Lib.hid (fun k x hx => ((HB1.out.cell (p := ⟨g, o + k, none⟩) (hcells k x hx).1).trans (hcells k x hx).2))
  have HA := Lib.hid (And.intro hA HK.out.cap)
  clear hcells hA
  go_upto_region 3 with fail
  go_loopw [5, 6] (fun s i wr => ∃ k : Nat, k ≤ n ∧ k ≤ 101 ∧ i = .int .i64 k ∧ s = .int .i64 (cntK (ks.take k)) ∧ wr = X1) (fun _ i _ => n - (intOf i).toNat)
  case atStart => exact ⟨0, by omega, by omega, rfl, by simp [cntK], rfl⟩
  case round =>
    obtain ⟨k, hk1, hk2, rfl, rfl, rfl⟩ := hrel
    have hct := cntK_take ks k
    by_cases hgo : k < n ∧ k ≤ 100
    · obtain ⟨hlt, hl2⟩ := hgo
      obtain ⟨x, hx⟩ : ∃ x, ks[k]? = some x := ⟨_, List.getElem?_eq_getElem (by omega)⟩
      have hcx := HCL.out k x hx
      obtain rfl := HA.out.1 (by omega)
      have hnc := HA.out.2 (by omega)
      have hnx := cntK_next hx
      obtain ⟨s, hs⟩ : ∃ s, cntK (ks.take k) = s := ⟨_, rfl⟩
      rw [hs] at hct hnx ⊢
      have HS := Lib.hid hs
      clear hs
      have hd1 : decide ((k : Int) < (n : Int)) = true := decide_eq_true (by omega)
      have hd2 : decide ((k : Int) ≤ 100) = true := decide_eq_true (by omega)
      go_wp2_with fail
      go_roundw
      case rel => exact ⟨k + 1, by omega, by omega, by go_num, congrArg (Value.int .i64) (by rw [hnx]; omega), trivial⟩
      case measure => simp [intOf]; omega
    · obtain ⟨s, hs⟩ : ∃ s, cntK (ks.take k) = s := ⟨_, rfl⟩
      rw [hs] at hct ⊢
      have HS := Lib.hid hs
      clear hs
      have HL := Lib.hid (lives29 wr)
      have HE := Lib.hid (HB1.out)
      have hex : (decide ((k : Int) < (n : Int)) = false) ∨ (decide ((k : Int) < (n : Int)) = true ∧ decide ((k : Int) ≤ 100) = false) := by
        by_cases h : k < n
        · exact .inr ⟨decide_eq_true (by omega), decide_eq_false (by omega)⟩
        · exact .inl (decide_eq_false (by omega))
      obtain ⟨q, hq⟩ : ∃ q : Int, IntKind.i64.wrap ((ky.size : Int) + (vl.size : Int)) = q := ⟨_, rfl⟩
      by_cases hout : 5000 < a0.size ∨ 100 < n ∨ 30000 < s ∨ 3000 < q
      · have HOUT := Lib.hid hout
        rcases hex with hex | ⟨hex, hex2⟩
        all_goals
          by_cases o1 : 5000 < a0.size
          · have od1 : decide (5000 < (a0.size : Int)) = true := decide_eq_true (by omega)
            go_wp2_with (go_at_call 9; refine HL.out.mono ?_; rintro e w' ⟨rfl, hb⟩)
            all_goals
              go_ret
              exact ⟨rfl, HE.out.trans (hb.mono HE.out.size)⟩
          · have od1 : decide (5000 < (a0.size : Int)) = false := decide_eq_false (by omega)
            by_cases o2 : 100 < n
            · have od2 : decide (100 < (n : Int)) = true := decide_eq_true (by omega)
              go_wp2_with (go_at_call 9; refine HL.out.mono ?_; rintro e w' ⟨rfl, hb⟩)
              all_goals
                go_ret
                exact ⟨rfl, HE.out.trans (hb.mono HE.out.size)⟩
            · have od2 : decide (100 < (n : Int)) = false := decide_eq_false (by omega)
              by_cases o3 : 30000 < s
              · have od3 : decide (30000 < (s : Int)) = true := decide_eq_true (by omega)
                go_wp2_with (go_at_call 9; refine HL.out.mono ?_; rintro e w' ⟨rfl, hb⟩)
                all_goals
                  go_ret
                  exact ⟨rfl, HE.out.trans (hb.mono HE.out.size)⟩
              · have od3 : decide (30000 < (s : Int)) = false := decide_eq_false (by omega)
                have o4 : 3000 < q := by have := HOUT.out; omega
                have od4 : decide (3000 < q) = true := decide_eq_true (by omega)
                go_wp2_with (go_at_call 9; refine HL.out.mono ?_; rintro e w' ⟨rfl, hb⟩)
                all_goals
                  go_ret
                  exact ⟨rfl, HE.out.trans (hb.mono HE.out.size)⟩
      have od1 : decide (5000 < (a0.size : Int)) = false := decide_eq_false (by omega)
      have od2 : decide (100 < (n : Int)) = false := decide_eq_false (by omega)
      have od3 : decide (30000 < (s : Int)) = false := decide_eq_false (by omega)
      have od4 : decide (3000 < q) = false := decide_eq_false (by omega)
      have hn100 : n ≤ 100 := by omega
      have hs3 : s ≤ 30000 := by omega
      have hkn : k = n := by
        rcases Nat.lt_or_ge k n with h | h
        · exact absurd ⟨h, by omega⟩ hgo
        · omega
      have hexx : decide ((k : Int) < (n : Int)) = false := decide_eq_false (by omega)
      clear hex hout
      have HTOT := Lib.hid (show tot ks ≤ 100000 from by
        have h1 := HS.out
        rw [List.take_of_length_le (by omega)] at h1
        have h2 := cntK_tot ks (by omega)
        omega)
      clear HS hct hgo
      have hpa : ∀ W, Calls Tryd.prog 10 #[.string a0] W (IsPar W (parseC a0.data.toList)) := fun W => parsel a0 W (by unfold maxLen; omega)
      have hcm := parse_cmr a0.data.toList
      have hto := parse_tot a0.data.toList
      have hpk := (parseC_ok a0.data.toList).keys
      have hown : (parseC a0.data.toList).2 = 0 → ∃ s, lineO (parseC a0.data.toList).1 = some s ∧ s.length ≤ a0.size ∧ (parseC a0.data.toList).1.cverb = (parseC a0.data.toList).1.verb ∧ (parseC a0.data.toList).1.key = (parseC a0.data.toList).1.keys.headD [] ∧ (parseC a0.data.toList).1.keys.all okF = true := fun h => by
        obtain ⟨s, h1, h2, h3, h4, h5, -⟩ := own_line (l := a0.data.toList) (c := (parseC a0.data.toList).1) (by rw [← h])
        exact ⟨s, h1, by rwa [size_list] at h2, h3, h4, h5⟩
      have htl : (parseC a0.data.toList).2 ≠ 0 → lineO (parseC a0.data.toList).1 = none := fun h => line_told (l := a0.data.toList) (t := (parseC a0.data.toList).2) rfl h
      generalize parseC a0.data.toList = pa at hpa hcm hto hpk hown htl
      obtain ⟨⟨vb1, ks1, cv1, ky1, vl1, fl1, ex1, id1, by1, bt1, qt1⟩, t1⟩ := pa
      simp only at hcm hto hpk hown htl
      have HPA := Lib.hid hpa
      have HCM := Lib.hid (And.intro hcm hto)
      have HOWN := Lib.hid (And.intro hown htl)
      clear hpa hcm hto hown htl
      go_upto_region 9 with (go_at_call 10; go_loud ((with_reducible refine (HPA.out _).mono ?_); rintro e W1 ⟨kv, he, hk1, hb1⟩; obtain ⟨A1, cc1, rfl, -⟩ := (KyS.of_lst (U := fun _ => False) hk1 (fun _ _ _ e => e)).rd.form; have hf : e = .returned (.tuple #[.agg #[.int .u8 vb1, .slice A1 ks1.length cc1, .int .u8 cv1, .string ⟨ky1.toArray⟩, .string ⟨vl1.toArray⟩, .int .u32 fl1, .int .i64 ex1, .int .u64 id1, .int .u64 by1, .int .i64 bt1, .bool qt1], .int .u8 t1]) := he; subst hf; clear he))
      have hba : Below W1.heap.size W1 (W1.alloc (.cells #[.int .u8 vb1, .slice A1 ks1.length cc1, .int .u8 cv1, .string ⟨ky1.toArray⟩, .string ⟨vl1.toArray⟩, .int .u32 fl1, .int .i64 ex1, .int .u64 id1, .int .u64 by1, .int .i64 bt1, .bool qt1] 30)) := (Below.refl _ _).alloc (Nat.le_refl _) _
      have hD1 : Cb (W1.alloc (.cells #[.int .u8 vb1, .slice A1 ks1.length cc1, .int .u8 cv1, .string ⟨ky1.toArray⟩, .string ⟨vl1.toArray⟩, .int .u32 fl1, .int .i64 ex1, .int .u64 id1, .int .u64 by1, .int .i64 bt1, .bool qt1] 30)) W1.heap.size (cmdC ⟨vb1, ks1, cv1, ky1, vl1, fl1, ex1, id1, by1, bt1, qt1⟩ (.slice A1 ks1.length cc1)) := cb_new rfl
      have hkr1 := (KyS.of_lst (U := fun _ => False) hk1 (fun _ _ _ e => e)).rd
      have HK1 := Lib.hid (hkr1.on hba)
      have hxy := hb1.trans (hba.mono hb1.size)
      generalize W1.alloc _ = Y1 at *
      have HY1 := Lib.hid (HB1.out.trans (hxy.mono HB1.out.size))
      have HX1 := Lib.hid hxy
      have HD1 := Lib.hid hD1
      clear hba hD1 hb1 hk1 hkr1 hxy HPA
      obtain ⟨y0, y1, y2, y3, y4, y5, y6, y7, y8, y9, y10⟩ := cb_cells HD1.out
      have HLA := Lib.hid (clinew ⟨vb1, ks1, cv1, ky1, vl1, fl1, ex1, id1, by1, bt1, qt1⟩ A1 ks1.length cc1 Y1 HCM.out.1 (KyG.of HK1.out) (by omega) (Nat.le_trans HCM.out.2 (by omega)) (ll_tab HT.out HY1.out))
      simp only [cmdC] at HLA y0 y1 y2 y3 y4 y5 y6 y7 y8 y9 y10
      clear x0 x1 x2 x3 x4 x5 x6 x7 x8 x9 x10
      by_cases ht1 : t1 = 0
      · subst ht1
        obtain ⟨s1, hs1, hs2, hs3, hs4, hs5⟩ := HOWN.out.1 rfl
        have HS5 := Lib.hid (And.intro hs4 hs5)
        clear hs4 hs5
        have hs3' := hs3.symm
        subst hs3'
        go_upto_region 10 with (go_at_call 13; go_loud ((with_reducible refine HLA.out.mono ?_); rintro e W2 ⟨rfl, hb2⟩; rw [hs1]; dsimp only [Option.getD_some, Option.isSome_some]))
        have hp1 := line_some hs1
        have hsz1 : (⟨s1.toArray⟩ : ByteArray).size = s1.length := by show s1.toArray.size = _; simp
        have hpr1 : ∀ W, Calls Tryd.prog 10 #[.string ⟨s1.toArray⟩] W (IsPar W (⟨vb1, ks1, vb1, ky1, vl1, fl1, ex1, id1, by1, bt1, qt1⟩, 0)) := fun W => by
          have q := parsel ⟨s1.toArray⟩ W (by rw [hsz1]; unfold maxLen; omega)
          rwa [show (⟨s1.toArray⟩ : ByteArray).data.toList = s1 by simp, hp1] at q
        have HPR1 := Lib.hid hpr1
        clear hpr1 hp1 hs1
        have hd9 : decide ((a0.size : Int) < (s1.length : Int)) = false := decide_eq_false (by omega)
        go_upto_region 13 with fail
        go_upto_region 14 with (go_at_call 10; go_loud ((with_reducible refine (HPR1.out _).mono ?_); rintro e W3 ⟨kv3, he3, hk3, hb3⟩; obtain ⟨A2, cc2, rfl, -⟩ := (KyS.of_lst (U := fun _ => False) hk3 (fun _ _ _ e => e)).rd.form; have hf3 : e = .returned (.tuple #[.agg #[.int .u8 vb1, .slice A2 ks1.length cc2, .int .u8 vb1, .string ⟨ky1.toArray⟩, .string ⟨vl1.toArray⟩, .int .u32 fl1, .int .i64 ex1, .int .u64 id1, .int .u64 by1, .int .i64 bt1, .bool qt1], .int .u8 0]) := he3; subst hf3; clear he3))
        have hba3 : Below W3.heap.size W3 (W3.alloc (.cells #[.int .u8 vb1, .slice A2 ks1.length cc2, .int .u8 vb1, .string ⟨ky1.toArray⟩, .string ⟨vl1.toArray⟩, .int .u32 fl1, .int .i64 ex1, .int .u64 id1, .int .u64 by1, .int .i64 bt1, .bool qt1] 30)) := (Below.refl _ _).alloc (Nat.le_refl _) _
        have hD3 : Cb (W3.alloc (.cells #[.int .u8 vb1, .slice A2 ks1.length cc2, .int .u8 vb1, .string ⟨ky1.toArray⟩, .string ⟨vl1.toArray⟩, .int .u32 fl1, .int .i64 ex1, .int .u64 id1, .int .u64 by1, .int .i64 bt1, .bool qt1] 30)) W3.heap.size (cmdC ⟨vb1, ks1, vb1, ky1, vl1, fl1, ex1, id1, by1, bt1, qt1⟩ (.slice A2 ks1.length cc2)) := cb_new rfl
        have hkr3 := (KyS.of_lst (U := fun _ => False) hk3 (fun _ _ _ e => e)).rd
        have HG2 := Lib.hid ((KyG.of hkr3).on hba3)
        have hxy3 := (hb2.trans (hb3.mono hb2.size)).trans (hba3.mono (Nat.le_trans hb2.size hb3.size))
        generalize W3.alloc _ = Y3 at *
        have HD3 := Lib.hid hD3
        have HD13 := Lib.hid (HD1.out.new hxy3)
        have HG1 := Lib.hid (KyG.of (HK1.out.on hxy3))
        have HKF := Lib.hid ((HK1.out.on hxy3).form)
        have HY3 := Lib.hid (HY1.out.trans (hxy3.mono HY1.out.size))
        have HX3 := Lib.hid (HX1.out.trans (hxy3.mono HX1.out.size))
        clear hba3 hD3 hkr3 hxy3 hb2 hb3 hk3 y0 y1 y2 y3 y4 y5 y6 y7 y8 y9 y10
        obtain ⟨m1, hm1⟩ : ∃ m, ks1.length = m := ⟨_, rfl⟩
        rw [hm1] at HG1 HG2 HD3 HD13 hpk ⊢
        have HM1 := Lib.hid hm1
        clear hm1
        by_cases h0 : m1 = 0
        · have hky : ky1 = [] := by rw [HS5.out.1, List.eq_nil_of_length_eq_zero (HM1.out.trans h0)]; rfl
          subst h0
          subst hky
          have hbd : Below Y3.heap.size Y3 Y3.drew := (Below.refl _ _).drew
          have hsall : ∀ X, Below Y3.heap.size Y3 X → X.cell? ⟨W1.heap.size, 0, none⟩ = some (.int .u8 vb1) ∧ X.cell? ⟨W1.heap.size, 1, none⟩ = some (.slice A1 0 cc1) ∧ X.cell? ⟨W1.heap.size, 2, none⟩ = some (.int .u8 vb1) ∧ X.cell? ⟨W1.heap.size, 3, none⟩ = some (.string ⟨#[]⟩) ∧ X.cell? ⟨W1.heap.size, 4, none⟩ = some (.string ⟨vl1.toArray⟩) ∧ X.cell? ⟨W1.heap.size, 5, none⟩ = some (.int .u32 fl1) ∧ X.cell? ⟨W1.heap.size, 6, none⟩ = some (.int .i64 ex1) ∧ X.cell? ⟨W1.heap.size, 7, none⟩ = some (.int .u64 id1) ∧ X.cell? ⟨W1.heap.size, 8, none⟩ = some (.int .u64 by1) ∧ X.cell? ⟨W1.heap.size, 9, none⟩ = some (.int .i64 bt1) ∧ X.cell? ⟨W1.heap.size, 10, none⟩ = some (.bool qt1) ∧ X.cell? ⟨W3.heap.size, 0, none⟩ = some (.int .u8 vb1) ∧ X.cell? ⟨W3.heap.size, 1, none⟩ = some (.slice A2 0 cc2) ∧ X.cell? ⟨W3.heap.size, 2, none⟩ = some (.int .u8 vb1) ∧ X.cell? ⟨W3.heap.size, 3, none⟩ = some (.string ⟨#[]⟩) ∧ X.cell? ⟨W3.heap.size, 4, none⟩ = some (.string ⟨vl1.toArray⟩) ∧ X.cell? ⟨W3.heap.size, 5, none⟩ = some (.int .u32 fl1) ∧ X.cell? ⟨W3.heap.size, 6, none⟩ = some (.int .i64 ex1) ∧ X.cell? ⟨W3.heap.size, 7, none⟩ = some (.int .u64 id1) ∧ X.cell? ⟨W3.heap.size, 8, none⟩ = some (.int .u64 by1) ∧ X.cell? ⟨W3.heap.size, 9, none⟩ = some (.int .i64 bt1) ∧ X.cell? ⟨W3.heap.size, 10, none⟩ = some (.bool qt1) := fun X hX => by
            obtain ⟨a0, a1, a2, a3, a4, a5, a6, a7, a8, a9, a10⟩ := cb_cells (HD13.out.new hX)
            obtain ⟨b0, b1, b2, b3, b4, b5, b6, b7, b8, b9, b10⟩ := cb_cells (HD3.out.new hX)
            exact ⟨a0, a1, a2, a3, a4, a5, a6, a7, a8, a9, a10, b0, b1, b2, b3, b4, b5, b6, b7, b8, b9, b10⟩
          have HSA := Lib.hid hsall
          clear hsall
          have hd := HSA.out _ hbd
          have HSM1 := Lib.hid (fun (W : World) (h : Below Y3.heap.size Y3 W) => lsameG ⟨vb1, ks1, vb1, [], vl1, fl1, ex1, id1, by1, bt1, qt1⟩ ⟨vb1, ks1, vb1, [], vl1, fl1, ex1, id1, by1, bt1, qt1⟩ A1 A2 0 0 cc1 cc2 W (HG1.out.on h) (HG2.out.on h) (by unfold maxLen; omega) (by unfold maxLen; omega))
          simp only [cmdC, decide_true] at HSM1
          refine wp_region_held_drew (S := fun X => X.cell? ⟨W1.heap.size, 0, none⟩ = some (.int .u8 vb1) ∧ X.cell? ⟨W1.heap.size, 1, none⟩ = some (.slice A1 0 cc1) ∧ X.cell? ⟨W1.heap.size, 2, none⟩ = some (.int .u8 vb1) ∧ X.cell? ⟨W1.heap.size, 3, none⟩ = some (.string ⟨#[]⟩) ∧ X.cell? ⟨W1.heap.size, 4, none⟩ = some (.string ⟨vl1.toArray⟩) ∧ X.cell? ⟨W1.heap.size, 5, none⟩ = some (.int .u32 fl1) ∧ X.cell? ⟨W1.heap.size, 6, none⟩ = some (.int .i64 ex1) ∧ X.cell? ⟨W1.heap.size, 7, none⟩ = some (.int .u64 id1) ∧ X.cell? ⟨W1.heap.size, 8, none⟩ = some (.int .u64 by1) ∧ X.cell? ⟨W1.heap.size, 9, none⟩ = some (.int .i64 bt1) ∧ X.cell? ⟨W1.heap.size, 10, none⟩ = some (.bool qt1) ∧ X.cell? ⟨W3.heap.size, 0, none⟩ = some (.int .u8 vb1) ∧ X.cell? ⟨W3.heap.size, 1, none⟩ = some (.slice A2 0 cc2) ∧ X.cell? ⟨W3.heap.size, 2, none⟩ = some (.int .u8 vb1) ∧ X.cell? ⟨W3.heap.size, 3, none⟩ = some (.string ⟨#[]⟩) ∧ X.cell? ⟨W3.heap.size, 4, none⟩ = some (.string ⟨vl1.toArray⟩) ∧ X.cell? ⟨W3.heap.size, 5, none⟩ = some (.int .u32 fl1) ∧ X.cell? ⟨W3.heap.size, 6, none⟩ = some (.int .i64 ex1) ∧ X.cell? ⟨W3.heap.size, 7, none⟩ = some (.int .u64 id1) ∧ X.cell? ⟨W3.heap.size, 8, none⟩ = some (.int .u64 by1) ∧ X.cell? ⟨W3.heap.size, 9, none⟩ = some (.int .i64 bt1) ∧ X.cell? ⟨W3.heap.size, 10, none⟩ = some (.bool qt1)) (by kernel_rfl) hd (fun hHeld => ?_)
          refine wpAnyH_take (i := 0) (oi := ({ dst := some 102, op := Op.move (Operand.tmp 12), type := 31, pos := "outright.go:61", after := #[], guard := none })) (v := ?_) rfl (by kernel_rfl) (by kernel_rfl) (by kernel_rfl) (fun _ _ _ h => h) (Or.inl ⟨by rfl, ?_⟩) (by assumption) ?_
          rotate_left 1
          · (intro w9 hSw; (try dsimp only at hSw); go_simp; try with_reducible rfl)
          try simp only [Act.put, List.setIfInBounds_toArray, List.set_cons_zero, List.set_cons_succ]
          refine wpAnyH_take (i := 1) (oi := ({ dst := some 103, op := Op.binOp BinOp.neq 31 (Operand.tmp 102) (Operand.const (Value.int IntKind.u8 0)) 31, type := 4, pos := "outright.go:61", after := #[{ on := 0, ground := Ground.data }], guard := none })) (v := ?_) rfl (by kernel_rfl) (by kernel_rfl) (by kernel_rfl) (fun _ _ _ h => h) (Or.inl ⟨by rfl, ?_⟩) (by assumption) ?_
          rotate_left 1
          · (intro w9 hSw; (try dsimp only at hSw); go_simp; try with_reducible rfl)
          try simp only [Act.put, List.setIfInBounds_toArray, List.set_cons_zero, List.set_cons_succ]
          refine wpAnyH_take (i := 2) (oi := ({ dst := some 104, op := Op.move (Operand.tmp 103), type := 4, pos := "outright.go:61", after := #[{ on := 1, ground := Ground.data }], guard := none })) (v := ?_) rfl (by kernel_rfl) (by kernel_rfl) (by kernel_rfl) (fun _ _ _ h => h) (Or.inl ⟨by rfl, ?_⟩) (by assumption) ?_
          rotate_left 1
          · (intro w9 hSw; (try dsimp only at hSw); go_simp; try with_reducible rfl)
          try simp only [Act.put, List.setIfInBounds_toArray, List.set_cons_zero, List.set_cons_succ]
          refine wpAnyH_take (i := 3) (oi := ({ dst := some 105, op := Op.load 30 (Operand.tmp 7), type := 30, pos := "outright.go:61", after := #[{ on := 2, ground := Ground.guard }], guard := some (2, false) })) (v := ?_) rfl (by kernel_rfl) (by kernel_rfl) (by kernel_rfl) (fun _ _ _ h => h) (Or.inl ⟨by rfl, ?_⟩) (by assumption) ?_
          rotate_left 1
          · (intro w9 hSw; (try dsimp only at hSw); go_simp; try with_reducible rfl)
          try simp only [Act.put, List.setIfInBounds_toArray, List.set_cons_zero, List.set_cons_succ]
          refine wpAnyH_take (i := 4) (oi := ({ dst := some 106, op := Op.load 30 (Operand.tmp 11), type := 30, pos := "outright.go:61", after := #[{ on := 2, ground := Ground.guard }], guard := some (2, false) })) (v := ?_) rfl (by kernel_rfl) (by kernel_rfl) (by kernel_rfl) (fun _ _ _ h => h) (Or.inl ⟨by rfl, ?_⟩) (by assumption) ?_
          rotate_left 1
          · (intro w9 hSw; (try dsimp only at hSw); go_simp; try with_reducible rfl)
          try simp only [Act.put, List.setIfInBounds_toArray, List.set_cons_zero, List.set_cons_succ]
          refine wpAnyH_ready (rs := [5]) (by kernel_rfl) (by simp) ?_
          refine AllReadyH.cons (o := ({ dst := some 107, op := Op.call { callee := Callee.value (Operand.func 16), args := #[Operand.tmp 105, Operand.tmp 106], argTypes := #[30, 30] }, type := 4, pos := "outright.go:61", after := #[{ on := 3, ground := Ground.data }, { on := 4, ground := Ground.data }, { on := 2, ground := Ground.chain }, { on := 2, ground := Ground.guard }], guard := some (2, false) })) rfl (fun K hK => ?_) AllReadyH.nil
          go_simp
          (with_reducible refine (HSM1.out _ hbd).mono ?_)
          rintro e W4 ⟨rfl, hb4⟩
          have hb34 := hbd.trans (hb4.mono hbd.size)
          refine hK.out _ _ (HSA.out _ hb34) (fun hHeld => ?_)
          clear hK K
          try simp only [Act.put, List.setIfInBounds_toArray, List.set_cons_zero, List.set_cons_succ]
          refine wpAnyH_take (i := 6) (oi := ({ dst := some 108, op := Op.unOp UnOp.not 4 (Operand.tmp 107), type := 4, pos := "outright.go:61", after := #[{ on := 5, ground := Ground.data }, { on := 2, ground := Ground.guard }], guard := some (2, false) })) (v := ?_) rfl (by kernel_rfl) (by kernel_rfl) (by kernel_rfl) (fun _ _ _ h => h) (Or.inl ⟨by rfl, ?_⟩) (by assumption) ?_
          rotate_left 1
          · (intro w9 hSw; (try dsimp only at hSw); go_simp; try with_reducible rfl)
          try simp only [Act.put, List.setIfInBounds_toArray, List.set_cons_zero, List.set_cons_succ]
          refine wpAnyH_take (i := 7) (oi := ({ dst := some 109, op := Op.pick (Operand.tmp 104) (Operand.const (Value.bool true)) (Operand.tmp 108), type := 4, pos := "outright.go:61", after := #[{ on := 2, ground := Ground.data }, { on := 6, ground := Ground.data }], guard := none })) (v := ?_) rfl (by kernel_rfl) (by kernel_rfl) (by kernel_rfl) (fun _ _ _ h => h) (Or.inl ⟨by rfl, ?_⟩) (by assumption) ?_
          rotate_left 1
          · (intro w9 hSw; (try dsimp only at hSw); go_simp; try with_reducible rfl)
          try simp only [Act.put, List.setIfInBounds_toArray, List.set_cons_zero, List.set_cons_succ]
          refine wpAnyH_take (i := 8) (oi := ({ dst := some 110, op := Op.move (Operand.tmp 109), type := 4, pos := "outright.go:61", after := #[{ on := 7, ground := Ground.data }, { on := 5, ground := Ground.chain }], guard := none })) (v := ?_) rfl (by kernel_rfl) (by kernel_rfl) (by kernel_rfl) (fun _ _ _ h => h) (Or.inl ⟨by rfl, ?_⟩) (by assumption) ?_
          rotate_left 1
          · (intro w9 hSw; (try dsimp only at hSw); go_simp; try with_reducible rfl)
          try simp only [Act.put, List.setIfInBounds_toArray, List.set_cons_zero, List.set_cons_succ]
          refine wpAnyH_take (i := 9) (oi := ({ dst := some 111, op := Op.fieldAddr 30 (Operand.tmp 7) 2, type := 0, pos := "outright.go:61", after := #[{ on := 8, ground := Ground.guard }], guard := some (8, false) })) (v := ?_) rfl (by kernel_rfl) (by kernel_rfl) (by kernel_rfl) (fun _ _ _ h => h) (Or.inl ⟨by rfl, ?_⟩) (by assumption) ?_
          rotate_left 1
          · (intro w9 hSw; (try dsimp only at hSw); go_simp; try with_reducible rfl)
          try simp only [Act.put, List.setIfInBounds_toArray, List.set_cons_zero, List.set_cons_succ]
          refine wpAnyH_take (i := 10) (oi := ({ dst := some 112, op := Op.fieldAddr 28 (Operand.tmp 111) 0, type := 0, pos := "outright.go:61", after := #[{ on := 9, ground := Ground.data }, { on := 8, ground := Ground.guard }], guard := some (8, false) })) (v := ?_) rfl (by kernel_rfl) (by kernel_rfl) (by kernel_rfl) (fun _ _ _ h => h) (Or.inl ⟨by rfl, ?_⟩) (by assumption) ?_
          rotate_left 1
          · (intro w9 hSw; (try dsimp only at hSw); go_simp; try with_reducible rfl)
          try simp only [Act.put, List.setIfInBounds_toArray, List.set_cons_zero, List.set_cons_succ]
          refine wpAnyH_take (i := 11) (oi := ({ dst := some 113, op := Op.load 23 (Operand.tmp 112), type := 23, pos := "outright.go:61", after := #[{ on := 10, ground := Ground.data }, { on := 8, ground := Ground.guard }], guard := some (8, false) })) (v := ?_) rfl (by kernel_rfl) (by kernel_rfl) (by kernel_rfl) (fun _ _ _ h => h) (Or.inl ⟨by rfl, ?_⟩) (by assumption) ?_
          rotate_left 1
          · (intro w9 hSw; (try dsimp only at hSw); go_simp; try with_reducible rfl)
          try simp only [Act.put, List.setIfInBounds_toArray, List.set_cons_zero, List.set_cons_succ]
          refine wpAnyH_take (i := 12) (oi := ({ dst := some 114, op := Op.fieldAddr 30 (Operand.tmp 7) 0, type := 0, pos := "outright.go:61", after := #[{ on := 8, ground := Ground.guard }], guard := some (8, false) })) (v := ?_) rfl (by kernel_rfl) (by kernel_rfl) (by kernel_rfl) (fun _ _ _ h => h) (Or.inl ⟨by rfl, ?_⟩) (by assumption) ?_
          rotate_left 1
          · (intro w9 hSw; (try dsimp only at hSw); go_simp; try with_reducible rfl)
          try simp only [Act.put, List.setIfInBounds_toArray, List.set_cons_zero, List.set_cons_succ]
          refine wpAnyH_take (i := 13) (oi := ({ dst := some 115, op := Op.load 23 (Operand.tmp 114), type := 23, pos := "outright.go:61", after := #[{ on := 12, ground := Ground.data }, { on := 8, ground := Ground.guard }], guard := some (8, false) })) (v := ?_) rfl (by kernel_rfl) (by kernel_rfl) (by kernel_rfl) (fun _ _ _ h => h) (Or.inl ⟨by rfl, ?_⟩) (by assumption) ?_
          rotate_left 1
          · (intro w9 hSw; (try dsimp only at hSw); go_simp; try with_reducible rfl)
          try simp only [Act.put, List.setIfInBounds_toArray, List.set_cons_zero, List.set_cons_succ]
          refine wpAnyH_take (i := 14) (oi := ({ dst := some 116, op := Op.binOp BinOp.neq 23 (Operand.tmp 113) (Operand.tmp 115) 23, type := 4, pos := "outright.go:61", after := #[{ on := 11, ground := Ground.data }, { on := 13, ground := Ground.data }, { on := 8, ground := Ground.guard }], guard := some (8, false) })) (v := ?_) rfl (by kernel_rfl) (by kernel_rfl) (by kernel_rfl) (fun _ _ _ h => h) (Or.inl ⟨by rfl, ?_⟩) (by assumption) ?_
          rotate_left 1
          · (intro w9 hSw; (try dsimp only at hSw); go_simp; try with_reducible rfl)
          try simp only [Act.put, List.setIfInBounds_toArray, List.set_cons_zero, List.set_cons_succ]
          refine wpAnyH_take (i := 15) (oi := ({ dst := some 117, op := Op.pick (Operand.tmp 110) (Operand.const (Value.bool true)) (Operand.tmp 116), type := 4, pos := "outright.go:61", after := #[{ on := 8, ground := Ground.data }, { on := 14, ground := Ground.data }], guard := none })) (v := ?_) rfl (by kernel_rfl) (by kernel_rfl) (by kernel_rfl) (fun _ _ _ h => h) (Or.inl ⟨by rfl, ?_⟩) (by assumption) ?_
          rotate_left 1
          · (intro w9 hSw; (try dsimp only at hSw); go_simp; try with_reducible rfl)
          try simp only [Act.put, List.setIfInBounds_toArray, List.set_cons_zero, List.set_cons_succ]
          refine wpAnyH_take (i := 16) (oi := ({ dst := some 118, op := Op.move (Operand.tmp 117), type := 4, pos := "outright.go:61", after := #[{ on := 15, ground := Ground.data }, { on := 8, ground := Ground.chain }], guard := none })) (v := ?_) rfl (by kernel_rfl) (by kernel_rfl) (by kernel_rfl) (fun _ _ _ h => h) (Or.inl ⟨by rfl, ?_⟩) (by assumption) ?_
          rotate_left 1
          · (intro w9 hSw; (try dsimp only at hSw); go_simp; try with_reducible rfl)
          try simp only [Act.put, List.setIfInBounds_toArray, List.set_cons_zero, List.set_cons_succ]
          refine wpAnyH_take (i := 17) (oi := ({ dst := some 119, op := Op.fieldAddr 30 (Operand.tmp 7) 1, type := 0, pos := "outright.go:61", after := #[{ on := 16, ground := Ground.guard }], guard := some (16, false) })) (v := ?_) rfl (by kernel_rfl) (by kernel_rfl) (by kernel_rfl) (fun _ _ _ h => h) (Or.inl ⟨by rfl, ?_⟩) (by assumption) ?_
          rotate_left 1
          · (intro w9 hSw; (try dsimp only at hSw); go_simp; try with_reducible rfl)
          try simp only [Act.put, List.setIfInBounds_toArray, List.set_cons_zero, List.set_cons_succ]
          refine wpAnyH_take (i := 18) (oi := ({ dst := some 120, op := Op.load 24 (Operand.tmp 119), type := 24, pos := "outright.go:61", after := #[{ on := 17, ground := Ground.data }, { on := 16, ground := Ground.guard }], guard := some (16, false) })) (v := ?_) rfl (by kernel_rfl) (by kernel_rfl) (by kernel_rfl) (fun _ _ _ h => h) (Or.inl ⟨by rfl, ?_⟩) (by assumption) ?_
          rotate_left 1
          · (intro w9 hSw; (try dsimp only at hSw); go_simp; try with_reducible rfl)
          try simp only [Act.put, List.setIfInBounds_toArray, List.set_cons_zero, List.set_cons_succ]
          refine wpAnyH_take (i := 19) (oi := ({ dst := some 121, op := Op.call { callee := Callee.builtin Builtin.len, args := #[Operand.tmp 120], argTypes := #[24] }, type := 3, pos := "outright.go:61", after := #[{ on := 18, ground := Ground.data }, { on := 16, ground := Ground.guard }], guard := some (16, false) })) (v := ?_) rfl (by kernel_rfl) (by kernel_rfl) (by kernel_rfl) (fun _ _ _ h => h) (Or.inl ⟨by rfl, ?_⟩) (by assumption) ?_
          rotate_left 1
          · (intro w9 hSw; (try dsimp only at hSw); go_simp; try with_reducible rfl)
          try simp only [Act.put, List.setIfInBounds_toArray, List.set_cons_zero, List.set_cons_succ]
          refine wpAnyH_take (i := 20) (oi := ({ dst := some 122, op := Op.binOp BinOp.gtr 3 (Operand.tmp 121) (Operand.const (Value.int IntKind.i64 0)) 3, type := 4, pos := "outright.go:61", after := #[{ on := 19, ground := Ground.data }, { on := 16, ground := Ground.guard }], guard := some (16, false) })) (v := ?_) rfl (by kernel_rfl) (by kernel_rfl) (by kernel_rfl) (fun _ _ _ h => h) (Or.inl ⟨by rfl, ?_⟩) (by assumption) ?_
          rotate_left 1
          · (intro w9 hSw; (try dsimp only at hSw); go_simp; try with_reducible rfl)
          try simp only [Act.put, List.setIfInBounds_toArray, List.set_cons_zero, List.set_cons_succ]
          refine wpAnyH_take (i := 21) (oi := ({ dst := some 123, op := Op.move (Operand.tmp 122), type := 4, pos := "outright.go:61", after := #[{ on := 20, ground := Ground.data }, { on := 16, ground := Ground.chain }, { on := 16, ground := Ground.guard }], guard := some (16, false) })) (v := ?_) rfl (by kernel_rfl) (by kernel_rfl) (by kernel_rfl) (fun _ _ _ h => h) (Or.inl ⟨by rfl, ?_⟩) (by assumption) ?_
          rotate_left 1
          · (intro w9 hSw; (try dsimp only at hSw); go_simp; try with_reducible rfl)
          try simp only [Act.put, List.setIfInBounds_toArray, List.set_cons_zero, List.set_cons_succ]
          refine wpAnyH_take (i := 22) (oi := ({ dst := some 124, op := Op.fieldAddr 30 (Operand.tmp 7) 2, type := 0, pos := "outright.go:61", after := #[{ on := 21, ground := Ground.guard }], guard := some (21, true) })) (v := undef) rfl (by kernel_rfl) (by kernel_rfl) (by kernel_rfl) (fun _ _ _ h => h) (Or.inr ⟨by rfl, rfl⟩) (by assumption) ?_
          try simp only [Act.put, List.setIfInBounds_toArray, List.set_cons_zero, List.set_cons_succ]
          refine wpAnyH_take (i := 23) (oi := ({ dst := some 125, op := Op.fieldAddr 28 (Operand.tmp 124) 1, type := 0, pos := "outright.go:61", after := #[{ on := 22, ground := Ground.data }, { on := 21, ground := Ground.guard }], guard := some (21, true) })) (v := undef) rfl (by kernel_rfl) (by kernel_rfl) (by kernel_rfl) (fun _ _ _ h => h) (Or.inr ⟨by rfl, rfl⟩) (by assumption) ?_
          try simp only [Act.put, List.setIfInBounds_toArray, List.set_cons_zero, List.set_cons_succ]
          refine wpAnyH_take (i := 24) (oi := ({ dst := some 126, op := Op.load 9 (Operand.tmp 125), type := 9, pos := "outright.go:61", after := #[{ on := 23, ground := Ground.data }, { on := 21, ground := Ground.guard }], guard := some (21, true) })) (v := undef) rfl (by kernel_rfl) (by kernel_rfl) (by kernel_rfl) (fun _ _ _ h => h) (Or.inr ⟨by rfl, rfl⟩) (by assumption) ?_
          try simp only [Act.put, List.setIfInBounds_toArray, List.set_cons_zero, List.set_cons_succ]
          refine wpAnyH_take (i := 25) (oi := ({ dst := some 127, op := Op.fieldAddr 30 (Operand.tmp 7) 1, type := 0, pos := "outright.go:61", after := #[{ on := 21, ground := Ground.guard }], guard := some (21, true) })) (v := undef) rfl (by kernel_rfl) (by kernel_rfl) (by kernel_rfl) (fun _ _ _ h => h) (Or.inr ⟨by rfl, rfl⟩) (by assumption) ?_
          try simp only [Act.put, List.setIfInBounds_toArray, List.set_cons_zero, List.set_cons_succ]
          refine wpAnyH_take (i := 26) (oi := ({ dst := some 128, op := Op.load 24 (Operand.tmp 127), type := 24, pos := "outright.go:61", after := #[{ on := 25, ground := Ground.data }, { on := 21, ground := Ground.guard }], guard := some (21, true) })) (v := undef) rfl (by kernel_rfl) (by kernel_rfl) (by kernel_rfl) (fun _ _ _ h => h) (Or.inr ⟨by rfl, rfl⟩) (by assumption) ?_
          try simp only [Act.put, List.setIfInBounds_toArray, List.set_cons_zero, List.set_cons_succ]
          refine wpAnyH_take (i := 27) (oi := ({ dst := some 129, op := Op.indexAddr 24 (Operand.tmp 128) (Operand.const (Value.int IntKind.i64 0)), type := 0, pos := "outright.go:61", after := #[{ on := 26, ground := Ground.data }, { on := 21, ground := Ground.guard }], guard := some (21, true) })) (v := undef) rfl (by kernel_rfl) (by kernel_rfl) (by kernel_rfl) (fun _ _ _ h => h) (Or.inr ⟨by rfl, rfl⟩) (by assumption) ?_
          try simp only [Act.put, List.setIfInBounds_toArray, List.set_cons_zero, List.set_cons_succ]
          refine wpAnyH_take (i := 28) (oi := ({ dst := some 130, op := Op.load 9 (Operand.tmp 129), type := 9, pos := "outright.go:61", after := #[{ on := 27, ground := Ground.data }, { on := 21, ground := Ground.guard }], guard := some (21, true) })) (v := undef) rfl (by kernel_rfl) (by kernel_rfl) (by kernel_rfl) (fun _ _ _ h => h) (Or.inr ⟨by rfl, rfl⟩) (by assumption) ?_
          try simp only [Act.put, List.setIfInBounds_toArray, List.set_cons_zero, List.set_cons_succ]
          refine wpAnyH_take (i := 29) (oi := ({ dst := some 131, op := Op.binOp BinOp.neq 9 (Operand.tmp 126) (Operand.tmp 130) 9, type := 4, pos := "outright.go:61", after := #[{ on := 24, ground := Ground.data }, { on := 28, ground := Ground.data }, { on := 21, ground := Ground.guard }], guard := some (21, true) })) (v := undef) rfl (by kernel_rfl) (by kernel_rfl) (by kernel_rfl) (fun _ _ _ h => h) (Or.inr ⟨by rfl, rfl⟩) (by assumption) ?_
          try simp only [Act.put, List.setIfInBounds_toArray, List.set_cons_zero, List.set_cons_succ]
          refine wpAnyH_take (i := 30) (oi := ({ dst := some 132, op := Op.pick (Operand.tmp 123) (Operand.tmp 131) (Operand.const (Value.bool false)), type := 4, pos := "outright.go:61", after := #[{ on := 21, ground := Ground.data }, { on := 29, ground := Ground.data }, { on := 16, ground := Ground.guard }], guard := some (16, false) })) (v := ?_) rfl (by kernel_rfl) (by kernel_rfl) (by kernel_rfl) (fun _ _ _ h => h) (Or.inl ⟨by rfl, ?_⟩) (by assumption) ?_
          rotate_left 1
          · (intro w9 hSw; (try dsimp only at hSw); go_simp; try with_reducible rfl)
          try simp only [Act.put, List.setIfInBounds_toArray, List.set_cons_zero, List.set_cons_succ]
          refine wpAnyH_take (i := 31) (oi := ({ dst := some 133, op := Op.pick (Operand.tmp 118) (Operand.const (Value.bool true)) (Operand.tmp 132), type := 4, pos := "outright.go:61", after := #[{ on := 16, ground := Ground.data }, { on := 30, ground := Ground.data }], guard := none })) (v := ?_) rfl (by kernel_rfl) (by kernel_rfl) (by kernel_rfl) (fun _ _ _ h => h) (Or.inl ⟨by rfl, ?_⟩) (by assumption) ?_
          rotate_left 1
          · (intro w9 hSw; (try dsimp only at hSw); go_simp; try with_reducible rfl)
          try simp only [Act.put, List.setIfInBounds_toArray, List.set_cons_zero, List.set_cons_succ]
          refine wpAnyH_take (i := 32) (oi := ({ dst := some 134, op := Op.move (Operand.tmp 133), type := 4, pos := "outright.go:61", after := #[{ on := 31, ground := Ground.data }, { on := 21, ground := Ground.chain }], guard := none })) (v := ?_) rfl (by kernel_rfl) (by kernel_rfl) (by kernel_rfl) (fun _ _ _ h => h) (Or.inl ⟨by rfl, ?_⟩) (by assumption) ?_
          rotate_left 1
          · (intro w9 hSw; (try dsimp only at hSw); go_simp; try with_reducible rfl)
          try simp only [Act.put, List.setIfInBounds_toArray, List.set_cons_zero, List.set_cons_succ]
          refine wpAnyH_take (i := 33) (oi := ({ dst := some 135, op := Op.fieldAddr 30 (Operand.tmp 7) 1, type := 0, pos := "outright.go:61", after := #[{ on := 32, ground := Ground.guard }], guard := some (32, false) })) (v := ?_) rfl (by kernel_rfl) (by kernel_rfl) (by kernel_rfl) (fun _ _ _ h => h) (Or.inl ⟨by rfl, ?_⟩) (by assumption) ?_
          rotate_left 1
          · (intro w9 hSw; (try dsimp only at hSw); go_simp; try with_reducible rfl)
          try simp only [Act.put, List.setIfInBounds_toArray, List.set_cons_zero, List.set_cons_succ]
          refine wpAnyH_take (i := 34) (oi := ({ dst := some 136, op := Op.load 24 (Operand.tmp 135), type := 24, pos := "outright.go:61", after := #[{ on := 33, ground := Ground.data }, { on := 32, ground := Ground.guard }], guard := some (32, false) })) (v := ?_) rfl (by kernel_rfl) (by kernel_rfl) (by kernel_rfl) (fun _ _ _ h => h) (Or.inl ⟨by rfl, ?_⟩) (by assumption) ?_
          rotate_left 1
          · (intro w9 hSw; (try dsimp only at hSw); go_simp; try with_reducible rfl)
          try simp only [Act.put, List.setIfInBounds_toArray, List.set_cons_zero, List.set_cons_succ]
          refine wpAnyH_take (i := 35) (oi := ({ dst := some 137, op := Op.call { callee := Callee.builtin Builtin.len, args := #[Operand.tmp 136], argTypes := #[24] }, type := 3, pos := "outright.go:61", after := #[{ on := 34, ground := Ground.data }, { on := 32, ground := Ground.guard }], guard := some (32, false) })) (v := ?_) rfl (by kernel_rfl) (by kernel_rfl) (by kernel_rfl) (fun _ _ _ h => h) (Or.inl ⟨by rfl, ?_⟩) (by assumption) ?_
          rotate_left 1
          · (intro w9 hSw; (try dsimp only at hSw); go_simp; try with_reducible rfl)
          try simp only [Act.put, List.setIfInBounds_toArray, List.set_cons_zero, List.set_cons_succ]
          refine wpAnyH_take (i := 36) (oi := ({ dst := some 138, op := Op.binOp BinOp.eql 3 (Operand.tmp 137) (Operand.const (Value.int IntKind.i64 0)) 3, type := 4, pos := "outright.go:61", after := #[{ on := 35, ground := Ground.data }, { on := 32, ground := Ground.guard }], guard := some (32, false) })) (v := ?_) rfl (by kernel_rfl) (by kernel_rfl) (by kernel_rfl) (fun _ _ _ h => h) (Or.inl ⟨by rfl, ?_⟩) (by assumption) ?_
          rotate_left 1
          · (intro w9 hSw; (try dsimp only at hSw); go_simp; try with_reducible rfl)
          try simp only [Act.put, List.setIfInBounds_toArray, List.set_cons_zero, List.set_cons_succ]
          refine wpAnyH_take (i := 37) (oi := ({ dst := some 139, op := Op.move (Operand.tmp 138), type := 4, pos := "outright.go:61", after := #[{ on := 36, ground := Ground.data }, { on := 32, ground := Ground.chain }, { on := 32, ground := Ground.guard }], guard := some (32, false) })) (v := ?_) rfl (by kernel_rfl) (by kernel_rfl) (by kernel_rfl) (fun _ _ _ h => h) (Or.inl ⟨by rfl, ?_⟩) (by assumption) ?_
          rotate_left 1
          · (intro w9 hSw; (try dsimp only at hSw); go_simp; try with_reducible rfl)
          try simp only [Act.put, List.setIfInBounds_toArray, List.set_cons_zero, List.set_cons_succ]
          refine wpAnyH_take (i := 38) (oi := ({ dst := some 140, op := Op.fieldAddr 30 (Operand.tmp 7) 2, type := 0, pos := "outright.go:61", after := #[{ on := 37, ground := Ground.guard }], guard := some (37, true) })) (v := ?_) rfl (by kernel_rfl) (by kernel_rfl) (by kernel_rfl) (fun _ _ _ h => h) (Or.inl ⟨by rfl, ?_⟩) (by assumption) ?_
          rotate_left 1
          · (intro w9 hSw; (try dsimp only at hSw); go_simp; try with_reducible rfl)
          try simp only [Act.put, List.setIfInBounds_toArray, List.set_cons_zero, List.set_cons_succ]
          refine wpAnyH_take (i := 39) (oi := ({ dst := some 141, op := Op.fieldAddr 28 (Operand.tmp 140) 1, type := 0, pos := "outright.go:61", after := #[{ on := 38, ground := Ground.data }, { on := 37, ground := Ground.guard }], guard := some (37, true) })) (v := ?_) rfl (by kernel_rfl) (by kernel_rfl) (by kernel_rfl) (fun _ _ _ h => h) (Or.inl ⟨by rfl, ?_⟩) (by assumption) ?_
          rotate_left 1
          · (intro w9 hSw; (try dsimp only at hSw); go_simp; try with_reducible rfl)
          try simp only [Act.put, List.setIfInBounds_toArray, List.set_cons_zero, List.set_cons_succ]
          refine wpAnyH_take (i := 40) (oi := ({ dst := some 142, op := Op.load 9 (Operand.tmp 141), type := 9, pos := "outright.go:61", after := #[{ on := 39, ground := Ground.data }, { on := 37, ground := Ground.guard }], guard := some (37, true) })) (v := ?_) rfl (by kernel_rfl) (by kernel_rfl) (by kernel_rfl) (fun _ _ _ h => h) (Or.inl ⟨by rfl, ?_⟩) (by assumption) ?_
          rotate_left 1
          · (intro w9 hSw; (try dsimp only at hSw); go_simp; try with_reducible rfl)
          try simp only [Act.put, List.setIfInBounds_toArray, List.set_cons_zero, List.set_cons_succ]
          refine wpAnyH_take (i := 41) (oi := ({ dst := some 143, op := Op.binOp BinOp.neq 9 (Operand.tmp 142) (Operand.const (Value.string { data := #[] })) 9, type := 4, pos := "outright.go:61", after := #[{ on := 40, ground := Ground.data }, { on := 37, ground := Ground.guard }], guard := some (37, true) })) (v := ?_) rfl (by kernel_rfl) (by kernel_rfl) (by kernel_rfl) (fun _ _ _ h => h) (Or.inl ⟨by rfl, ?_⟩) (by assumption) ?_
          rotate_left 1
          · (intro w9 hSw; (try dsimp only at hSw); go_simp; try with_reducible rfl)
          try simp only [Act.put, List.setIfInBounds_toArray, List.set_cons_zero, List.set_cons_succ]
          refine wpAnyH_take (i := 42) (oi := ({ dst := some 144, op := Op.pick (Operand.tmp 139) (Operand.tmp 143) (Operand.const (Value.bool false)), type := 4, pos := "outright.go:61", after := #[{ on := 37, ground := Ground.data }, { on := 41, ground := Ground.data }, { on := 32, ground := Ground.guard }], guard := some (32, false) })) (v := ?_) rfl (by kernel_rfl) (by kernel_rfl) (by kernel_rfl) (fun _ _ _ h => h) (Or.inl ⟨by rfl, ?_⟩) (by assumption) ?_
          rotate_left 1
          · (intro w9 hSw; (try dsimp only at hSw); go_simp; try with_reducible rfl)
          try simp only [Act.put, List.setIfInBounds_toArray, List.set_cons_zero, List.set_cons_succ]
          refine wpAnyH_take (i := 43) (oi := ({ dst := some 145, op := Op.pick (Operand.tmp 134) (Operand.const (Value.bool true)) (Operand.tmp 144), type := 4, pos := "outright.go:61", after := #[{ on := 32, ground := Ground.data }, { on := 42, ground := Ground.data }], guard := none })) (v := ?_) rfl (by kernel_rfl) (by kernel_rfl) (by kernel_rfl) (fun _ _ _ h => h) (Or.inl ⟨by rfl, ?_⟩) (by assumption) ?_
          rotate_left 1
          · (intro w9 hSw; (try dsimp only at hSw); go_simp; try with_reducible rfl)
          try simp only [Act.put, List.setIfInBounds_toArray, List.set_cons_zero, List.set_cons_succ]
          refine wpAnyH_done (by kernel_rfl) ?_ _
          all_goals
            have HB4 := Lib.hid hb34
            have HBT := Lib.hid (HY3.out.trans (hb34.mono HY3.out.size))
            have HX1E := Lib.hid (HX3.out.trans (hb34.mono HX3.out.size))
            have hq1 : W4.cell? ⟨W1.heap.size, 1, none⟩ = some (.slice A1 0 cc1) := (HD13.out.new hb34).at_ 1 _ rfl
            clear hd hHeld hbd hb4 hb34 HSM1 HSA
            go_upto_region 17 with fail
            go_loopw [13] (fun i wr => ∃ k : Nat, k ≤ 0 ∧ i = .int .i64 k ∧ wr = W4) (fun i _ => 0 - (intOf i).toNat)
            case atStart => exact ⟨0, by omega, rfl, rfl⟩
            case round =>
              obtain ⟨k2, hk2, rfl, rfl⟩ := hrel
              have hd1 : decide ((k2 : Int) < 0) = false := decide_eq_false (by omega)
              go_upto_region 21 with fail
              have HKL := Lib.hid hkl
              clear hkl
              have HLC := Lib.hid (clinew ⟨vb, ks, cv, ky.data.toList, vl.data.toList, fl, ex, id, by_, bt, qt⟩ A n cap wr HR.out (HK.out.on HBT.out) (by omega) (Nat.le_trans HTOT.out (by omega)) (ll_tab HT.out HBT.out))
              have HCW := Lib.hid (HC1.out.new HX1E.out)
              obtain ⟨x0, x1, x2, x3, x4, x5, x6, x7, x8, x9, x10⟩ := cb_cells HCW.out
              simp only [str_list] at x0 x1 x2 x3 x4 x5 x6 x7 x8 x9 x10
              simp only [cmdC, str_list] at HLC
              cases hlc : lineO ⟨vb, ks, cv, ky.data.toList, vl.data.toList, fl, ex, id, by_, bt, qt⟩ with
              | none =>
                unfold LinePost at HLC
                rw [hlc] at HLC
                dsimp only [Option.getD_none, Option.isSome_none] at HLC
                have hp0 : ∀ W, Calls Tryd.prog 10 #[.string ⟨#[]⟩] W (IsPar W (Cmd.none, 1)) := fun W => parsel ⟨#[]⟩ W (by decide)
                have HP0 := Lib.hid hp0
                clear hp0
                go_upto_region 22 with (go_at_call 13; go_loud ((with_reducible refine HLC.out.mono ?_); rintro e W5 ⟨rfl, hb5⟩))
                go_upto_region 23 with (go_at_call 10; go_loud ((with_reducible refine (HP0.out _).mono ?_); rintro e W6 ⟨kv6, he6, hk6, hb6⟩; obtain ⟨A6, cc6, rfl, -⟩ := (KyS.of_lst (U := fun _ => False) hk6 (fun _ _ _ e => e)).rd.form; have hf6 : e = .returned (.tuple #[.agg #[.int .u8 0, .slice A6 0 cc6, .int .u8 0, .string ⟨#[]⟩, .string ⟨#[]⟩, .int .u32 0, .int .i64 0, .int .u64 0, .int .u64 0, .int .i64 0, .bool false], .int .u8 1]) := he6; subst hf6; clear he6 hk6))
                have hb7 := (hb5.trans (hb6.mono hb5.size))
                have HE7 := Lib.hid (HBT.out.trans ((hb7.alloc hb7.size (.cells #[.int .u8 0, .slice A6 0 cc6, .int .u8 0, .string ⟨#[]⟩, .string ⟨#[]⟩, .int .u32 0, .int .i64 0, .int .u64 0, .int .u64 0, .int .i64 0, .bool false] 30)).mono HBT.out.size))
                generalize W6.alloc _ = Y6 at *
                have HL6 := Lib.hid (lives29 Y6)
                clear hb5 hb6 hb7
                go_wp2_with (go_at_call 9; refine HL6.out.mono ?_; rintro e w' ⟨rfl, hb⟩)
                go_ret
                exact ⟨rfl, HE7.out.trans (hb.mono HE7.out.size)⟩
              | some s2 =>
                unfold LinePost at HLC
                rw [hlc] at HLC
                dsimp only [Option.getD_some, Option.isSome_some] at HLC
                have hlen2 := line_len hlc
                have hp2 := line_some hlc
                have hsz2 : (⟨s2.toArray⟩ : ByteArray).size = s2.length := by show s2.toArray.size = _; simp
                have hpr : ∀ W, Calls Tryd.prog 10 #[.string ⟨s2.toArray⟩] W (IsPar W (⟨vb, ks, cv, ky.data.toList, vl.data.toList, fl, ex, id, by_, bt, qt⟩, 0)) := fun W => by
                  have q := parsel ⟨s2.toArray⟩ W (by rw [hsz2]; unfold maxLen; omega)
                  rwa [show (⟨s2.toArray⟩ : ByteArray).data.toList = s2 by simp, hp2] at q
                have HPR := Lib.hid hpr
                clear hpr hp2 hlc
                have hd9 : decide ((s2.length : Int) ≤ 2048) = true := decide_eq_true (by omega)
                go_upto_region 22 with (go_at_call 13; go_loud ((with_reducible refine HLC.out.mono ?_); rintro e W5 ⟨rfl, hb5⟩))
                go_upto_region 23 with (go_at_call 10; go_loud ((with_reducible refine (HPR.out _).mono ?_); rintro e W6 ⟨kv6, he6, hk6, hb6⟩; obtain ⟨A6, cc6, rfl, -⟩ := (KyS.of_lst (U := fun _ => False) hk6 (fun _ _ _ e => e)).rd.form; have hf6 : e = .returned (.tuple #[.agg #[.int .u8 vb, .slice A6 ks.length cc6, .int .u8 cv, .string ky, .string vl, .int .u32 fl, .int .i64 ex, .int .u64 id, .int .u64 by_, .int .i64 bt, .bool qt], .int .u8 0]) := he6; subst hf6; clear he6))
                have hba6 : Below W6.heap.size W6 (W6.alloc (.cells #[.int .u8 vb, .slice A6 ks.length cc6, .int .u8 cv, .string ky, .string vl, .int .u32 fl, .int .i64 ex, .int .u64 id, .int .u64 by_, .int .i64 bt, .bool qt] 30)) := (Below.refl _ _).alloc (Nat.le_refl _) _
                have hC6 : Cb (W6.alloc (.cells #[.int .u8 vb, .slice A6 ks.length cc6, .int .u8 cv, .string ky, .string vl, .int .u32 fl, .int .i64 ex, .int .u64 id, .int .u64 by_, .int .i64 bt, .bool qt] 30)) W6.heap.size (cmdC ⟨vb, ks, cv, ky.data.toList, vl.data.toList, fl, ex, id, by_, bt, qt⟩ (.slice A6 ks.length cc6)) := cb_new (by simp only [cmdC, str_list])
                have hk7 : KyG W6 A6 ks.length cc6 ks := KyG.of (KyS.of_lst (U := fun _ => False) hk6 (fun _ _ _ e => e)).rd
                have hk8 := hk7.on hba6
                have hb7 := (hb5.trans (hb6.mono hb5.size)).trans (hba6.mono (Nat.le_trans hb5.size hb6.size))
                have HE7 := Lib.hid (HBT.out.trans (hb7.mono HBT.out.size))
                have hcw7 := HCW.out.new hb7
                generalize W6.alloc _ = Y6 at *
                have HL6 := Lib.hid (lives29 Y6)
                have HSM := Lib.hid (lsameG ⟨vb, ks, cv, ky.data.toList, vl.data.toList, fl, ex, id, by_, bt, qt⟩ ⟨vb, ks, cv, ky.data.toList, vl.data.toList, fl, ex, id, by_, bt, qt⟩ A A6 n ks.length cap cc6 Y6 (HK.out.on HE7.out) hk8 HNM.out (by rw [HKL.out]; exact HNM.out))
                rw [decide_eq_true rfl] at HSM
                simp only [cmdC, str_list] at HSM
                obtain ⟨v0, v1, v2, v3, v4, v5, v6, v7, v8, v9, v10⟩ := cb_cells hC6
                obtain ⟨z0, z1, z2, z3, z4, z5, z6, z7, z8, z9, z10⟩ := cb_cells hcw7
                simp only [str_list] at v0 v1 v2 v3 v4 v5 v6 v7 v8 v9 v10 z0 z1 z2 z3 z4 z5 z6 z7 z8 z9 z10
                clear hb5 hb6 hb7 hba6 hC6 hk7 hk8 hcw7 hk6 x0 x1 x2 x3 x4 x5 x6 x7 x8 x9 x10
                go_wp2_with (first
                  | (go_at_call 16; go_loud ((with_reducible refine HSM.out.mono ?_); rintro e W7 ⟨rfl, hb7⟩))
                  | (go_at_call 9; go_loud (refine (lives29 W7).mono ?_; rintro e w' ⟨rfl, hb⟩)))
                go_ret
                have hb8 := HE7.out.trans (hb7.mono HE7.out.size)
                exact ⟨rfl, hb8.trans (hb.mono hb8.size)⟩
        · obtain ⟨A', c', eA, hcl1, hcm1, hcells1⟩ := HKF.out
          injection eA with eA1 _ eA3
          subst eA1
          subst eA3
          obtain ⟨k1, hk1'⟩ : ∃ x, ks1[0]? = some x := ⟨_, List.getElem?_eq_getElem (by have := HM1.out; omega)⟩
          have hky : ky1 = k1 := by
            rw [HS5.out.1]
            cases ks1 with
            | nil => simp at hk1'
            | cons a b => simp at hk1'; simp [hk1']
          subst hky
          obtain ⟨g1, rfl, hgl1, hgc1⟩ := hcells1 0 ky1 hk1'
          have kcs := Lib.hid (fun (k : Nat) (x : List UInt8) (hx : ks1[k]? = some x) (X : World) (hX : Below Y3.heap.size Y3 X) => show X.cell? ⟨g1, k, none⟩ = some (.string ⟨x.toArray⟩) from by
            obtain ⟨g', e', hl', hc'⟩ := hcells1 k x hx
            injection e' with e'; injection e' with e'
            subst e'
            exact (hX.cell (p := ⟨g1, k, none⟩) hl').trans hc')
          have kc := Lib.hid (fun (X : World) (hX : Below Y3.heap.size Y3 X) => kcs.out 0 ky1 hk1' X hX)
          have hn9 : decide (0 < (m1 : Int)) = true := decide_eq_true (by omega)
          have hn8 : ((m1 : Int) == 0) = false := beq_eq_false_iff_ne.mpr (by omega)
          have hn7 : 0 < m1 := by omega
          have hn5 : decide (0 < m1) = true := decide_eq_true (by omega)
          have hn4 : (m1 == 0) = false := beq_eq_false_iff_ne.mpr (by omega)
          have hn3 : ¬ m1 = 0 := by omega
          have hn2 : decide (m1 = 0) = false := decide_eq_false (by omega)
          have hn6 : (0 : Int) < (m1 : Int) := by omega
          clear hcells1 hgl1 hgc1 hk1' HKF
          have hbd : Below Y3.heap.size Y3 Y3.drew := (Below.refl _ _).drew
          have hsall : ∀ X, Below Y3.heap.size Y3 X → X.cell? ⟨W1.heap.size, 0, none⟩ = some (.int .u8 vb1) ∧ X.cell? ⟨W1.heap.size, 1, none⟩ = some (.slice (some ⟨g1, 0, none⟩) m1 cc1) ∧ X.cell? ⟨W1.heap.size, 2, none⟩ = some (.int .u8 vb1) ∧ X.cell? ⟨W1.heap.size, 3, none⟩ = some (.string ⟨ky1.toArray⟩) ∧ X.cell? ⟨W1.heap.size, 4, none⟩ = some (.string ⟨vl1.toArray⟩) ∧ X.cell? ⟨W1.heap.size, 5, none⟩ = some (.int .u32 fl1) ∧ X.cell? ⟨W1.heap.size, 6, none⟩ = some (.int .i64 ex1) ∧ X.cell? ⟨W1.heap.size, 7, none⟩ = some (.int .u64 id1) ∧ X.cell? ⟨W1.heap.size, 8, none⟩ = some (.int .u64 by1) ∧ X.cell? ⟨W1.heap.size, 9, none⟩ = some (.int .i64 bt1) ∧ X.cell? ⟨W1.heap.size, 10, none⟩ = some (.bool qt1) ∧ X.cell? ⟨W3.heap.size, 0, none⟩ = some (.int .u8 vb1) ∧ X.cell? ⟨W3.heap.size, 1, none⟩ = some (.slice A2 m1 cc2) ∧ X.cell? ⟨W3.heap.size, 2, none⟩ = some (.int .u8 vb1) ∧ X.cell? ⟨W3.heap.size, 3, none⟩ = some (.string ⟨ky1.toArray⟩) ∧ X.cell? ⟨W3.heap.size, 4, none⟩ = some (.string ⟨vl1.toArray⟩) ∧ X.cell? ⟨W3.heap.size, 5, none⟩ = some (.int .u32 fl1) ∧ X.cell? ⟨W3.heap.size, 6, none⟩ = some (.int .i64 ex1) ∧ X.cell? ⟨W3.heap.size, 7, none⟩ = some (.int .u64 id1) ∧ X.cell? ⟨W3.heap.size, 8, none⟩ = some (.int .u64 by1) ∧ X.cell? ⟨W3.heap.size, 9, none⟩ = some (.int .i64 bt1) ∧ X.cell? ⟨W3.heap.size, 10, none⟩ = some (.bool qt1) ∧ X.cell? ⟨g1, 0, none⟩ = some (.string ⟨ky1.toArray⟩) := fun X hX => by
            obtain ⟨a0, a1, a2, a3, a4, a5, a6, a7, a8, a9, a10⟩ := cb_cells (HD13.out.new hX)
            obtain ⟨b0, b1, b2, b3, b4, b5, b6, b7, b8, b9, b10⟩ := cb_cells (HD3.out.new hX)
            exact ⟨a0, a1, a2, a3, a4, a5, a6, a7, a8, a9, a10, b0, b1, b2, b3, b4, b5, b6, b7, b8, b9, b10, kc.out X hX⟩
          have HSA := Lib.hid hsall
          clear hsall
          have hd := HSA.out _ hbd
          have HSM1 := Lib.hid (fun (W : World) (h : Below Y3.heap.size Y3 W) => lsameG ⟨vb1, ks1, vb1, ky1, vl1, fl1, ex1, id1, by1, bt1, qt1⟩ ⟨vb1, ks1, vb1, ky1, vl1, fl1, ex1, id1, by1, bt1, qt1⟩ (some ⟨g1, 0, none⟩) A2 m1 m1 cc1 cc2 W (HG1.out.on h) (HG2.out.on h) (by unfold maxLen; omega) (by unfold maxLen; omega))
          simp only [cmdC, decide_true] at HSM1
          refine wp_region_held_drew (S := fun X => X.cell? ⟨W1.heap.size, 0, none⟩ = some (.int .u8 vb1) ∧ X.cell? ⟨W1.heap.size, 1, none⟩ = some (.slice (some ⟨g1, 0, none⟩) m1 cc1) ∧ X.cell? ⟨W1.heap.size, 2, none⟩ = some (.int .u8 vb1) ∧ X.cell? ⟨W1.heap.size, 3, none⟩ = some (.string ⟨ky1.toArray⟩) ∧ X.cell? ⟨W1.heap.size, 4, none⟩ = some (.string ⟨vl1.toArray⟩) ∧ X.cell? ⟨W1.heap.size, 5, none⟩ = some (.int .u32 fl1) ∧ X.cell? ⟨W1.heap.size, 6, none⟩ = some (.int .i64 ex1) ∧ X.cell? ⟨W1.heap.size, 7, none⟩ = some (.int .u64 id1) ∧ X.cell? ⟨W1.heap.size, 8, none⟩ = some (.int .u64 by1) ∧ X.cell? ⟨W1.heap.size, 9, none⟩ = some (.int .i64 bt1) ∧ X.cell? ⟨W1.heap.size, 10, none⟩ = some (.bool qt1) ∧ X.cell? ⟨W3.heap.size, 0, none⟩ = some (.int .u8 vb1) ∧ X.cell? ⟨W3.heap.size, 1, none⟩ = some (.slice A2 m1 cc2) ∧ X.cell? ⟨W3.heap.size, 2, none⟩ = some (.int .u8 vb1) ∧ X.cell? ⟨W3.heap.size, 3, none⟩ = some (.string ⟨ky1.toArray⟩) ∧ X.cell? ⟨W3.heap.size, 4, none⟩ = some (.string ⟨vl1.toArray⟩) ∧ X.cell? ⟨W3.heap.size, 5, none⟩ = some (.int .u32 fl1) ∧ X.cell? ⟨W3.heap.size, 6, none⟩ = some (.int .i64 ex1) ∧ X.cell? ⟨W3.heap.size, 7, none⟩ = some (.int .u64 id1) ∧ X.cell? ⟨W3.heap.size, 8, none⟩ = some (.int .u64 by1) ∧ X.cell? ⟨W3.heap.size, 9, none⟩ = some (.int .i64 bt1) ∧ X.cell? ⟨W3.heap.size, 10, none⟩ = some (.bool qt1) ∧ X.cell? ⟨g1, 0, none⟩ = some (.string ⟨ky1.toArray⟩)) (by kernel_rfl) hd (fun hHeld => ?_)
          refine wpAnyH_take (i := 0) (oi := ({ dst := some 102, op := Op.move (Operand.tmp 12), type := 31, pos := "outright.go:61", after := #[], guard := none })) (v := ?_) rfl (by kernel_rfl) (by kernel_rfl) (by kernel_rfl) (fun _ _ _ h => h) (Or.inl ⟨by rfl, ?_⟩) (by assumption) ?_
          rotate_left 1
          · (intro w9 hSw; (try dsimp only at hSw); go_simp; try with_reducible rfl)
          try simp only [Act.put, List.setIfInBounds_toArray, List.set_cons_zero, List.set_cons_succ]
          refine wpAnyH_take (i := 1) (oi := ({ dst := some 103, op := Op.binOp BinOp.neq 31 (Operand.tmp 102) (Operand.const (Value.int IntKind.u8 0)) 31, type := 4, pos := "outright.go:61", after := #[{ on := 0, ground := Ground.data }], guard := none })) (v := ?_) rfl (by kernel_rfl) (by kernel_rfl) (by kernel_rfl) (fun _ _ _ h => h) (Or.inl ⟨by rfl, ?_⟩) (by assumption) ?_
          rotate_left 1
          · (intro w9 hSw; (try dsimp only at hSw); go_simp; try with_reducible rfl)
          try simp only [Act.put, List.setIfInBounds_toArray, List.set_cons_zero, List.set_cons_succ]
          refine wpAnyH_take (i := 2) (oi := ({ dst := some 104, op := Op.move (Operand.tmp 103), type := 4, pos := "outright.go:61", after := #[{ on := 1, ground := Ground.data }], guard := none })) (v := ?_) rfl (by kernel_rfl) (by kernel_rfl) (by kernel_rfl) (fun _ _ _ h => h) (Or.inl ⟨by rfl, ?_⟩) (by assumption) ?_
          rotate_left 1
          · (intro w9 hSw; (try dsimp only at hSw); go_simp; try with_reducible rfl)
          try simp only [Act.put, List.setIfInBounds_toArray, List.set_cons_zero, List.set_cons_succ]
          refine wpAnyH_take (i := 3) (oi := ({ dst := some 105, op := Op.load 30 (Operand.tmp 7), type := 30, pos := "outright.go:61", after := #[{ on := 2, ground := Ground.guard }], guard := some (2, false) })) (v := ?_) rfl (by kernel_rfl) (by kernel_rfl) (by kernel_rfl) (fun _ _ _ h => h) (Or.inl ⟨by rfl, ?_⟩) (by assumption) ?_
          rotate_left 1
          · (intro w9 hSw; (try dsimp only at hSw); go_simp; try with_reducible rfl)
          try simp only [Act.put, List.setIfInBounds_toArray, List.set_cons_zero, List.set_cons_succ]
          refine wpAnyH_take (i := 4) (oi := ({ dst := some 106, op := Op.load 30 (Operand.tmp 11), type := 30, pos := "outright.go:61", after := #[{ on := 2, ground := Ground.guard }], guard := some (2, false) })) (v := ?_) rfl (by kernel_rfl) (by kernel_rfl) (by kernel_rfl) (fun _ _ _ h => h) (Or.inl ⟨by rfl, ?_⟩) (by assumption) ?_
          rotate_left 1
          · (intro w9 hSw; (try dsimp only at hSw); go_simp; try with_reducible rfl)
          try simp only [Act.put, List.setIfInBounds_toArray, List.set_cons_zero, List.set_cons_succ]
          refine wpAnyH_ready (rs := [5]) (by kernel_rfl) (by simp) ?_
          refine AllReadyH.cons (o := ({ dst := some 107, op := Op.call { callee := Callee.value (Operand.func 16), args := #[Operand.tmp 105, Operand.tmp 106], argTypes := #[30, 30] }, type := 4, pos := "outright.go:61", after := #[{ on := 3, ground := Ground.data }, { on := 4, ground := Ground.data }, { on := 2, ground := Ground.chain }, { on := 2, ground := Ground.guard }], guard := some (2, false) })) rfl (fun K hK => ?_) AllReadyH.nil
          go_simp
          (with_reducible refine (HSM1.out _ hbd).mono ?_)
          rintro e W4 ⟨rfl, hb4⟩
          have hb34 := hbd.trans (hb4.mono hbd.size)
          refine hK.out _ _ (HSA.out _ hb34) (fun hHeld => ?_)
          clear hK K
          try simp only [Act.put, List.setIfInBounds_toArray, List.set_cons_zero, List.set_cons_succ]
          refine wpAnyH_take (i := 6) (oi := ({ dst := some 108, op := Op.unOp UnOp.not 4 (Operand.tmp 107), type := 4, pos := "outright.go:61", after := #[{ on := 5, ground := Ground.data }, { on := 2, ground := Ground.guard }], guard := some (2, false) })) (v := ?_) rfl (by kernel_rfl) (by kernel_rfl) (by kernel_rfl) (fun _ _ _ h => h) (Or.inl ⟨by rfl, ?_⟩) (by assumption) ?_
          rotate_left 1
          · (intro w9 hSw; (try dsimp only at hSw); go_simp; try with_reducible rfl)
          try simp only [Act.put, List.setIfInBounds_toArray, List.set_cons_zero, List.set_cons_succ]
          refine wpAnyH_take (i := 7) (oi := ({ dst := some 109, op := Op.pick (Operand.tmp 104) (Operand.const (Value.bool true)) (Operand.tmp 108), type := 4, pos := "outright.go:61", after := #[{ on := 2, ground := Ground.data }, { on := 6, ground := Ground.data }], guard := none })) (v := ?_) rfl (by kernel_rfl) (by kernel_rfl) (by kernel_rfl) (fun _ _ _ h => h) (Or.inl ⟨by rfl, ?_⟩) (by assumption) ?_
          rotate_left 1
          · (intro w9 hSw; (try dsimp only at hSw); go_simp; try with_reducible rfl)
          try simp only [Act.put, List.setIfInBounds_toArray, List.set_cons_zero, List.set_cons_succ]
          refine wpAnyH_take (i := 8) (oi := ({ dst := some 110, op := Op.move (Operand.tmp 109), type := 4, pos := "outright.go:61", after := #[{ on := 7, ground := Ground.data }, { on := 5, ground := Ground.chain }], guard := none })) (v := ?_) rfl (by kernel_rfl) (by kernel_rfl) (by kernel_rfl) (fun _ _ _ h => h) (Or.inl ⟨by rfl, ?_⟩) (by assumption) ?_
          rotate_left 1
          · (intro w9 hSw; (try dsimp only at hSw); go_simp; try with_reducible rfl)
          try simp only [Act.put, List.setIfInBounds_toArray, List.set_cons_zero, List.set_cons_succ]
          refine wpAnyH_take (i := 9) (oi := ({ dst := some 111, op := Op.fieldAddr 30 (Operand.tmp 7) 2, type := 0, pos := "outright.go:61", after := #[{ on := 8, ground := Ground.guard }], guard := some (8, false) })) (v := ?_) rfl (by kernel_rfl) (by kernel_rfl) (by kernel_rfl) (fun _ _ _ h => h) (Or.inl ⟨by rfl, ?_⟩) (by assumption) ?_
          rotate_left 1
          · (intro w9 hSw; (try dsimp only at hSw); go_simp; try with_reducible rfl)
          try simp only [Act.put, List.setIfInBounds_toArray, List.set_cons_zero, List.set_cons_succ]
          refine wpAnyH_take (i := 10) (oi := ({ dst := some 112, op := Op.fieldAddr 28 (Operand.tmp 111) 0, type := 0, pos := "outright.go:61", after := #[{ on := 9, ground := Ground.data }, { on := 8, ground := Ground.guard }], guard := some (8, false) })) (v := ?_) rfl (by kernel_rfl) (by kernel_rfl) (by kernel_rfl) (fun _ _ _ h => h) (Or.inl ⟨by rfl, ?_⟩) (by assumption) ?_
          rotate_left 1
          · (intro w9 hSw; (try dsimp only at hSw); go_simp; try with_reducible rfl)
          try simp only [Act.put, List.setIfInBounds_toArray, List.set_cons_zero, List.set_cons_succ]
          refine wpAnyH_take (i := 11) (oi := ({ dst := some 113, op := Op.load 23 (Operand.tmp 112), type := 23, pos := "outright.go:61", after := #[{ on := 10, ground := Ground.data }, { on := 8, ground := Ground.guard }], guard := some (8, false) })) (v := ?_) rfl (by kernel_rfl) (by kernel_rfl) (by kernel_rfl) (fun _ _ _ h => h) (Or.inl ⟨by rfl, ?_⟩) (by assumption) ?_
          rotate_left 1
          · (intro w9 hSw; (try dsimp only at hSw); go_simp; try with_reducible rfl)
          try simp only [Act.put, List.setIfInBounds_toArray, List.set_cons_zero, List.set_cons_succ]
          refine wpAnyH_take (i := 12) (oi := ({ dst := some 114, op := Op.fieldAddr 30 (Operand.tmp 7) 0, type := 0, pos := "outright.go:61", after := #[{ on := 8, ground := Ground.guard }], guard := some (8, false) })) (v := ?_) rfl (by kernel_rfl) (by kernel_rfl) (by kernel_rfl) (fun _ _ _ h => h) (Or.inl ⟨by rfl, ?_⟩) (by assumption) ?_
          rotate_left 1
          · (intro w9 hSw; (try dsimp only at hSw); go_simp; try with_reducible rfl)
          try simp only [Act.put, List.setIfInBounds_toArray, List.set_cons_zero, List.set_cons_succ]
          refine wpAnyH_take (i := 13) (oi := ({ dst := some 115, op := Op.load 23 (Operand.tmp 114), type := 23, pos := "outright.go:61", after := #[{ on := 12, ground := Ground.data }, { on := 8, ground := Ground.guard }], guard := some (8, false) })) (v := ?_) rfl (by kernel_rfl) (by kernel_rfl) (by kernel_rfl) (fun _ _ _ h => h) (Or.inl ⟨by rfl, ?_⟩) (by assumption) ?_
          rotate_left 1
          · (intro w9 hSw; (try dsimp only at hSw); go_simp; try with_reducible rfl)
          try simp only [Act.put, List.setIfInBounds_toArray, List.set_cons_zero, List.set_cons_succ]
          refine wpAnyH_take (i := 14) (oi := ({ dst := some 116, op := Op.binOp BinOp.neq 23 (Operand.tmp 113) (Operand.tmp 115) 23, type := 4, pos := "outright.go:61", after := #[{ on := 11, ground := Ground.data }, { on := 13, ground := Ground.data }, { on := 8, ground := Ground.guard }], guard := some (8, false) })) (v := ?_) rfl (by kernel_rfl) (by kernel_rfl) (by kernel_rfl) (fun _ _ _ h => h) (Or.inl ⟨by rfl, ?_⟩) (by assumption) ?_
          rotate_left 1
          · (intro w9 hSw; (try dsimp only at hSw); go_simp; try with_reducible rfl)
          try simp only [Act.put, List.setIfInBounds_toArray, List.set_cons_zero, List.set_cons_succ]
          refine wpAnyH_take (i := 15) (oi := ({ dst := some 117, op := Op.pick (Operand.tmp 110) (Operand.const (Value.bool true)) (Operand.tmp 116), type := 4, pos := "outright.go:61", after := #[{ on := 8, ground := Ground.data }, { on := 14, ground := Ground.data }], guard := none })) (v := ?_) rfl (by kernel_rfl) (by kernel_rfl) (by kernel_rfl) (fun _ _ _ h => h) (Or.inl ⟨by rfl, ?_⟩) (by assumption) ?_
          rotate_left 1
          · (intro w9 hSw; (try dsimp only at hSw); go_simp; try with_reducible rfl)
          try simp only [Act.put, List.setIfInBounds_toArray, List.set_cons_zero, List.set_cons_succ]
          refine wpAnyH_take (i := 16) (oi := ({ dst := some 118, op := Op.move (Operand.tmp 117), type := 4, pos := "outright.go:61", after := #[{ on := 15, ground := Ground.data }, { on := 8, ground := Ground.chain }], guard := none })) (v := ?_) rfl (by kernel_rfl) (by kernel_rfl) (by kernel_rfl) (fun _ _ _ h => h) (Or.inl ⟨by rfl, ?_⟩) (by assumption) ?_
          rotate_left 1
          · (intro w9 hSw; (try dsimp only at hSw); go_simp; try with_reducible rfl)
          try simp only [Act.put, List.setIfInBounds_toArray, List.set_cons_zero, List.set_cons_succ]
          refine wpAnyH_take (i := 17) (oi := ({ dst := some 119, op := Op.fieldAddr 30 (Operand.tmp 7) 1, type := 0, pos := "outright.go:61", after := #[{ on := 16, ground := Ground.guard }], guard := some (16, false) })) (v := ?_) rfl (by kernel_rfl) (by kernel_rfl) (by kernel_rfl) (fun _ _ _ h => h) (Or.inl ⟨by rfl, ?_⟩) (by assumption) ?_
          rotate_left 1
          · (intro w9 hSw; (try dsimp only at hSw); go_simp; try with_reducible rfl)
          try simp only [Act.put, List.setIfInBounds_toArray, List.set_cons_zero, List.set_cons_succ]
          refine wpAnyH_take (i := 18) (oi := ({ dst := some 120, op := Op.load 24 (Operand.tmp 119), type := 24, pos := "outright.go:61", after := #[{ on := 17, ground := Ground.data }, { on := 16, ground := Ground.guard }], guard := some (16, false) })) (v := ?_) rfl (by kernel_rfl) (by kernel_rfl) (by kernel_rfl) (fun _ _ _ h => h) (Or.inl ⟨by rfl, ?_⟩) (by assumption) ?_
          rotate_left 1
          · (intro w9 hSw; (try dsimp only at hSw); go_simp; try with_reducible rfl)
          try simp only [Act.put, List.setIfInBounds_toArray, List.set_cons_zero, List.set_cons_succ]
          refine wpAnyH_take (i := 19) (oi := ({ dst := some 121, op := Op.call { callee := Callee.builtin Builtin.len, args := #[Operand.tmp 120], argTypes := #[24] }, type := 3, pos := "outright.go:61", after := #[{ on := 18, ground := Ground.data }, { on := 16, ground := Ground.guard }], guard := some (16, false) })) (v := ?_) rfl (by kernel_rfl) (by kernel_rfl) (by kernel_rfl) (fun _ _ _ h => h) (Or.inl ⟨by rfl, ?_⟩) (by assumption) ?_
          rotate_left 1
          · (intro w9 hSw; (try dsimp only at hSw); go_simp; try with_reducible rfl)
          try simp only [Act.put, List.setIfInBounds_toArray, List.set_cons_zero, List.set_cons_succ]
          refine wpAnyH_take (i := 20) (oi := ({ dst := some 122, op := Op.binOp BinOp.gtr 3 (Operand.tmp 121) (Operand.const (Value.int IntKind.i64 0)) 3, type := 4, pos := "outright.go:61", after := #[{ on := 19, ground := Ground.data }, { on := 16, ground := Ground.guard }], guard := some (16, false) })) (v := ?_) rfl (by kernel_rfl) (by kernel_rfl) (by kernel_rfl) (fun _ _ _ h => h) (Or.inl ⟨by rfl, ?_⟩) (by assumption) ?_
          rotate_left 1
          · (intro w9 hSw; (try dsimp only at hSw); go_simp; try with_reducible rfl)
          try simp only [Act.put, List.setIfInBounds_toArray, List.set_cons_zero, List.set_cons_succ]
          refine wpAnyH_take (i := 21) (oi := ({ dst := some 123, op := Op.move (Operand.tmp 122), type := 4, pos := "outright.go:61", after := #[{ on := 20, ground := Ground.data }, { on := 16, ground := Ground.chain }, { on := 16, ground := Ground.guard }], guard := some (16, false) })) (v := ?_) rfl (by kernel_rfl) (by kernel_rfl) (by kernel_rfl) (fun _ _ _ h => h) (Or.inl ⟨by rfl, ?_⟩) (by assumption) ?_
          rotate_left 1
          · (intro w9 hSw; (try dsimp only at hSw); go_simp; try with_reducible rfl)
          try simp only [Act.put, List.setIfInBounds_toArray, List.set_cons_zero, List.set_cons_succ]
          refine wpAnyH_take (i := 22) (oi := ({ dst := some 124, op := Op.fieldAddr 30 (Operand.tmp 7) 2, type := 0, pos := "outright.go:61", after := #[{ on := 21, ground := Ground.guard }], guard := some (21, true) })) (v := ?_) rfl (by kernel_rfl) (by kernel_rfl) (by kernel_rfl) (fun _ _ _ h => h) (Or.inl ⟨by rfl, ?_⟩) (by assumption) ?_
          rotate_left 1
          · (intro w9 hSw; (try dsimp only at hSw); go_simp; try with_reducible rfl)
          try simp only [Act.put, List.setIfInBounds_toArray, List.set_cons_zero, List.set_cons_succ]
          refine wpAnyH_take (i := 23) (oi := ({ dst := some 125, op := Op.fieldAddr 28 (Operand.tmp 124) 1, type := 0, pos := "outright.go:61", after := #[{ on := 22, ground := Ground.data }, { on := 21, ground := Ground.guard }], guard := some (21, true) })) (v := ?_) rfl (by kernel_rfl) (by kernel_rfl) (by kernel_rfl) (fun _ _ _ h => h) (Or.inl ⟨by rfl, ?_⟩) (by assumption) ?_
          rotate_left 1
          · (intro w9 hSw; (try dsimp only at hSw); go_simp; try with_reducible rfl)
          try simp only [Act.put, List.setIfInBounds_toArray, List.set_cons_zero, List.set_cons_succ]
          refine wpAnyH_take (i := 24) (oi := ({ dst := some 126, op := Op.load 9 (Operand.tmp 125), type := 9, pos := "outright.go:61", after := #[{ on := 23, ground := Ground.data }, { on := 21, ground := Ground.guard }], guard := some (21, true) })) (v := ?_) rfl (by kernel_rfl) (by kernel_rfl) (by kernel_rfl) (fun _ _ _ h => h) (Or.inl ⟨by rfl, ?_⟩) (by assumption) ?_
          rotate_left 1
          · (intro w9 hSw; (try dsimp only at hSw); go_simp; try with_reducible rfl)
          try simp only [Act.put, List.setIfInBounds_toArray, List.set_cons_zero, List.set_cons_succ]
          refine wpAnyH_take (i := 25) (oi := ({ dst := some 127, op := Op.fieldAddr 30 (Operand.tmp 7) 1, type := 0, pos := "outright.go:61", after := #[{ on := 21, ground := Ground.guard }], guard := some (21, true) })) (v := ?_) rfl (by kernel_rfl) (by kernel_rfl) (by kernel_rfl) (fun _ _ _ h => h) (Or.inl ⟨by rfl, ?_⟩) (by assumption) ?_
          rotate_left 1
          · (intro w9 hSw; (try dsimp only at hSw); go_simp; try with_reducible rfl)
          try simp only [Act.put, List.setIfInBounds_toArray, List.set_cons_zero, List.set_cons_succ]
          refine wpAnyH_take (i := 26) (oi := ({ dst := some 128, op := Op.load 24 (Operand.tmp 127), type := 24, pos := "outright.go:61", after := #[{ on := 25, ground := Ground.data }, { on := 21, ground := Ground.guard }], guard := some (21, true) })) (v := ?_) rfl (by kernel_rfl) (by kernel_rfl) (by kernel_rfl) (fun _ _ _ h => h) (Or.inl ⟨by rfl, ?_⟩) (by assumption) ?_
          rotate_left 1
          · (intro w9 hSw; (try dsimp only at hSw); go_simp; try with_reducible rfl)
          try simp only [Act.put, List.setIfInBounds_toArray, List.set_cons_zero, List.set_cons_succ]
          refine wpAnyH_take (i := 27) (oi := ({ dst := some 129, op := Op.indexAddr 24 (Operand.tmp 128) (Operand.const (Value.int IntKind.i64 0)), type := 0, pos := "outright.go:61", after := #[{ on := 26, ground := Ground.data }, { on := 21, ground := Ground.guard }], guard := some (21, true) })) (v := ?_) rfl (by kernel_rfl) (by kernel_rfl) (by kernel_rfl) (fun _ _ _ h => h) (Or.inl ⟨by rfl, ?_⟩) (by assumption) ?_
          rotate_left 1
          · (intro w9 hSw; (try dsimp only at hSw); go_simp; try with_reducible rfl)
          try simp only [Act.put, List.setIfInBounds_toArray, List.set_cons_zero, List.set_cons_succ]
          refine wpAnyH_take (i := 28) (oi := ({ dst := some 130, op := Op.load 9 (Operand.tmp 129), type := 9, pos := "outright.go:61", after := #[{ on := 27, ground := Ground.data }, { on := 21, ground := Ground.guard }], guard := some (21, true) })) (v := ?_) rfl (by kernel_rfl) (by kernel_rfl) (by kernel_rfl) (fun _ _ _ h => h) (Or.inl ⟨by rfl, ?_⟩) (by assumption) ?_
          rotate_left 1
          · (intro w9 hSw; (try dsimp only at hSw); go_simp; try with_reducible rfl)
          try simp only [Act.put, List.setIfInBounds_toArray, List.set_cons_zero, List.set_cons_succ]
          refine wpAnyH_take (i := 29) (oi := ({ dst := some 131, op := Op.binOp BinOp.neq 9 (Operand.tmp 126) (Operand.tmp 130) 9, type := 4, pos := "outright.go:61", after := #[{ on := 24, ground := Ground.data }, { on := 28, ground := Ground.data }, { on := 21, ground := Ground.guard }], guard := some (21, true) })) (v := ?_) rfl (by kernel_rfl) (by kernel_rfl) (by kernel_rfl) (fun _ _ _ h => h) (Or.inl ⟨by rfl, ?_⟩) (by assumption) ?_
          rotate_left 1
          · (intro w9 hSw; (try dsimp only at hSw); go_simp; try with_reducible rfl)
          try simp only [Act.put, List.setIfInBounds_toArray, List.set_cons_zero, List.set_cons_succ]
          refine wpAnyH_take (i := 30) (oi := ({ dst := some 132, op := Op.pick (Operand.tmp 123) (Operand.tmp 131) (Operand.const (Value.bool false)), type := 4, pos := "outright.go:61", after := #[{ on := 21, ground := Ground.data }, { on := 29, ground := Ground.data }, { on := 16, ground := Ground.guard }], guard := some (16, false) })) (v := ?_) rfl (by kernel_rfl) (by kernel_rfl) (by kernel_rfl) (fun _ _ _ h => h) (Or.inl ⟨by rfl, ?_⟩) (by assumption) ?_
          rotate_left 1
          · (intro w9 hSw; (try dsimp only at hSw); go_simp; try with_reducible rfl)
          try simp only [Act.put, List.setIfInBounds_toArray, List.set_cons_zero, List.set_cons_succ]
          refine wpAnyH_take (i := 31) (oi := ({ dst := some 133, op := Op.pick (Operand.tmp 118) (Operand.const (Value.bool true)) (Operand.tmp 132), type := 4, pos := "outright.go:61", after := #[{ on := 16, ground := Ground.data }, { on := 30, ground := Ground.data }], guard := none })) (v := ?_) rfl (by kernel_rfl) (by kernel_rfl) (by kernel_rfl) (fun _ _ _ h => h) (Or.inl ⟨by rfl, ?_⟩) (by assumption) ?_
          rotate_left 1
          · (intro w9 hSw; (try dsimp only at hSw); go_simp; try with_reducible rfl)
          try simp only [Act.put, List.setIfInBounds_toArray, List.set_cons_zero, List.set_cons_succ]
          refine wpAnyH_take (i := 32) (oi := ({ dst := some 134, op := Op.move (Operand.tmp 133), type := 4, pos := "outright.go:61", after := #[{ on := 31, ground := Ground.data }, { on := 21, ground := Ground.chain }], guard := none })) (v := ?_) rfl (by kernel_rfl) (by kernel_rfl) (by kernel_rfl) (fun _ _ _ h => h) (Or.inl ⟨by rfl, ?_⟩) (by assumption) ?_
          rotate_left 1
          · (intro w9 hSw; (try dsimp only at hSw); go_simp; try with_reducible rfl)
          try simp only [Act.put, List.setIfInBounds_toArray, List.set_cons_zero, List.set_cons_succ]
          refine wpAnyH_take (i := 33) (oi := ({ dst := some 135, op := Op.fieldAddr 30 (Operand.tmp 7) 1, type := 0, pos := "outright.go:61", after := #[{ on := 32, ground := Ground.guard }], guard := some (32, false) })) (v := ?_) rfl (by kernel_rfl) (by kernel_rfl) (by kernel_rfl) (fun _ _ _ h => h) (Or.inl ⟨by rfl, ?_⟩) (by assumption) ?_
          rotate_left 1
          · (intro w9 hSw; (try dsimp only at hSw); go_simp; try with_reducible rfl)
          try simp only [Act.put, List.setIfInBounds_toArray, List.set_cons_zero, List.set_cons_succ]
          refine wpAnyH_take (i := 34) (oi := ({ dst := some 136, op := Op.load 24 (Operand.tmp 135), type := 24, pos := "outright.go:61", after := #[{ on := 33, ground := Ground.data }, { on := 32, ground := Ground.guard }], guard := some (32, false) })) (v := ?_) rfl (by kernel_rfl) (by kernel_rfl) (by kernel_rfl) (fun _ _ _ h => h) (Or.inl ⟨by rfl, ?_⟩) (by assumption) ?_
          rotate_left 1
          · (intro w9 hSw; (try dsimp only at hSw); go_simp; try with_reducible rfl)
          try simp only [Act.put, List.setIfInBounds_toArray, List.set_cons_zero, List.set_cons_succ]
          refine wpAnyH_take (i := 35) (oi := ({ dst := some 137, op := Op.call { callee := Callee.builtin Builtin.len, args := #[Operand.tmp 136], argTypes := #[24] }, type := 3, pos := "outright.go:61", after := #[{ on := 34, ground := Ground.data }, { on := 32, ground := Ground.guard }], guard := some (32, false) })) (v := ?_) rfl (by kernel_rfl) (by kernel_rfl) (by kernel_rfl) (fun _ _ _ h => h) (Or.inl ⟨by rfl, ?_⟩) (by assumption) ?_
          rotate_left 1
          · (intro w9 hSw; (try dsimp only at hSw); go_simp; try with_reducible rfl)
          try simp only [Act.put, List.setIfInBounds_toArray, List.set_cons_zero, List.set_cons_succ]
          refine wpAnyH_take (i := 36) (oi := ({ dst := some 138, op := Op.binOp BinOp.eql 3 (Operand.tmp 137) (Operand.const (Value.int IntKind.i64 0)) 3, type := 4, pos := "outright.go:61", after := #[{ on := 35, ground := Ground.data }, { on := 32, ground := Ground.guard }], guard := some (32, false) })) (v := ?_) rfl (by kernel_rfl) (by kernel_rfl) (by kernel_rfl) (fun _ _ _ h => h) (Or.inl ⟨by rfl, ?_⟩) (by assumption) ?_
          rotate_left 1
          · (intro w9 hSw; (try dsimp only at hSw); go_simp; try with_reducible rfl)
          try simp only [Act.put, List.setIfInBounds_toArray, List.set_cons_zero, List.set_cons_succ]
          refine wpAnyH_take (i := 37) (oi := ({ dst := some 139, op := Op.move (Operand.tmp 138), type := 4, pos := "outright.go:61", after := #[{ on := 36, ground := Ground.data }, { on := 32, ground := Ground.chain }, { on := 32, ground := Ground.guard }], guard := some (32, false) })) (v := ?_) rfl (by kernel_rfl) (by kernel_rfl) (by kernel_rfl) (fun _ _ _ h => h) (Or.inl ⟨by rfl, ?_⟩) (by assumption) ?_
          rotate_left 1
          · (intro w9 hSw; (try dsimp only at hSw); go_simp; try with_reducible rfl)
          try simp only [Act.put, List.setIfInBounds_toArray, List.set_cons_zero, List.set_cons_succ]
          refine wpAnyH_take (i := 38) (oi := ({ dst := some 140, op := Op.fieldAddr 30 (Operand.tmp 7) 2, type := 0, pos := "outright.go:61", after := #[{ on := 37, ground := Ground.guard }], guard := some (37, true) })) (v := undef) rfl (by kernel_rfl) (by kernel_rfl) (by kernel_rfl) (fun _ _ _ h => h) (Or.inr ⟨by rfl, rfl⟩) (by assumption) ?_
          try simp only [Act.put, List.setIfInBounds_toArray, List.set_cons_zero, List.set_cons_succ]
          refine wpAnyH_take (i := 39) (oi := ({ dst := some 141, op := Op.fieldAddr 28 (Operand.tmp 140) 1, type := 0, pos := "outright.go:61", after := #[{ on := 38, ground := Ground.data }, { on := 37, ground := Ground.guard }], guard := some (37, true) })) (v := undef) rfl (by kernel_rfl) (by kernel_rfl) (by kernel_rfl) (fun _ _ _ h => h) (Or.inr ⟨by rfl, rfl⟩) (by assumption) ?_
          try simp only [Act.put, List.setIfInBounds_toArray, List.set_cons_zero, List.set_cons_succ]
          refine wpAnyH_take (i := 40) (oi := ({ dst := some 142, op := Op.load 9 (Operand.tmp 141), type := 9, pos := "outright.go:61", after := #[{ on := 39, ground := Ground.data }, { on := 37, ground := Ground.guard }], guard := some (37, true) })) (v := undef) rfl (by kernel_rfl) (by kernel_rfl) (by kernel_rfl) (fun _ _ _ h => h) (Or.inr ⟨by rfl, rfl⟩) (by assumption) ?_
          try simp only [Act.put, List.setIfInBounds_toArray, List.set_cons_zero, List.set_cons_succ]
          refine wpAnyH_take (i := 41) (oi := ({ dst := some 143, op := Op.binOp BinOp.neq 9 (Operand.tmp 142) (Operand.const (Value.string { data := #[] })) 9, type := 4, pos := "outright.go:61", after := #[{ on := 40, ground := Ground.data }, { on := 37, ground := Ground.guard }], guard := some (37, true) })) (v := undef) rfl (by kernel_rfl) (by kernel_rfl) (by kernel_rfl) (fun _ _ _ h => h) (Or.inr ⟨by rfl, rfl⟩) (by assumption) ?_
          try simp only [Act.put, List.setIfInBounds_toArray, List.set_cons_zero, List.set_cons_succ]
          refine wpAnyH_take (i := 42) (oi := ({ dst := some 144, op := Op.pick (Operand.tmp 139) (Operand.tmp 143) (Operand.const (Value.bool false)), type := 4, pos := "outright.go:61", after := #[{ on := 37, ground := Ground.data }, { on := 41, ground := Ground.data }, { on := 32, ground := Ground.guard }], guard := some (32, false) })) (v := ?_) rfl (by kernel_rfl) (by kernel_rfl) (by kernel_rfl) (fun _ _ _ h => h) (Or.inl ⟨by rfl, ?_⟩) (by assumption) ?_
          rotate_left 1
          · (intro w9 hSw; (try dsimp only at hSw); go_simp; try with_reducible rfl)
          try simp only [Act.put, List.setIfInBounds_toArray, List.set_cons_zero, List.set_cons_succ]
          refine wpAnyH_take (i := 43) (oi := ({ dst := some 145, op := Op.pick (Operand.tmp 134) (Operand.const (Value.bool true)) (Operand.tmp 144), type := 4, pos := "outright.go:61", after := #[{ on := 32, ground := Ground.data }, { on := 42, ground := Ground.data }], guard := none })) (v := ?_) rfl (by kernel_rfl) (by kernel_rfl) (by kernel_rfl) (fun _ _ _ h => h) (Or.inl ⟨by rfl, ?_⟩) (by assumption) ?_
          rotate_left 1
          · (intro w9 hSw; (try dsimp only at hSw); go_simp; try with_reducible rfl)
          try simp only [Act.put, List.setIfInBounds_toArray, List.set_cons_zero, List.set_cons_succ]
          refine wpAnyH_done (by kernel_rfl) ?_ _
          all_goals
            have HB4 := Lib.hid hb34
            have HBT := Lib.hid (HY3.out.trans (hb34.mono HY3.out.size))
            have HX1E := Lib.hid (HX3.out.trans (hb34.mono HX3.out.size))
            have hq1 : W4.cell? ⟨W1.heap.size, 1, none⟩ = some (.slice (some ⟨g1, 0, none⟩) m1 cc1) := (HD13.out.new hb34).at_ 1 _ rfl
            clear hd hHeld hbd hb4 hb34 HSM1 HSA
            go_upto_region 17 with fail
            go_loopw [13] (fun i wr => ∃ k : Nat, k ≤ m1 ∧ i = .int .i64 k ∧ wr = W4) (fun i _ => m1 - (intOf i).toNat)
            case atStart => exact ⟨0, by omega, rfl, rfl⟩
            case round =>
              obtain ⟨k2, hk2, rfl, rfl⟩ := hrel
              by_cases hlt : k2 < m1
              · obtain ⟨x2, hx2⟩ : ∃ x, ks1[k2]? = some x := ⟨_, List.getElem?_eq_getElem (by have := HM1.out; omega)⟩
                have hok : okF x2 = true := List.all_eq_true.mp HS5.out.2 x2 (List.mem_of_getElem? hx2)
                have hxl := (ll_facts hok).2.1
                have hcx : wr.cell? ⟨g1, k2, none⟩ = some (.string ⟨x2.toArray⟩) := (kcs.out k2 x2 hx2 _ HB4.out)
                have hcap1 : m1 ≤ cc1 := HG1.out.cap (by omega)
                have hok2 : ∀ W, Calls Tryd.prog 17 #[.string ⟨x2.toArray⟩] W fun e w' => e = .returned (.bool true) ∧ W = w' := fun W => by
                  have q := okw ⟨x2.toArray⟩ W (by show x2.toArray.size ≤ maxLen; simp [maxLen]; omega)
                  rwa [okF_bytes, hok] at q
                have HOK2 := Lib.hid hok2
                clear hok2
                have hd1 : decide ((k2 : Int) < (m1 : Int)) = true := decide_eq_true (by omega)
                go_wp2_with (go_at_call 17; go_loud ((with_reducible refine (HOK2.out _).mono ?_); rintro e w9 ⟨rfl, rfl⟩))
                go_roundw
                case rel => exact ⟨k2 + 1, by omega, by go_num, trivial⟩
                case measure => simp [intOf]; omega
              · have hd1 : decide ((k2 : Int) < (m1 : Int)) = false := decide_eq_false (by omega)
                go_upto_region 21 with fail
                have HKL := Lib.hid hkl
                clear hkl
                have HLC := Lib.hid (clinew ⟨vb, ks, cv, ky.data.toList, vl.data.toList, fl, ex, id, by_, bt, qt⟩ A n cap wr HR.out (HK.out.on HBT.out) (by omega) (Nat.le_trans HTOT.out (by omega)) (ll_tab HT.out HBT.out))
                have HCW := Lib.hid (HC1.out.new HX1E.out)
                obtain ⟨x0, x1, x2, x3, x4, x5, x6, x7, x8, x9, x10⟩ := cb_cells HCW.out
                simp only [str_list] at x0 x1 x2 x3 x4 x5 x6 x7 x8 x9 x10
                simp only [cmdC, str_list] at HLC
                cases hlc : lineO ⟨vb, ks, cv, ky.data.toList, vl.data.toList, fl, ex, id, by_, bt, qt⟩ with
                | none =>
                  unfold LinePost at HLC
                  rw [hlc] at HLC
                  dsimp only [Option.getD_none, Option.isSome_none] at HLC
                  have hp0 : ∀ W, Calls Tryd.prog 10 #[.string ⟨#[]⟩] W (IsPar W (Cmd.none, 1)) := fun W => parsel ⟨#[]⟩ W (by decide)
                  have HP0 := Lib.hid hp0
                  clear hp0
                  go_upto_region 22 with (go_at_call 13; go_loud ((with_reducible refine HLC.out.mono ?_); rintro e W5 ⟨rfl, hb5⟩))
                  go_upto_region 23 with (go_at_call 10; go_loud ((with_reducible refine (HP0.out _).mono ?_); rintro e W6 ⟨kv6, he6, hk6, hb6⟩; obtain ⟨A6, cc6, rfl, -⟩ := (KyS.of_lst (U := fun _ => False) hk6 (fun _ _ _ e => e)).rd.form; have hf6 : e = .returned (.tuple #[.agg #[.int .u8 0, .slice A6 0 cc6, .int .u8 0, .string ⟨#[]⟩, .string ⟨#[]⟩, .int .u32 0, .int .i64 0, .int .u64 0, .int .u64 0, .int .i64 0, .bool false], .int .u8 1]) := he6; subst hf6; clear he6 hk6))
                  have hb7 := (hb5.trans (hb6.mono hb5.size))
                  have HE7 := Lib.hid (HBT.out.trans ((hb7.alloc hb7.size (.cells #[.int .u8 0, .slice A6 0 cc6, .int .u8 0, .string ⟨#[]⟩, .string ⟨#[]⟩, .int .u32 0, .int .i64 0, .int .u64 0, .int .u64 0, .int .i64 0, .bool false] 30)).mono HBT.out.size))
                  generalize W6.alloc _ = Y6 at *
                  have HL6 := Lib.hid (lives29 Y6)
                  clear hb5 hb6 hb7
                  go_wp2_with (go_at_call 9; refine HL6.out.mono ?_; rintro e w' ⟨rfl, hb⟩)
                  go_ret
                  exact ⟨rfl, HE7.out.trans (hb.mono HE7.out.size)⟩
                | some s2 =>
                  unfold LinePost at HLC
                  rw [hlc] at HLC
                  dsimp only [Option.getD_some, Option.isSome_some] at HLC
                  have hlen2 := line_len hlc
                  have hp2 := line_some hlc
                  have hsz2 : (⟨s2.toArray⟩ : ByteArray).size = s2.length := by show s2.toArray.size = _; simp
                  have hpr : ∀ W, Calls Tryd.prog 10 #[.string ⟨s2.toArray⟩] W (IsPar W (⟨vb, ks, cv, ky.data.toList, vl.data.toList, fl, ex, id, by_, bt, qt⟩, 0)) := fun W => by
                    have q := parsel ⟨s2.toArray⟩ W (by rw [hsz2]; unfold maxLen; omega)
                    rwa [show (⟨s2.toArray⟩ : ByteArray).data.toList = s2 by simp, hp2] at q
                  have HPR := Lib.hid hpr
                  clear hpr hp2 hlc
                  have hd9 : decide ((s2.length : Int) ≤ 2048) = true := decide_eq_true (by omega)
                  go_upto_region 22 with (go_at_call 13; go_loud ((with_reducible refine HLC.out.mono ?_); rintro e W5 ⟨rfl, hb5⟩))
                  go_upto_region 23 with (go_at_call 10; go_loud ((with_reducible refine (HPR.out _).mono ?_); rintro e W6 ⟨kv6, he6, hk6, hb6⟩; obtain ⟨A6, cc6, rfl, -⟩ := (KyS.of_lst (U := fun _ => False) hk6 (fun _ _ _ e => e)).rd.form; have hf6 : e = .returned (.tuple #[.agg #[.int .u8 vb, .slice A6 ks.length cc6, .int .u8 cv, .string ky, .string vl, .int .u32 fl, .int .i64 ex, .int .u64 id, .int .u64 by_, .int .i64 bt, .bool qt], .int .u8 0]) := he6; subst hf6; clear he6))
                  have hba6 : Below W6.heap.size W6 (W6.alloc (.cells #[.int .u8 vb, .slice A6 ks.length cc6, .int .u8 cv, .string ky, .string vl, .int .u32 fl, .int .i64 ex, .int .u64 id, .int .u64 by_, .int .i64 bt, .bool qt] 30)) := (Below.refl _ _).alloc (Nat.le_refl _) _
                  have hC6 : Cb (W6.alloc (.cells #[.int .u8 vb, .slice A6 ks.length cc6, .int .u8 cv, .string ky, .string vl, .int .u32 fl, .int .i64 ex, .int .u64 id, .int .u64 by_, .int .i64 bt, .bool qt] 30)) W6.heap.size (cmdC ⟨vb, ks, cv, ky.data.toList, vl.data.toList, fl, ex, id, by_, bt, qt⟩ (.slice A6 ks.length cc6)) := cb_new (by simp only [cmdC, str_list])
                  have hk7 : KyG W6 A6 ks.length cc6 ks := KyG.of (KyS.of_lst (U := fun _ => False) hk6 (fun _ _ _ e => e)).rd
                  have hk8 := hk7.on hba6
                  have hb7 := (hb5.trans (hb6.mono hb5.size)).trans (hba6.mono (Nat.le_trans hb5.size hb6.size))
                  have HE7 := Lib.hid (HBT.out.trans (hb7.mono HBT.out.size))
                  have hcw7 := HCW.out.new hb7
                  generalize W6.alloc _ = Y6 at *
                  have HL6 := Lib.hid (lives29 Y6)
                  have HSM := Lib.hid (lsameG ⟨vb, ks, cv, ky.data.toList, vl.data.toList, fl, ex, id, by_, bt, qt⟩ ⟨vb, ks, cv, ky.data.toList, vl.data.toList, fl, ex, id, by_, bt, qt⟩ A A6 n ks.length cap cc6 Y6 (HK.out.on HE7.out) hk8 HNM.out (by rw [HKL.out]; exact HNM.out))
                  rw [decide_eq_true rfl] at HSM
                  simp only [cmdC, str_list] at HSM
                  obtain ⟨v0, v1, v2, v3, v4, v5, v6, v7, v8, v9, v10⟩ := cb_cells hC6
                  obtain ⟨z0, z1, z2, z3, z4, z5, z6, z7, z8, z9, z10⟩ := cb_cells hcw7
                  simp only [str_list] at v0 v1 v2 v3 v4 v5 v6 v7 v8 v9 v10 z0 z1 z2 z3 z4 z5 z6 z7 z8 z9 z10
                  clear hb5 hb6 hb7 hba6 hC6 hk7 hk8 hcw7 hk6 x0 x1 x2 x3 x4 x5 x6 x7 x8 x9 x10
                  go_wp2_with (first
                    | (go_at_call 16; go_loud ((with_reducible refine HSM.out.mono ?_); rintro e W7 ⟨rfl, hb7⟩))
                    | (go_at_call 9; go_loud (refine (lives29 W7).mono ?_; rintro e w' ⟨rfl, hb⟩)))
                  go_ret
                  have hb8 := HE7.out.trans (hb7.mono HE7.out.size)
                  exact ⟨rfl, hb8.trans (hb.mono hb8.size)⟩
      · have hln := HOWN.out.2 ht1
        have hte : ((t1 : Int) == 0) = false := beq_eq_false_iff_ne.mpr (by omega)
        go_upto_region 10 with (go_at_call 13; go_loud ((with_reducible refine HLA.out.mono ?_); rintro e W2 ⟨rfl, hb2⟩; rw [hln]; dsimp only [Option.getD_none, Option.isSome_none]))
        go_upto_region 21 with fail
        have HBT := Lib.hid (HY1.out.trans (hb2.mono HY1.out.size))
        have HX1E := Lib.hid (HX1.out.trans (hb2.mono HX1.out.size))
        have HKL := Lib.hid hkl
        clear hkl
        have HLC := Lib.hid (clinew ⟨vb, ks, cv, ky.data.toList, vl.data.toList, fl, ex, id, by_, bt, qt⟩ A n cap W2 HR.out (HK.out.on HBT.out) (by omega) (Nat.le_trans HTOT.out (by omega)) (ll_tab HT.out HBT.out))
        have HCW := Lib.hid (HC1.out.new HX1E.out)
        obtain ⟨x0, x1, x2, x3, x4, x5, x6, x7, x8, x9, x10⟩ := cb_cells HCW.out
        simp only [str_list] at x0 x1 x2 x3 x4 x5 x6 x7 x8 x9 x10
        simp only [cmdC, str_list] at HLC
        cases hlc : lineO ⟨vb, ks, cv, ky.data.toList, vl.data.toList, fl, ex, id, by_, bt, qt⟩ with
        | none =>
          unfold LinePost at HLC
          rw [hlc] at HLC
          dsimp only [Option.getD_none, Option.isSome_none] at HLC
          have hp0 : ∀ W, Calls Tryd.prog 10 #[.string ⟨#[]⟩] W (IsPar W (Cmd.none, 1)) := fun W => parsel ⟨#[]⟩ W (by decide)
          have HP0 := Lib.hid hp0
          clear hp0
          go_upto_region 22 with (go_at_call 13; go_loud ((with_reducible refine HLC.out.mono ?_); rintro e W5 ⟨rfl, hb5⟩))
          go_upto_region 23 with (go_at_call 10; go_loud ((with_reducible refine (HP0.out _).mono ?_); rintro e W6 ⟨kv6, he6, hk6, hb6⟩; obtain ⟨A6, cc6, rfl, -⟩ := (KyS.of_lst (U := fun _ => False) hk6 (fun _ _ _ e => e)).rd.form; have hf6 : e = .returned (.tuple #[.agg #[.int .u8 0, .slice A6 0 cc6, .int .u8 0, .string ⟨#[]⟩, .string ⟨#[]⟩, .int .u32 0, .int .i64 0, .int .u64 0, .int .u64 0, .int .i64 0, .bool false], .int .u8 1]) := he6; subst hf6; clear he6 hk6))
          have hb7 := (hb5.trans (hb6.mono hb5.size))
          have HE7 := Lib.hid (HBT.out.trans ((hb7.alloc hb7.size (.cells #[.int .u8 0, .slice A6 0 cc6, .int .u8 0, .string ⟨#[]⟩, .string ⟨#[]⟩, .int .u32 0, .int .i64 0, .int .u64 0, .int .u64 0, .int .i64 0, .bool false] 30)).mono HBT.out.size))
          generalize W6.alloc _ = Y6 at *
          have HL6 := Lib.hid (lives29 Y6)
          clear hb5 hb6 hb7
          go_wp2_with (go_at_call 9; refine HL6.out.mono ?_; rintro e w' ⟨rfl, hb⟩)
          go_ret
          exact ⟨rfl, HE7.out.trans (hb.mono HE7.out.size)⟩
        | some s2 =>
          unfold LinePost at HLC
          rw [hlc] at HLC
          dsimp only [Option.getD_some, Option.isSome_some] at HLC
          have hlen2 := line_len hlc
          have hp2 := line_some hlc
          have hsz2 : (⟨s2.toArray⟩ : ByteArray).size = s2.length := by show s2.toArray.size = _; simp
          have hpr : ∀ W, Calls Tryd.prog 10 #[.string ⟨s2.toArray⟩] W (IsPar W (⟨vb, ks, cv, ky.data.toList, vl.data.toList, fl, ex, id, by_, bt, qt⟩, 0)) := fun W => by
            have q := parsel ⟨s2.toArray⟩ W (by rw [hsz2]; unfold maxLen; omega)
            rwa [show (⟨s2.toArray⟩ : ByteArray).data.toList = s2 by simp, hp2] at q
          have HPR := Lib.hid hpr
          clear hpr hp2 hlc
          have hd9 : decide ((s2.length : Int) ≤ 2048) = true := decide_eq_true (by omega)
          go_upto_region 22 with (go_at_call 13; go_loud ((with_reducible refine HLC.out.mono ?_); rintro e W5 ⟨rfl, hb5⟩))
          go_upto_region 23 with (go_at_call 10; go_loud ((with_reducible refine (HPR.out _).mono ?_); rintro e W6 ⟨kv6, he6, hk6, hb6⟩; obtain ⟨A6, cc6, rfl, -⟩ := (KyS.of_lst (U := fun _ => False) hk6 (fun _ _ _ e => e)).rd.form; have hf6 : e = .returned (.tuple #[.agg #[.int .u8 vb, .slice A6 ks.length cc6, .int .u8 cv, .string ky, .string vl, .int .u32 fl, .int .i64 ex, .int .u64 id, .int .u64 by_, .int .i64 bt, .bool qt], .int .u8 0]) := he6; subst hf6; clear he6))
          have hba6 : Below W6.heap.size W6 (W6.alloc (.cells #[.int .u8 vb, .slice A6 ks.length cc6, .int .u8 cv, .string ky, .string vl, .int .u32 fl, .int .i64 ex, .int .u64 id, .int .u64 by_, .int .i64 bt, .bool qt] 30)) := (Below.refl _ _).alloc (Nat.le_refl _) _
          have hC6 : Cb (W6.alloc (.cells #[.int .u8 vb, .slice A6 ks.length cc6, .int .u8 cv, .string ky, .string vl, .int .u32 fl, .int .i64 ex, .int .u64 id, .int .u64 by_, .int .i64 bt, .bool qt] 30)) W6.heap.size (cmdC ⟨vb, ks, cv, ky.data.toList, vl.data.toList, fl, ex, id, by_, bt, qt⟩ (.slice A6 ks.length cc6)) := cb_new (by simp only [cmdC, str_list])
          have hk7 : KyG W6 A6 ks.length cc6 ks := KyG.of (KyS.of_lst (U := fun _ => False) hk6 (fun _ _ _ e => e)).rd
          have hk8 := hk7.on hba6
          have hb7 := (hb5.trans (hb6.mono hb5.size)).trans (hba6.mono (Nat.le_trans hb5.size hb6.size))
          have HE7 := Lib.hid (HBT.out.trans (hb7.mono HBT.out.size))
          have hcw7 := HCW.out.new hb7
          generalize W6.alloc _ = Y6 at *
          have HL6 := Lib.hid (lives29 Y6)
          have HSM := Lib.hid (lsameG ⟨vb, ks, cv, ky.data.toList, vl.data.toList, fl, ex, id, by_, bt, qt⟩ ⟨vb, ks, cv, ky.data.toList, vl.data.toList, fl, ex, id, by_, bt, qt⟩ A A6 n ks.length cap cc6 Y6 (HK.out.on HE7.out) hk8 HNM.out (by rw [HKL.out]; exact HNM.out))
          rw [decide_eq_true rfl] at HSM
          simp only [cmdC, str_list] at HSM
          obtain ⟨v0, v1, v2, v3, v4, v5, v6, v7, v8, v9, v10⟩ := cb_cells hC6
          obtain ⟨z0, z1, z2, z3, z4, z5, z6, z7, z8, z9, z10⟩ := cb_cells hcw7
          simp only [str_list] at v0 v1 v2 v3 v4 v5 v6 v7 v8 v9 v10 z0 z1 z2 z3 z4 z5 z6 z7 z8 z9 z10
          clear hb5 hb6 hb7 hba6 hC6 hk7 hk8 hcw7 hk6 x0 x1 x2 x3 x4 x5 x6 x7 x8 x9 x10
          go_wp2_with (first
            | (go_at_call 16; go_loud ((with_reducible refine HSM.out.mono ?_); rintro e W7 ⟨rfl, hb7⟩))
            | (go_at_call 9; go_loud (refine (lives29 W7).mono ?_; rintro e w' ⟨rfl, hb⟩)))
          go_ret
          have hb8 := HE7.out.trans (hb7.mono HE7.out.size)
          exact ⟨rfl, hb8.trans (hb.mono hb8.size)⟩
end Go.Proofs.YtifbcejekdhnlaaDoor
