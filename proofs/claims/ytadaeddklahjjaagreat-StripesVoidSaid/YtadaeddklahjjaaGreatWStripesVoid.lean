/- The law StripesVoid. -/
import Derived.Test.YtadaeddklahjjaaGreatMkV
import Derived.Test.YtadaeddklahjjaaGreatOpen
import Derived.Deep.Cut
import Derived.Deep.CutBlock
import Derived.Deep.RegionHeld3
namespace Go.Proofs.YtadaeddklahjjaaGreat
open Go.RowKit Go.Maps
set_option linter.unusedVariables false
/-- The Marks, in a slice of their own. -/
def SvL (w X : World) (s : Value) : Prop := ∃ (g n cap : Nat) (vs : List Value), s = .slice (some ⟨g, 0, none⟩) n cap ∧ n ≤ cap ∧ n = 4 ∧ vs.length = n ∧ LsM X g vs ∧ X.ownsRow w.heap.size 76 1 s n vs ∧ (∀ v, v ∈ vs → ∀ q, v = .pointer (some ⟨q, 0, none⟩) → q ≠ g) ∧ w.heap.size ≤ g ∧ Below w.heap.size w X
/-- The same, one more or none. -/
def SvM (w X : World) (s : Value) : Prop := ∃ (g n cap : Nat) (vs : List Value), s = .slice (some ⟨g, 0, none⟩) n cap ∧ n ≤ cap ∧ n ≤ 5 ∧ vs.length = n ∧ LsM X g vs ∧ Below w.heap.size w X
theorem own4b (w : World) (B : Nat) (hB : B ≤ w.heap.size) (e : TypeId) (a b c d : Value) : (w.alloc (.cells #[a, b, c, d] e)).ownsRow B e 1 (.slice (some ⟨w.heap.size, 0, none⟩) 4 4) 4 [a, b, c, d] :=
  ⟨rfl, .inr ⟨w.heap.size, 4, #[a, b, c, d], rfl, hB, heap_alloc_new w _, Nat.le_refl _, by decide, rfl, by simp⟩⟩
theorem svl_made {W2 w3 w4 : World} {p q3 q4 : Nat} (h3 : Below W2.heap.size W2 w3) (h4 : Below w3.heap.size w3 w4) (hv : OvM W2 (.pointer (some ⟨p, 0, none⟩))) (o3 : OvM w3 (.pointer (some ⟨q3, 0, none⟩))) (o4 : OvM w4 (.pointer (some ⟨q4, 0, none⟩))) :
    SvL W2 (w4.alloc (.cells #[.pointer none, .pointer (some ⟨p, 0, none⟩), .pointer (some ⟨q3, 0, none⟩), .pointer (some ⟨q4, 0, none⟩)] 76)) (.slice (some ⟨w4.heap.size, 0, none⟩) 4 4) := by
  have h24 := below_then h3 h4
  have k : Below w4.heap.size w4 (w4.alloc (.cells #[.pointer none, .pointer (some ⟨p, 0, none⟩), .pointer (some ⟨q3, 0, none⟩), .pointer (some ⟨q4, 0, none⟩)] 76)) := bs_alloc (Below.refl _ _)
  have hp := (hv.new h24)
  have h3' := (o3.new h4)
  refine ⟨w4.heap.size, 4, 4, [.pointer none, .pointer (some ⟨p, 0, none⟩), .pointer (some ⟨q3, 0, none⟩), .pointer (some ⟨q4, 0, none⟩)], rfl, by decide, rfl, rfl, fun i v hi => ?_, own4b _ _ h24.size _ _ _ _ _, fun v hv' q e => ?_, h24.size, below_then h24 k⟩
  · match i, hi with
    | 0, hi => simp at hi; subst hi; exact ⟨new_at rfl rfl, .inl rfl⟩
    | 1, hi => simp at hi; subst hi; exact ⟨new_at rfl rfl, hp.new k⟩
    | 2, hi => simp at hi; subst hi; exact ⟨new_at rfl rfl, h3'.new k⟩
    | 3, hi => simp at hi; subst hi; exact ⟨new_at rfl rfl, o4.new k⟩
    | i + 4, hi => simp at hi
  · subst e
    simp at hv'
    rcases hv' with h | h | h
    · subst h; have := hp.lt _ rfl; omega
    · subst h; have := h3'.lt _ rfl; omega
    · subst h; have := o4.lt _ rfl; omega
set_option maxHeartbeats 8000000 in
set_option maxRecDepth 100000 in
theorem walk_StripesVoid (a0_0 : Int) (a0_1 : Int) (w : World) (w0_0 : (Lit.int .i64 a0_0).wf = true) (w0_1 : (Lit.int .i64 a0_1).wf = true) :
    Calls Tryz.prog 6 #[.agg #[.int .i64 a0_0, .int .i64 a0_1]] w fun e w' => e = .returned (.bool true) ∧ Below w.heap.size w w' := by
  clear w0_0 w0_1
  go_enter Tryz.func6, Tryz.ntmps6
  go_wp2_with fail
  obtain ⟨F, hF⟩ : ∃ F, F = w.heap.size := ⟨_, rfl⟩
  generalize hW : World.alloc w _ = W
  have bW : Below w.heap.size w W := by rw [← hW]; exact (Below.refl _ _).alloc (Nat.le_refl _) _
  have f0 : W.cell? ⟨F, 0, none⟩ = some (.int .i64 a0_0) := by rw [← hW, hF]; exact new_at rfl rfl
  have f1 : W.cell? ⟨F, 1, none⟩ = some (.int .i64 a0_1) := by rw [← hW, hF]; exact new_at rfl rfl
  have HBW := Lib.hid bW
  rw [← hF]
  clear hW bW hF
  refine (begin0 _).mono ?_
  rintro e w1 ⟨A, R, S, T, rfl, hP, hST, hb1⟩
  replace f0 := (hb1.cell (p := ⟨F, 0, none⟩) (World.block_lt_of_cell? _ _ f0)).trans f0
  replace f1 := (hb1.cell (p := ⟨F, 1, none⟩) (World.block_lt_of_cell? _ _ f1)).trans f1
  have HP := Lib.hid hP
  have HB1 := Lib.hid (below_then HBW.out hb1)
  clear hP hST hb1
  go_upto_region 4 with (fail)
  obtain ⟨P, hPq⟩ : ∃ P, P = w1.heap.size := ⟨_, rfl⟩
  generalize hW2 : World.alloc (World.alloc w1 _) _ = W2
  rw [← hPq]
  have k12 : Below w1.heap.size w1 W2 := by rw [← hW2]; exact bs_alloc (bs_alloc (Below.refl _ _))
  have p0 : W2.cell? ⟨P, 0, none⟩ = some (.pointer (some ⟨A.p, 0, none⟩)) := by rw [← hW2, hPq]; simp [World.cell?_alloc_some]
  have p1 : W2.cell? ⟨P, 1, none⟩ = some (.pointer (some ⟨R.p, 0, none⟩)) := by rw [← hW2, hPq]; simp [World.cell?_alloc_some]
  have hvd : OvM W2 (.pointer (some ⟨P + 1, 0, none⟩)) := by
    refine .inr ⟨_, none, rfl, ?_⟩
    rw [← hW2, hPq]
    refine ⟨fun i v hv => ?_, fun i hi => ?_, by simp⟩
    · match i, hv with
      | 0, hv => simp at hv; subst hv; exact new_at (by simp) rfl
      | i + 1, hv => simp at hv
    · exact new_fz (by simp)
  replace f0 := (k12.cell (p := ⟨F, 0, none⟩) (World.block_lt_of_cell? _ _ f0)).trans f0
  replace f1 := (k12.cell (p := ⟨F, 1, none⟩) (World.block_lt_of_cell? _ _ f1)).trans f1
  have HB2 := Lib.hid (below_then HB1.out k12)
  have HP2 := Lib.hid (HP.out.new k12)
  have HVD := Lib.hid hvd
  have F0 := Lib.hid f0
  have F1 := Lib.hid f1
  have PP0 := Lib.hid p0
  have PP1 := Lib.hid p1
  clear hW2 k12 hPq hvd HP HB1 p0 p1 f1
  have hlt2 := HVD.out.lt _ rfl
  go_cut [6] from 9 (fun s6 wx => SvL W2 wx s6)
  case first =>
    have f0' : W2.drew.cell? ⟨F, 0, none⟩ = some (.int .i64 a0_0) := f0
    have hd0 : Below W2.heap.size W2 W2.drew := (Below.refl _ _).drew
    clear f0
    have KEEPF : Hid (∀ X, Below W2.heap.size W2 X → X.cell? ⟨F, 0, none⟩ = some (.int .i64 a0_0)) := Lib.hid (fun X hb => (hb.cell (p := ⟨F, 0, none⟩) (World.block_lt_of_cell? _ _ F0.out)).trans F0.out)
    go_region_held3 (fun X => X.cell? ⟨F, 0, none⟩ = some (.int .i64 a0_0))
      (first | assumption | exact KEEPF.out _ (by assumption) | exact KEEPF.out _ (bs_alloc hd0) | exact KEEPF.out _ (bs_alloc hk3) | exact KEEPF.out _ (bs_alloc hk4))
      (first
        | (go_at_call 32; ((with_reducible refine (newMark_nil _).mono ?_); rintro e w3 ⟨q3, rfl, ov3, -, hb3⟩; have hk3 : Below W2.heap.size W2 w3 := (by first | exact below_then hd0 hb3 | exact below_then (bs_alloc hd0) hb3); replace f0' := KEEPF.out _ hk3))
        | (go_at_call 32; have hq := newMark_ov (lay_two w3 0 0 a0_0 (-1) 41) (by decide) (no_str a0_0); refine hq.mono ?_; rintro e w4 ⟨q4, rfl, ov4, -, hb4⟩; clear hq; have hk4 : Below W2.heap.size W2 w4 := below_then (bs_alloc hk3) hb4; have hk34 : Below w3.heap.size w3 w4 := below_then (bs_alloc (Below.refl _ _)) hb4; replace f0' := KEEPF.out _ hk4)
        | (go_at_call 32; have hq := newMark_ov ((lay_two W2.drew 0 0 a0_0 (-1) 41).new hb3) (by decide) (no_str a0_0); refine hq.mono ?_; rintro e w4 ⟨q4, rfl, ov4, -, hb4⟩; clear hq; have hk4 : Below W2.heap.size W2 w4 := below_then hk3 hb4; have hk34 : Below w3.heap.size w3 w4 := hb4; replace f0' := KEEPF.out _ hk4))
    all_goals
      have SV := Lib.hid (svl_made hk3 hk34 HVD.out ov3 ov4)
      clear f0' hb3 hb4 hk3 hk4 hk34 ov3 ov4
      go_wp2_with fail
      go_meet
      case rel => exact SV.out
  have hbc : Below W2.heap.size W2 wc := by obtain ⟨g, n, cap, vs, -, -, -, -, -, -, -, -, h⟩ := hcut; exact h
  have HSV := Lib.hid hcut
  have HBC := Lib.hid hbc
  have HB3 := Lib.hid (below_then HB2.out hbc)
  clear f0 hcut
  have f0 := (hbc.cell (p := ⟨F, 0, none⟩) (World.block_lt_of_cell? _ _ F0.out)).trans F0.out
  have f1 := (hbc.cell (p := ⟨F, 1, none⟩) (World.block_lt_of_cell? _ _ F1.out)).trans F1.out
  have FK : Hid (∀ X, Below W2.heap.size W2 X → X.cell? ⟨F, 0, none⟩ = some (.int .i64 a0_0) ∧ X.cell? ⟨F, 1, none⟩ = some (.int .i64 a0_1)) := Lib.hid (fun X hb => ⟨(hb.cell (p := ⟨F, 0, none⟩) (World.block_lt_of_cell? _ _ F0.out)).trans F0.out, (hb.cell (p := ⟨F, 1, none⟩) (World.block_lt_of_cell? _ _ F1.out)).trans F1.out⟩)
  clear hbc
  generalize hW3 : wc = W3 at *
  clear hW3
  obtain ⟨z, hz⟩ : ∃ z : Int, z = if strsF [(a0_0, a0_1)] = [] then 0 else 1 := ⟨_, rfl⟩
  have CN := Lib.hid (rnew12 (lay_one W3 a0_0 a0_1 41) (by decide) hz)
  have HZ := Lib.hid hz
  clear hz
  go_upto_if 26 with (go_at_call 33; ((refine CN.out.mono ?_); rintro e w4 ⟨⟨r, rfl, hr0⟩, hb4⟩))
  have hb34 : Below W3.heap.size W3 w4 := below_then (bs_alloc (Below.refl _ _)) hb4
  have HB34 := Lib.hid hb34
  clear hb4 hb34 f0 f1 hr0 CN
  go_cut [6] from 9 (fun s6 wx => SvM W2 wx s6)
  case first =>
    by_cases hs : strsF [(a0_0, a0_1)] = []
    · have hz0 : z = 0 := by rw [HZ.out, if_pos hs]
      subst hz0
      obtain ⟨f0, f1⟩ := FK.out _ (below_then HBC.out HB34.out)
      have CM := Lib.hid (newMark_ov (lay_one w4 a0_0 a0_1 41) (by decide) hs)
      obtain ⟨g, n, cap, vs, hs6, hnc, hn5, hvl, hls, hown, hne, hgW, hbc⟩ := HSV.out
      obtain ⟨i0, hi, hz0, hz1, hz2⟩ := info_parts info_mp
      have hn4 : n = 4 := hn5
      subst hn4
      subst hs6
      have hown4 := own_below hown HB34.out
      have HLS := Lib.hid (hls.new HB34.out)
      have HNE := Lib.hid hne
      have HGW := Lib.hid hgW
      have HVL := Lib.hid hvl
      have hB4 : W2.heap.size ≤ w4.heap.size := by have := hbc.size; have := HB34.out.size; omega
      have HB24 := Lib.hid (below_then hbc HB34.out)
      have hg4 : g < w4.heap.size := by
        obtain ⟨v, hv⟩ : ∃ v, vs[0]? = some v := ⟨_, List.getElem?_eq_getElem (by omega)⟩
        exact World.block_lt_of_cell? _ _ ((hls.new HB34.out) 0 v hv).1
      clear hs hls hown hne hgW hbc hvl hnc
      go_wp2_with fail
      refine CM.out.mono ?_
      rintro e w5 ⟨q5, rfl, ov5, hq5, hb5⟩
      have hb45 : Below w4.heap.size w4 w5 := below_then (bs_alloc (Below.refl _ _)) hb5
      have hown5 := own_below hown4 hb45
      have HO5 := Lib.hid ov5
      have HB45 := Lib.hid hb45
      have hs5 := hb45.size
      have HQ5 := Lib.hid (show g < q5 by simp at hq5; omega)
      clear hq5
      clear hb5 hb45 ov5 hown4 CM f0 f1
      go_wp2_with (at_builtin; refine wpList_append_own _ rfl _ _ 90 rfl W2.heap.size 76 i0 (.pointer none) 1 8 Tryz.underlying90 hi hz0 hz1 hz2 rfl (by decide) _ _ _ rfl (hown5.alloc _) ⟨w5.heap.size, 0, none⟩ 1 1 [.pointer (some ⟨q5, 0, none⟩)] rfl rfl ?p1 ?p2 ?p3 ?p4 ?p5 ?_)
      case p1 =>
        intro j u hj
        match j, hj with
        | 0, hj => simp at hj; subst hj; simp [Addr.add]
        | j + 1, hj => simp at hj
      case p2 => intro u hu; simp at hu; subst hu; rfl
      case p3 => unfold maxLen; decide
      case p4 => decide
      case p5 => simp; omega
      intro vz wz hownz hgrow _
      have kz : Keeps (fun j => j = g) w5 wz := ((Keeps.refl (fun j => j = g) w5).alloc _).grown hgrow (fun k hk => by simp [Value.ownBlock] at hk; exact .inl hk.symm)
      obtain ⟨_, ⟨_, h0'⟩ | ⟨g', cap', rfl, hgB, hgl, hgn, hgc, hgx⟩⟩ := Lst.of_own hownz
      · omega
      have HSM : Hid (SvM W2 wz (.slice (some ⟨g', 0, none⟩) 5 cap')) := Lib.hid (by
        refine ⟨g', 5, cap', vs ++ [.pointer (some ⟨q5, 0, none⟩)], rfl, hgn, Nat.le_refl _, by rw [List.length_append, HVL.out]; rfl, fun i v hi => ⟨(hgx i v hi).1, ?_⟩, (below_then HB24.out HB45.out).trans (kz.to_below (B := W2.heap.size) (fun k _ e => by have := HGW.out; omega) (by omega))⟩
        by_cases hi4 : i < 4
        · rw [List.getElem?_append_left (by rw [HVL.out]; exact hi4)] at hi
          exact (((HLS.out i v hi).2).new HB45.out).keep kz (fun q e => HNE.out v (List.mem_of_getElem? hi) q e)
        · rw [List.getElem?_append_right (by rw [HVL.out]; omega), HVL.out] at hi
          have hi5 : i = 4 := by
            rcases Nat.eq_or_lt_of_le (Nat.le_of_not_lt hi4) with h | h
            · exact h.symm
            · rw [List.getElem?_eq_none (by simp; omega)] at hi; simp at hi
          subst hi5
          simp at hi
          subst hi
          refine HO5.out.keep kz (fun q e => ?_)
          injection e with e
          injection e with e
          injection e with e
          intro h
          have := HQ5.out
          omega)
      clear hownz hgrow kz hgx hgB hgl hgn hgc hown5
      go_wp2_with fail
      go_meet
      case rel => exact HSM.out
    · have hz0 : z = 1 := by rw [HZ.out, if_neg hs]
      subst hz0
      clear hs
      go_wp2_with fail
      go_meet
      case rel =>
        obtain ⟨g, n, cap, vs, h1, h2, h3, h4, h5, -, -, -, h6⟩ := HSV.out
        exact ⟨g, n, cap, vs, h1, h2, by omega, h4, h5.new HB34.out, below_then h6 HB34.out⟩
  obtain ⟨g, n, cap, vs, rfl, hnc, hn5, hvl, hls, hbm⟩ := hcut
  have HVL := Lib.hid hvl
  have HLS := Lib.hid hls
  have PW8 := Lib.hid (HP2.out.new hbm)
  have HB8 := Lib.hid (below_then HB2.out hbm)
  have KP8 := Lib.hid (show ∀ X, Below wc.heap.size wc X → X.cell? ⟨P, 0, none⟩ = some (.pointer (some ⟨A.p, 0, none⟩)) ∧ X.cell? ⟨P, 1, none⟩ = some (.pointer (some ⟨R.p, 0, none⟩)) from fun X hx => ⟨((below_then hbm hx).cell (p := ⟨P, 0, none⟩) (World.block_lt_of_cell? _ _ PP0.out)).trans PP0.out, ((below_then hbm hx).cell (p := ⟨P, 1, none⟩) (World.block_lt_of_cell? _ _ PP1.out)).trans PP1.out⟩)
  clear hvl hls hbm
  generalize hW8 : wc = W8 at *
  clear hW8
  go_wp2_with fail
  go_loopw [7] (fun i X => ∃ k : Nat, k ≤ n ∧ i = .int .i64 k ∧ Below W8.heap.size W8 X) (fun i _ => n - (intOf i).toNat)
  case atStart => exact ⟨0, by omega, rfl, Below.refl _ _⟩
  case round =>
    obtain ⟨k, hk, rfl, hb⟩ := hrel
    have HB := Lib.hid hb
    by_cases hlt : k < n
    · obtain ⟨v, hv⟩ : ∃ v, vs[k]? = some v := ⟨_, List.getElem?_eq_getElem (by rw [HVL.out]; exact hlt)⟩
      have KEEP : Hid (∀ X, Below wr.heap.size wr X → X.cell? ⟨g, k, none⟩ = some v ∧ X.cell? ⟨P, 0, none⟩ = some (.pointer (some ⟨A.p, 0, none⟩)) ∧ OvM X v) := Lib.hid (fun X hx => by
        obtain ⟨h1, h2⟩ := (HLS.out.new (below_then hb hx)) k v hv
        exact ⟨h1, (KP8.out X (below_then hb hx)).1, h2⟩)
      have hb0 : Below wr.heap.size wr wr.drew := (Below.refl _ _).drew
      have hkc : k < cap := by omega
      have j0 : (0 : Int) ≤ (k : Int) := by omega
      have j1 : (k : Int) < (n : Int) := by omega
      clear hv hb
      go_wp2_with fail
      obtain ⟨s0, s1, -⟩ := KEEP.out _ hb0
      go_region_held3 (fun X => X.cell? ⟨g, k, none⟩ = some v ∧ X.cell? ⟨P, 0, none⟩ = some (.pointer (some ⟨A.p, 0, none⟩)))
        (first | exact ⟨by assumption, by assumption⟩)
        (first
          | (go_at_call 29; refine (ovm_over (KEEP.out _ hb0).2.2).mono ?_; rintro e w2 ⟨rfl, rfl⟩)
          | (go_at_call 31; refine (ovm_step (KEEP.out _ hb0).2.2 _).mono ?_; rintro e w2 ⟨rfl, rfl⟩))
      all_goals
        clear s0 s1
        go_wp2_with fail
        go_roundw
        case rel => exact ⟨k + 1, by omega, by go_num, below_then HB.out hb0⟩
        case measure => simp [intOf]; omega
    · obtain rfl : n = k := by omega
      clear hb
      go_wp2_with fail
      have CM := Lib.hid (newMark (lay_one wr 2 1 41) (by decide))
      rw [show strsF [((2 : Int), (1 : Int))] = [127] by decide] at CM
      refine CM.out.mono ?_
      rintro e w9 ⟨q, gg, v, rfl, ⟨⟨a, rfl⟩, -⟩, ho, -, -, hb9⟩
      have HO := Lib.hid ho
      have HB9 := Lib.hid (below_then (bs_alloc HB.out) hb9)
      clear ho hb9 CM
      obtain ⟨s0, s1⟩ := KP8.out _ HB9.out
      have PW9 := Lib.hid (PW8.out.new HB9.out)
      go_wp2_with (first
        | (go_at_call 31; refine (mk_step_no HO.out (by decide)).mono ?_; rintro e w11 ⟨rfl, rfl⟩)
        | (go_at_call 29; refine (mk_over (b := false) HO.out (by decide)).mono ?_; rintro e w11 ⟨rfl, rfl⟩)
        | (go_at_call 14; refine (pw_all PW9.out rfl (by decide) (by decide)).mono ?_; rintro e w11 ⟨rfl, hk11⟩; have hd1 := below_then HB9.out hk11; clear hk11)
        | (go_at_call 27; refine (lives12 _).mono ?_; rintro e w12 ⟨rfl, hk12⟩; have hd2 := below_then hd1 hk12; clear hk12))
      go_ret
      exact ⟨rfl, below_then HB8.out hd2⟩
end Go.Proofs.YtadaeddklahjjaaGreat
