/- LinesParse: the walk. -/
import Derived.Test.YtifbcejekdhnlaaDoorLi7
import Derived.BigRegion
namespace Go.Proofs.YtifbcejekdhnlaaDoor
open Go.RowKit Go.Maps
set_option linter.unusedVariables false

set_option maxHeartbeats 8000000 in
set_option maxRecDepth 100000 in
theorem walk_LinesParse (a0 : ByteArray) (w : World) (w0 : a0.size ≤ maxLen) :
    Calls Tryd.prog 3 #[.string a0] w fun e w' => e = .returned (.bool true) ∧ Below w.heap.size w w' := by
  have w0' := w0
  unfold maxLen at w0'
  by_cases hbig : 5000 < a0.size
  · have hd : decide (5000 < (a0.size : Int)) = true := decide_eq_true (by omega)
    have hl := lives29 w
    go_enter Tryd.func3, Tryd.ntmps3
    go_wp2_with (go_at_call 9; refine hl.mono ?_; rintro e w' ⟨rfl, hb⟩)
    go_ret
    exact ⟨rfl, hb⟩
  have hd : decide (5000 < (a0.size : Int)) = false := decide_eq_false (by omega)
  have hp : ∀ W, Calls Tryd.prog 10 #[.string a0] W (IsPar W (parseC a0.data.toList)) := fun W => parsel a0 W w0
  have hr : ∀ W, Calls Tryd.prog 11 #[.string a0] W (IsParR W (parseC a0.data.toList)) := fun W => rparsel a0 W w0
  have ht : (parseC a0.data.toList).2 ≤ 5 := told_le _
  generalize parseC a0.data.toList = pc at hp hr ht
  obtain ⟨c, t⟩ := pc
  simp only at ht
  have HP := Lib.hid hp
  have HR := Lib.hid hr
  clear hp hr
  obtain ⟨vb, ks, cv, ky, vl, fl, ex, id, by_, bt, qt⟩ := c
  go_enter Tryd.func3, Tryd.ntmps3
  go_upto_region 4 with (go_at_call 10; refine (HP.out w).mono ?_; rintro e X1 ⟨kv, he, hk1, hb1⟩; obtain ⟨A1, c1, g1, rfl, hn1, hm1, hw1⟩ := keyw_of hk1; have hf : e = .returned (.tuple #[.agg #[.int .u8 vb, .slice A1 ks.length c1, .int .u8 cv, .string ⟨ky.toArray⟩, .string ⟨vl.toArray⟩, .int .u32 fl, .int .i64 ex, .int .u64 id, .int .u64 by_, .int .i64 bt, .bool qt], .int .u8 t]) := he; subst hf; clear he)
  have ha1 : Below X1.heap.size X1 (X1.alloc (.cells #[.int .u8 vb, .slice A1 ks.length c1, .int .u8 cv, .string ⟨ky.toArray⟩, .string ⟨vl.toArray⟩, .int .u32 fl, .int .i64 ex, .int .u64 id, .int .u64 by_, .int .i64 bt, .bool qt] 30)) := (Below.refl _ _).alloc (Nat.le_refl _) _
  have hq1 : Cb (X1.alloc (.cells #[.int .u8 vb, .slice A1 ks.length c1, .int .u8 cv, .string ⟨ky.toArray⟩, .string ⟨vl.toArray⟩, .int .u32 fl, .int .i64 ex, .int .u64 id, .int .u64 by_, .int .i64 bt, .bool qt] 30)) X1.heap.size (cmdC ⟨vb, ks, cv, ky, vl, fl, ex, id, by_, bt, qt⟩ (.slice A1 ks.length c1)) := cb_new rfl
  have hs1 : (X1.alloc (.cells #[.int .u8 vb, .slice A1 ks.length c1, .int .u8 cv, .string ⟨ky.toArray⟩, .string ⟨vl.toArray⟩, .int .u32 fl, .int .i64 ex, .int .u64 id, .int .u64 by_, .int .i64 bt, .bool qt] 30)).heap.size = X1.heap.size + 1 := by simp
  generalize X1.alloc _ = Y1 at *
  go_upto_region 5 with (go_at_call 11; refine (HR.out Y1).mono ?_; rintro e X2 ⟨kv, he, hk2, hb2⟩; obtain ⟨A2, c2, g2, rfl, hn2, hm2, hw2⟩ := keyw_of hk2; have hf : e = .returned (.tuple #[.agg #[.int .u8 vb, .slice A2 ks.length c2, .int .u8 cv, .string ⟨ky.toArray⟩, .string ⟨vl.toArray⟩, .int .u32 fl, .int .i64 ex, .int .u64 id, .int .u64 by_, .int .i64 bt, .bool qt], .int .i64 t]) := he; subst hf; clear he)
  have ha2 : Below X2.heap.size X2 (X2.alloc (.cells #[.int .u8 vb, .slice A2 ks.length c2, .int .u8 cv, .string ⟨ky.toArray⟩, .string ⟨vl.toArray⟩, .int .u32 fl, .int .i64 ex, .int .u64 id, .int .u64 by_, .int .i64 bt, .bool qt] 34)) := (Below.refl _ _).alloc (Nat.le_refl _) _
  have hq2 : Cb (X2.alloc (.cells #[.int .u8 vb, .slice A2 ks.length c2, .int .u8 cv, .string ⟨ky.toArray⟩, .string ⟨vl.toArray⟩, .int .u32 fl, .int .i64 ex, .int .u64 id, .int .u64 by_, .int .i64 bt, .bool qt] 34)) X2.heap.size (cmdC ⟨vb, ks, cv, ky, vl, fl, ex, id, by_, bt, qt⟩ (.slice A2 ks.length c2)) := cb_new rfl
  have hs2 : (X2.alloc (.cells #[.int .u8 vb, .slice A2 ks.length c2, .int .u8 cv, .string ⟨ky.toArray⟩, .string ⟨vl.toArray⟩, .int .u32 fl, .int .i64 ex, .int .u64 id, .int .u64 by_, .int .i64 bt, .bool qt] 34)).heap.size = X2.heap.size + 1 := by simp
  generalize X2.alloc _ = Y2 at *
  have hq1' := (hq1.new hb2).new ha2
  have z1 := hb1.size
  have z2 := hb2.size
  have hky1 : KyR Y2 (.slice A1 ks.length c1) ks := (((KyS.of_lst (U := fun _ => False) hk1 (fun _ _ _ e => e)).rd.on ha1).on hb2).on ha2
  have hky2 : KyR Y2 (.slice A2 ks.length c2) ks := (KyS.of_lst (U := fun _ => False) hk2 (fun _ _ _ e => e)).rd.on ha2
  obtain ⟨x0, x1, x2, x3, x4, x5, x6, x7, x8, x9, x10⟩ := cb_cells hq1'
  obtain ⟨y0, y1, y2, y3, y4, y5, y6, y7, y8, y9, y10⟩ := cb_cells hq2
  simp only at x0 x1 x2 x3 x4 x5 x6 x7 x8 x9 x10 y0 y1 y2 y3 y4 y5 y6 y7 y8 y9 y10
  have hwrap : IntKind.i64.wrap (t : Int) = (t : Int) := IntWalk.i64_in _ (by omega)
  have hsm : Calls Tryd.prog 12 #[.agg #[.int .u8 vb, .slice A1 ks.length c1, .int .u8 cv, .string ⟨ky.toArray⟩, .string ⟨vl.toArray⟩, .int .u32 fl, .int .i64 ex, .int .u64 id, .int .u64 by_, .int .i64 bt, .bool qt], .agg #[.int .u8 vb, .slice A2 ks.length c2, .int .u8 cv, .string ⟨ky.toArray⟩, .string ⟨vl.toArray⟩, .int .u32 fl, .int .i64 ex, .int .u64 id, .int .u64 by_, .int .i64 bt, .bool qt]] Y2 fun r w' => r = .returned (.bool true) ∧ Below Y2.heap.size Y2 w' := lsame29 ⟨vb, ks, cv, ky, vl, fl, ex, id, by_, bt, qt⟩ _ _ Y2 hky1 hky2
  have HSM := Lib.hid hsm
  have HW1 := Lib.hid (((hw1.keep (T := fun _ => False) (Keeps.of_new ha1) (fun _ e => e)).keep (T := fun _ => False) (Keeps.of_new hb2) (fun _ e => e)).keep (T := fun _ => False) (Keeps.of_new ha2) (fun _ e => e))
  have HK2 := Lib.hid (hk2.below ha2 (Nat.le_refl _))
  have HQ := Lib.hid (And.intro hq1' hq2)
  have HBB := Lib.hid (((hb1.trans (ha1.mono z1)).trans (hb2.mono (by omega))).trans (ha2.mono (by omega)))
  have HN := Lib.hid (And.intro hn1 hm1)
  have HGW := Lib.hid hw1
  clear hsm hw1 hw2 hk1 hk2 hq1 hq2 hq1' hb1 ha1 hb2 ha2 hky1 hky2 hn1 hm1 hn2 hm2
  go_upto_region 7 with (go_at_call 12; refine HSM.out.mono ?_; rintro e Z ⟨rfl, hbz⟩)
  have HW := Lib.hid (HW1.out.keep (T := fun _ => False) (Keeps.of_new hbz) (fun _ e => e))
  have q1 := Lib.hid (HQ.out.1.new hbz)
  have q2 := Lib.hid (HQ.out.2.new hbz)
  have k2 := Lib.hid (HK2.out.below hbz (Nat.le_refl _))
  have BB := Lib.hid (HBB.out.trans (hbz.mono (by omega)))
  have hzz := hbz.size
  clear HW1 HQ HK2 HBB HSM hbz x0 x1 x2 x3 x4 x5 x6 x7 x8 x9 x10 y0 y1 y2 y3 y4 y5 y6 y7 y8 y9 y10
  have hn1 := HN.out.1
  have hm1 := HN.out.2
  unfold maxLen at hm1
  obtain ⟨n, hn0⟩ : ∃ n, ks.length = n := ⟨_, rfl⟩
  rw [hn0] at hn1
  have hn := Lib.hid hn0
  have hG : Hid (0 < n → w.heap.size ≤ g1 ∧ g1 < X1.heap.size) := Lib.hid fun h0 => ⟨(HGW.out (by have := hn.out; omega)).2.1, (HGW.out (by have := hn.out; omega)).2.2.1⟩
  clear HGW hn0
  go_wp2_with fail
  go_loopw [7] (fun i wr => ∃ k : Nat, k ≤ n ∧ i = .int .i64 k ∧ Hid (KeyW wr A1 w.heap.size n g1) ∧ Hid (Keeps (fun b => 0 < n ∧ b = g1) Z wr)) (fun i _ => n - (intOf i).toNat)
  case atStart => exact ⟨0, by omega, rfl, by rw [← hn.out]; exact HW, Lib.hid (Keeps.refl _ _)⟩
  case round =>
    obtain ⟨k, hk, rfl, hwk, hkp⟩ := hrel
    have x1 : wr.cell? ⟨X1.heap.size, 1, none⟩ = some (.slice A1 n c1) := by rw [← hn.out]; exact (q1.out.keep hkp.out (by rintro ⟨h0, e⟩; have := hG.out h0; omega)).at_ 1 _ rfl
    by_cases hlt : k < n
    · obtain ⟨rfl, hBg, hgl, hat⟩ := hwk.out (by omega)
      obtain ⟨⟨v, hv⟩, hz⟩ := hat k hlt
      clear hat
      go_wp2_with fail
      go_roundw
      case rel => exact ⟨k + 1, by omega, by go_num, Lib.hid (hwk.out.set _ hlt), Lib.hid (hkp.out.setCell (p := ⟨g1, k, none⟩) (.inl ⟨by omega, rfl⟩) _)⟩
      case measure => simp [intOf]; omega
    · obtain rfl : k = n := by omega
      have hb0 : Below w.heap.size w wr := BB.out.trans (hkp.out.to_below (fun b _ e => by have := hG.out e.1; omega) BB.out.size)
      have q2' := q2.out.keep hkp.out (by rintro ⟨h0, e⟩; have := hG.out h0; omega)
      have k2' := k2.out.keep hkp.out (by rintro g hg ⟨h0, e⟩; have := hG.out h0; omega)
      have Q2 := Lib.hid q2'
      have K2 := Lib.hid k2'
      have B0 := Lib.hid hb0
      clear q1 q2 k2 HW BB hkp hwk q2' k2' hb0
      go_upto_region 12 with (go_at_call 10; refine (HP.out wr).mono ?_; rintro e X3 ⟨kv, he, hk3, hb3⟩; obtain ⟨A3, c3, g3, rfl, hn3, hm3, hw3⟩ := keyw_of hk3; have hf : e = .returned (.tuple #[.agg #[.int .u8 vb, .slice A3 ks.length c3, .int .u8 cv, .string ⟨ky.toArray⟩, .string ⟨vl.toArray⟩, .int .u32 fl, .int .i64 ex, .int .u64 id, .int .u64 by_, .int .i64 bt, .bool qt], .int .u8 t]) := he; subst hf; clear he)
      clear x1
      have ha3 : Below X3.heap.size X3 (X3.alloc (.cells #[.int .u8 vb, .slice A3 ks.length c3, .int .u8 cv, .string ⟨ky.toArray⟩, .string ⟨vl.toArray⟩, .int .u32 fl, .int .i64 ex, .int .u64 id, .int .u64 by_, .int .i64 bt, .bool qt] 30)) := (Below.refl _ _).alloc (Nat.le_refl _) _
      have hq3 : Cb (X3.alloc (.cells #[.int .u8 vb, .slice A3 ks.length c3, .int .u8 cv, .string ⟨ky.toArray⟩, .string ⟨vl.toArray⟩, .int .u32 fl, .int .i64 ex, .int .u64 id, .int .u64 by_, .int .i64 bt, .bool qt] 30)) X3.heap.size (cmdC ⟨vb, ks, cv, ky, vl, fl, ex, id, by_, bt, qt⟩ (.slice A3 ks.length c3)) := cb_new rfl
      have hs3 : (X3.alloc (.cells #[.int .u8 vb, .slice A3 ks.length c3, .int .u8 cv, .string ⟨ky.toArray⟩, .string ⟨vl.toArray⟩, .int .u32 fl, .int .i64 ex, .int .u64 id, .int .u64 by_, .int .i64 bt, .bool qt] 30)).heap.size = X3.heap.size + 1 := by simp
      generalize X3.alloc _ = Y3 at *
      obtain ⟨x0, x1, x2, x3, x4, x5, x6, x7, x8, x9, x10⟩ := cb_cells hq3
      obtain ⟨y0, y1, y2, y3, y4, y5, y6, y7, y8, y9, y10⟩ := cb_cells ((Q2.out.new hb3).new ha3)
      simp only at x0 x1 x2 x3 x4 x5 x6 x7 x8 x9 x10 y0 y1 y2 y3 y4 y5 y6 y7 y8 y9 y10
      have hky3 : KyR Y3 (.slice A3 ks.length c3) ks := (KyS.of_lst (U := fun _ => False) hk3 (fun _ _ _ e => e)).rd.on ha3
      have hky2 : KyR Y3 (.slice A2 ks.length c2) ks := ((KyS.of_lst (U := fun _ => False) K2.out (fun _ _ _ e => e)).rd.on hb3).on ha3
      have hsm : Calls Tryd.prog 12 #[.agg #[.int .u8 vb, .slice A3 ks.length c3, .int .u8 cv, .string ⟨ky.toArray⟩, .string ⟨vl.toArray⟩, .int .u32 fl, .int .i64 ex, .int .u64 id, .int .u64 by_, .int .i64 bt, .bool qt], .agg #[.int .u8 vb, .slice A2 ks.length c2, .int .u8 cv, .string ⟨ky.toArray⟩, .string ⟨vl.toArray⟩, .int .u32 fl, .int .i64 ex, .int .u64 id, .int .u64 by_, .int .i64 bt, .bool qt]] Y3 fun r w' => r = .returned (.bool true) ∧ Below Y3.heap.size Y3 w' := lsame29 ⟨vb, ks, cv, ky, vl, fl, ex, id, by_, bt, qt⟩ _ _ Y3 hky3 hky2
      have HSM := Lib.hid hsm
      have B3 := Lib.hid (B0.out.trans ((hb3.trans (ha3.mono hb3.size)).mono B0.out.size))
      clear hsm hb3 ha3 hq3 hky3 hky2 hw3 hk3 hn3 hm3
      go_wp2_with (first
        | (go_at_call 12; refine HSM.out.mono ?_; rintro e Z4 ⟨rfl, hb4⟩)
        | (go_at_call 9; refine (lives29 _).mono ?_; rintro e Z5 ⟨rfl, hb5⟩))
      refine bodyPost_ret (v := .bool true) (by simp [results, Tryd.results3, go_sem]) rfl ?_
      exact ⟨rfl, B3.out.trans ((hb4.trans (hb5.mono hb4.size)).mono B3.out.size)⟩
end Go.Proofs.YtifbcejekdhnlaaDoor
