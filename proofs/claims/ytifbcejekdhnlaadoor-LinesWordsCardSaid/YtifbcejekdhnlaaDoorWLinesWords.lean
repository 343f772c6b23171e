/- LinesWords: the walk. Printed by tools/genlnw.py. -/
import Derived.Test.YtifbcejekdhnlaaDoorLw4
import Derived.BigRegion
import Derived.Deep.RegionHeld
import Derived.Deep.Cut
import Derived.Deep.CutBlock
namespace Go.Proofs.YtifbcejekdhnlaaDoor
open Go.RowKit Go.Maps
set_option linter.unusedVariables false

set_option maxHeartbeats 8000000 in
set_option maxRecDepth 100000 in
theorem walk_LinesWords (a0 : Int) (a1_0 : Int) (a1_1 : Int) (a1_2 : Int) (a1_3 : Int) (a2 : Int) (w : World) (w0 : (Lit.int .u8 a0).wf = true) (w1_0 : (Lit.int .u16 a1_0).wf = true) (w1_1 : (Lit.int .u16 a1_1).wf = true) (w1_2 : (Lit.int .u16 a1_2).wf = true) (w1_3 : (Lit.int .u16 a1_3).wf = true) (w2 : (Lit.int .u8 a2).wf = true) :
    Calls Tryd.prog 7 #[.int .u8 a0, .agg #[.int .u16 a1_0, .int .u16 a1_1, .int .u16 a1_2, .int .u16 a1_3], .int .u8 a2] w fun e w' => e = .returned (.bool true) ∧ Below w.heap.size w w' := by
  obtain ⟨p0, p1⟩ := bounds_u8 w0
  obtain ⟨q0, q1⟩ := bounds_u8 w2
  obtain ⟨b00, b01⟩ := bounds_u16 w1_0
  obtain ⟨b10, b11⟩ := bounds_u16 w1_1
  obtain ⟨b20, b21⟩ := bounds_u16 w1_2
  obtain ⟨b30, b31⟩ := bounds_u16 w1_3
  clear w0 w2 w1_0 w1_1 w1_2 w1_3
  obtain ⟨v, hv⟩ : ∃ v : Nat, a0 % 13 = v := ⟨(a0 % 13).toNat, by omega⟩
  obtain ⟨m0, hm0⟩ : ∃ m : Nat, a1_0 % 3 = m := ⟨(a1_0 % 3).toNat, by omega⟩
  obtain ⟨m1, hm1⟩ : ∃ m : Nat, a1_1 % 3 = m := ⟨(a1_1 % 3).toNat, by omega⟩
  obtain ⟨m2, hm2⟩ : ∃ m : Nat, a1_2 % 3 = m := ⟨(a1_2 % 3).toNat, by omega⟩
  obtain ⟨m3, hm3⟩ : ∃ m : Nat, a1_3 % 3 = m := ⟨(a1_3 % 3).toNat, by omega⟩
  have hv13 : v < 13 := by omega
  have hn1 : ∀ (q : Nat) (W : World), W.cell? ⟨q, 0, none⟩ = some (.int .u16 a1_0) → Calls Tryd.prog 20 #[.int .i64 0, .pointer (some ⟨q, 0, none⟩)] W fun e w' => e = .returned (.string ⟨(onesL m0).toArray⟩) ∧ Below W.heap.size W w' := fun q W h => numberw q 0 a1_0 m0 W (by omega) b00 (by omega) hm0 h
  have hn2 : ∀ (q : Nat) (W : World), W.cell? ⟨q, 1, none⟩ = some (.int .u16 a1_1) → Calls Tryd.prog 20 #[.int .i64 1, .pointer (some ⟨q, 0, none⟩)] W fun e w' => e = .returned (.string ⟨(onesL m1).toArray⟩) ∧ Below W.heap.size W w' := fun q W h => numberw q 1 a1_1 m1 W (by omega) b10 (by omega) hm1 h
  have hn3 : ∀ (q : Nat) (W : World), W.cell? ⟨q, 2, none⟩ = some (.int .u16 a1_2) → Calls Tryd.prog 20 #[.int .i64 2, .pointer (some ⟨q, 0, none⟩)] W fun e w' => e = .returned (.string ⟨(onesL m2).toArray⟩) ∧ Below W.heap.size W w' := fun q W h => numberw q 2 a1_2 m2 W (by omega) b20 (by omega) hm2 h
  have hn4 : ∀ (q : Nat) (W : World), W.cell? ⟨q, 3, none⟩ = some (.int .u16 a1_3) → Calls Tryd.prog 20 #[.int .i64 3, .pointer (some ⟨q, 0, none⟩)] W fun e w' => e = .returned (.string ⟨(onesL m3).toArray⟩) ∧ Below W.heap.size W w' := fun q W h => numberw q 3 a1_3 m3 W (by omega) b30 (by omega) hm3 h
  have hw := fun W : World => wordslw a0 v (onesL m0) (onesL m1) (onesL m2) (onesL m3) W p0 (by omega) hv
  have hchk := chk_all ⟨v, hv13⟩ ⟨m0, by omega⟩ ⟨m1, by omega⟩ ⟨m2, by omega⟩ ⟨m3, by omega⟩
  have hgood := good_all ⟨v, hv13⟩ ⟨m0, by omega⟩ ⟨m1, by omega⟩ ⟨m2, by omega⟩ ⟨m3, by omega⟩
  have hodd := odd_all ⟨v, hv13⟩
  have hogd := odd_good ⟨v, hv13⟩
  have hmor := more_all ⟨v, hv13⟩
  have hnl := name_len ⟨v, hv13⟩
  simp only at hchk hgood hodd hogd hmor hnl
  have hlen6 : (wordsL v (onesL m0) (onesL m1) (onesL m2) (onesL m3)).length ≤ 6 := by
    unfold wordsL tailL
    split <;> simp
  have hcons : wordsL v (onesL m0) (onesL m1) (onesL m2) (onesL m3) = nameL v :: tailL v (onesL m0) (onesL m1) (onesL m2) (onesL m3) := rfl
  generalize tailL v (onesL m0) (onesL m1) (onesL m2) (onesL m3) = tl at hcons
  generalize wordsL v (onesL m0) (onesL m1) (onesL m2) (onesL m3) = l at hw hchk hgood hcons hlen6
  have HN1 := Lib.hid hn1
  have HN2 := Lib.hid hn2
  have HN3 := Lib.hid hn3
  have HN4 := Lib.hid hn4
  have HW := Lib.hid hw
  have HCK := Lib.hid hchk
  have HGD := Lib.hid (GoodL.of hgood)
  have HOD := Lib.hid (And.intro hodd hogd)
  have HMO := Lib.hid hmor
  have HNL := Lib.hid hnl
  have HCO := Lib.hid hcons
  clear hn1 hn2 hn3 hn4 hw hchk hgood hodd hogd hmor hcons
  go_enter Tryd.func7, Tryd.ntmps7
  go_upto_region 2 with fail
  obtain ⟨W1, hW1⟩ : ∃ W1, W1 = w.alloc (.cells #[.int .u16 a1_0, .int .u16 a1_1, .int .u16 a1_2, .int .u16 a1_3] 51) := ⟨_, rfl⟩
  have hz0 : W1.cell? ⟨w.heap.size, 0, none⟩ = some (.int .u16 a1_0) := by rw [hW1]; simp
  have hz1 : W1.cell? ⟨w.heap.size, 1, none⟩ = some (.int .u16 a1_1) := by rw [hW1]; simp
  have hz2 : W1.cell? ⟨w.heap.size, 2, none⟩ = some (.int .u16 a1_2) := by rw [hW1]; simp
  have hz3 : W1.cell? ⟨w.heap.size, 3, none⟩ = some (.int .u16 a1_3) := by rw [hW1]; simp
  have hlt : w.heap.size < W1.heap.size := by rw [hW1]; simp
  have hB1 : Below w.heap.size w W1 := by rw [hW1]; exact (Below.refl _ _).alloc (Nat.le_refl _) _
  rw [← hW1]
  have HB1 := Lib.hid hB1
  clear hW1 hB1
  go_upto_region 3 with (first
    | (go_at_call 20; (with_reducible refine (HN1.out _ _ hz0).mono ?_); rintro e V1 ⟨rfl, hb1⟩)
    | (go_at_call 20; (with_reducible refine (HN2.out _ _ ((hb1.cell (p := ⟨w.heap.size, 1, none⟩) hlt).trans hz1)).mono ?_); rintro e V2 ⟨rfl, hb2⟩; have hb12 := hb1.trans (hb2.mono hb1.size))
    | (go_at_call 20; (with_reducible refine (HN3.out _ _ ((hb12.cell (p := ⟨w.heap.size, 2, none⟩) hlt).trans hz2)).mono ?_); rintro e V3 ⟨rfl, hb3⟩; have hb13 := hb12.trans (hb3.mono hb12.size))
    | (go_at_call 20; (with_reducible refine (HN4.out _ _ ((hb13.cell (p := ⟨w.heap.size, 3, none⟩) hlt).trans hz3)).mono ?_); rintro e V4 ⟨rfl, hb4⟩; have hb14 := hb13.trans (hb4.mono hb13.size))
    | (go_at_call 21; (with_reducible refine (HW.out _).mono ?_); rintro e V5 ⟨g, rfl, hkg, hb5⟩))
  have HBV := Lib.hid (HB1.out.trans ((hb14.trans (hb5.mono hb14.size)).mono HB1.out.size))
  obtain ⟨Ag, cg, eg, -, -, hkc⟩ := hkg.form
  injection eg with eg _ _
  subst eg
  have hrow : ∀ k x, l[k]? = some x → V5.cell? ⟨g, k, none⟩ = some (.string ⟨x.toArray⟩) := fun k x hx => by
    obtain ⟨g', e, -, h⟩ := hkc k x hx
    injection e with e; injection e with e; subst e; exact h
  have hgl : g < V5.heap.size := by
    obtain ⟨g', e, h, -⟩ := hkc 0 (nameL v) (by rw [HCO.out]; rfl)
    injection e with e; injection e with e; subst e; exact h
  have HRW := Lib.hid (fun W (h : Below V5.heap.size V5 W) k x hx => (h.cell (p := ⟨g, k, none⟩) hgl).trans (hrow k x hx))
  have HGL := Lib.hid (fun W (h : Below V5.heap.size V5 W) => Nat.lt_of_lt_of_le hgl h.size)
  have c0 : V5.cell? ⟨g, 0, none⟩ = some (.string ⟨(nameL v).toArray⟩) := hrow 0 _ (by rw [HCO.out]; rfl)
  clear hb1 hb2 hb12 hb3 hb13 hb4 hb14 hb5 hz0 hz1 hz2 hz3 hkg hkc hrow hgl HN1 HN2 HN3 HN4 HW HB1 hlt
  obtain ⟨n, hn0⟩ : ∃ n, l.length = n := ⟨_, rfl⟩
  rw [hn0] at hlen6 ⊢
  have HN := Lib.hid hn0
  have hn1 : 0 < n := by rw [← hn0, HCO.out]; simp
  clear hn0
  obtain ⟨NB, hNB⟩ : ∃ NB : ByteArray, NB = ⟨(nameL v).toArray⟩ := ⟨_, rfl⟩
  rw [← hNB] at c0
  obtain ⟨r1, hr1⟩ : ∃ r, r = parseN l := ⟨_, rfl⟩
  obtain ⟨r2, hr2⟩ : ∃ r, r = parseN (l ++ [moreW]) := ⟨_, rfl⟩
  obtain ⟨r3, hr3⟩ : ∃ r, r = parseN l.dropLast := ⟨_, rfl⟩
  obtain ⟨r4, hr4⟩ : ∃ r, r = parseN (l ++ [norep]) := ⟨_, rfl⟩
  have hck : ChkP v n r1 r2 r3 r4 := by rw [hr1, hr2, hr3, hr4, ← HN.out]; exact chk_out hv13 HCK.out
  have hp1 : ∀ W, Calls Tryd.prog 10 #[.string ⟨(Lib.join l [32]).toArray⟩] W (IsPar W r1) := fun W => by rw [hr1]; exact parsej W HGD.out
  have hp2 : ∀ W, Calls Tryd.prog 10 #[.string ⟨(Lib.join (l ++ [moreW]) [32]).toArray⟩] W (IsPar W r2) := fun W => by rw [hr2]; exact parsej W (good_snoc HGD.out (by rw [HN.out]; omega) (by decide))
  have hp3 : ∀ W, Calls Tryd.prog 10 #[.string ⟨(Lib.join l.dropLast [32]).toArray⟩] W (IsPar W r3) := fun W => by rw [hr3]; exact parsej W (good_drop HGD.out)
  have hp4 : ∀ W, Calls Tryd.prog 10 #[.string ⟨(Lib.join (l ++ [norep]) [32]).toArray⟩] W (IsPar W r4) := fun W => by rw [hr4]; exact parsej W (good_snoc HGD.out (by rw [HN.out]; omega) (by decide))
  obtain ⟨r1, t1⟩ := r1
  obtain ⟨r2, t2⟩ := r2
  obtain ⟨r3, t3⟩ := r3
  obtain ⟨r4, t4⟩ := r4
  obtain ⟨vb1, ks1, cv1, ky1, vl1, fl1, ex1, id1, by_1, bt1, qt1⟩ := r1
  obtain ⟨vb2, ks2, cv2, ky2, vl2, fl2, ex2, id2, by_2, bt2, qt2⟩ := r2
  obtain ⟨vb3, ks3, cv3, ky3, vl3, fl3, ex3, id3, by_3, bt3, qt3⟩ := r3
  obtain ⟨vb4, ks4, cv4, ky4, vl4, fl4, ex4, id4, by_4, bt4, qt4⟩ := r4
  obtain ⟨hck1, hck2, hck⟩ := hck
  simp only at hck1 hck2
  subst hck1
  subst hck2
  have HCL := Lib.hid hck
  have HP1 := Lib.hid hp1
  have HP2 := Lib.hid hp2
  have HP3 := Lib.hid hp3
  have HP4 := Lib.hid hp4
  clear hr1 hr2 hr3 hr4 hp1 hp2 hp3 hp4 hck HCK
  have HJ := Lib.hid (fun (W : World) (h : Below V5.heap.size V5 W) => joinl W HN.out (fun k x hx => by rw [Nat.zero_add]; exact HRW.out W h k x hx) (HGL.out W h) (Nat.le_refl _) HGD.out)
  replace hNB := Lib.hid hNB
  have HNB := hNB
  clear hNB
  go_upto_region 5 with (first
    | (go_at_call 22; (with_reducible refine (HJ.out _ (Below.refl _ _)).mono ?_); rintro e J1 ⟨rfl, hj1⟩)
    | (go_at_call 10; (with_reducible refine (HP1.out _).mono ?_); rintro e X1 ⟨kv, he, hk1, hb1⟩; obtain ⟨A1, cc1, rfl, -⟩ := (KyS.of_lst (U := fun _ => False) hk1 (fun _ _ _ e => e)).rd.form; have hf : e = .returned (.tuple #[.agg #[.int .u8 vb1, .slice A1 ks1.length cc1, .int .u8 cv1, .string ⟨ky1.toArray⟩, .string ⟨vl1.toArray⟩, .int .u32 fl1, .int .i64 ex1, .int .u64 id1, .int .u64 by_1, .int .i64 bt1, .bool false], .int .u8 0]) := he; subst hf; clear he))
  have ha1 : Below X1.heap.size X1 (X1.alloc (.cells #[.int .u8 vb1, .slice A1 ks1.length cc1, .int .u8 cv1, .string ⟨ky1.toArray⟩, .string ⟨vl1.toArray⟩, .int .u32 fl1, .int .i64 ex1, .int .u64 id1, .int .u64 by_1, .int .i64 bt1, .bool false] 30)) := (Below.refl _ _).alloc (Nat.le_refl _) _
  have hq1 : Cb (X1.alloc (.cells #[.int .u8 vb1, .slice A1 ks1.length cc1, .int .u8 cv1, .string ⟨ky1.toArray⟩, .string ⟨vl1.toArray⟩, .int .u32 fl1, .int .i64 ex1, .int .u64 id1, .int .u64 by_1, .int .i64 bt1, .bool false] 30)) X1.heap.size (cmdC ⟨vb1, ks1, cv1, ky1, vl1, fl1, ex1, id1, by_1, bt1, false⟩ (.slice A1 ks1.length cc1)) := cb_new rfl
  generalize X1.alloc _ = Y1 at *
  have BW1 := Lib.hid ((hj1.trans (hb1.mono hj1.size)).trans (ha1.mono (Nat.le_trans hj1.size hb1.size)))
  have HQ1 := Lib.hid (And.intro hq1 ((KyS.of_lst (U := fun _ => False) hk1 (fun _ _ _ e => e)).rd.on ha1))
  have x4 : Y1.cell? ⟨X1.heap.size, 10, none⟩ = some (.bool false) := hq1.at_ 10 _ rfl
  clear hj1 hb1 ha1 hq1 hk1
  have hnl1 : NB.size = (nameL v).length := by rw [HNB.out]; show (nameL v).toArray.size = _; simp
  obtain ⟨nl, hnl2⟩ : ∃ nl, NB.size = nl := ⟨_, rfl⟩
  rw [← hnl1, hnl2] at hnl
  obtain ⟨hnl3, hnl4, -⟩ := hnl
  obtain ⟨i, hi⟩ : ∃ i : Nat, a2 % (nl : Int) = i := ⟨(a2 % (nl : Int)).toNat, by have := Int.emod_nonneg a2 (b := (nl : Int)) (by omega); omega⟩
  have hil : i < nl := by have := Int.emod_lt_of_pos a2 (b := (nl : Int)) (by omega); omega
  have hw1 : IntKind.i64.wrap a2 = a2 := IntWalk.i64_in _ (by omega)
  have hw2 : IntKind.i64.wrap (i : Int) = i := IntWalk.i64_in _ (by omega)
  have hw3 : IntKind.i64.wrap ((i : Int) + 1) = (i : Int) + 1 := IntWalk.i64_in _ (by omega)
  have hnn : ¬ ((nl : Int) = 0) := by omega
  have HNS := Lib.hid hnl1
  clear hnl1
  have hii : (0 : Int) ≤ (i : Int) := by omega
  have hiN : i < NB.size := by omega
  obtain ⟨ch, hch⟩ : ∃ ch : Nat, (NB[i]'hiN).toNat = ch := ⟨_, rfl⟩
  go_upto_if 59 with fail
  rw [hi]
  have hil2 : i < (nameL v).length := by rw [← HNS.out, hnl2]; exact hil
  have HOB := Lib.hid (odd_b HNB.out hil2 hnl2)
  have HAS := Lib.hid HNL.out.2.2
  have HP5 : Hid (formOf (nameL v ++ [120]) = none) := HMO
  have htl : tl.length = n - 1 := by have := HN.out; rw [HCO.out] at this; simp at this; omega
  have HTL := Lib.hid htl
  have HTC := Lib.hid (fun W (h : Below V5.heap.size V5 W) (k : Nat) x (hx : tl[k]? = some x) => HRW.out W h (k + 1) x (by rw [HCO.out]; simpa using hx))
  have HGT : Hid (GoodL tl) := Lib.hid (good_tail (by rw [← HCO.out]; exact HGD.out))
  clear htl
  have hbad : ∀ W, Calls Tryd.prog 10 #[.string ⟨(Lib.join ((nameL v ++ [120]) :: tl) [32]).toArray⟩] W (IsPar W (Cmd.none, 1)) := fun W => by
    rw [← bad_parse (tl := tl) HMO.out]
    exact parsej W (good_cons HGT.out (by have := HTL.out; omega) (by simp) (by
      intro c hc
      rcases List.mem_append.mp hc with hc | hc
      · exact (HGD.out.each (nameL v) (by rw [HCO.out]; simp)).2.1 c hc
      · rw [List.mem_singleton.mp hc]; decide) (by have := HNL.out; simp; omega))
  have HBAD := Lib.hid hbad
  clear hbad
  have h95' : ch ≠ 95 → (nameL v)[i]? ≠ some 95 := by
    intro h e
    apply h
    rw [← hch]
    have e2 : NB.data.toList = nameL v := by rw [HNB.out]
    have : (nameL v)[i]? = some (NB[i]'hiN) := by
      rw [← e2]
      rw [List.getElem?_eq_getElem (by simp; exact hiN)]
      rfl
    rw [e] at this
    injection this with this
    rw [← this]; rfl
  have H95 := Lib.hid h95'
  clear h95'
  obtain ⟨i0, hinfo, hzi0, hzi1, hzi2⟩ := info_parts info_string
  have hnx : NB ++ (⟨#[120]⟩ : ByteArray) = ⟨(nameL v ++ [120]).toArray⟩ := by
    rw [HNB.out]
    apply of_list
    simp
  obtain ⟨NX, hNX⟩ : ∃ T : ByteArray, T = NB ++ ⟨#[120]⟩ := ⟨_, rfl⟩
  have r9 : ∀ w : World, (Op.stringOp .add NB ⟨#[120]⟩).run Tryd.prog w = .ok (.string NX) w := fun w => by rw [hNX]; exact run_string_add_sum w NB _ (by show NB.size + 1 ≤ _; omega)
  have HNX : Hid (NX = ⟨(nameL v ++ [120]).toArray⟩) := Lib.hid (by rw [hNX, hnx])
  clear hnx
  replace hNX := Lib.hid hNX
  have hbadg : GoodL ((nameL v ++ [120]) :: tl) := good_cons HGT.out (by have := HTL.out; omega) (by simp) (by
      intro c hc
      rcases List.mem_append.mp hc with hc | hc
      · exact (HGD.out.each (nameL v) (by rw [HCO.out]; simp)).2.1 c hc
      · rw [List.mem_singleton.mp hc]; decide) (by have := HNL.out; simp; omega)
  have HBG := Lib.hid hbadg
  clear hbadg
  go_cut [13, 14, 15] from 16 (fun s13 s14 s15 wx => Hid (Below Y1.heap.size Y1 wx))
  case first =>
    by_cases h95 : ch = 95
    · go_wp2_with fail
      go_meet
      case rel => exact Lib.hid (Below.refl _ _)
    · skip
      go_upto_region 9 with fail
      obtain ⟨P, hP⟩ : ∃ P : ByteArray, NB.extract 0 i = P := ⟨_, rfl⟩
      obtain ⟨Q, hQ⟩ : ∃ P : ByteArray, NB.extract i (i + 1) = P := ⟨_, rfl⟩
      obtain ⟨R, hR⟩ : ∃ P : ByteArray, NB.extract (i + 1) nl = P := ⟨_, rfl⟩
      rw [hP, hQ, hR] at HOB
      obtain ⟨U, hU⟩ : ∃ P : ByteArray, (⟨(Lib.toUpperA Q.data.toList).toArray⟩ : ByteArray) = P := ⟨_, rfl⟩
      rw [hU] at HOB
      obtain ⟨PU, hPU⟩ : ∃ T : ByteArray, T = P ++ U := ⟨_, rfl⟩
      obtain ⟨OD, hOD⟩ : ∃ T : ByteArray, T = PU ++ R := ⟨_, rfl⟩
      have HODE : Hid (OD = ⟨(oddL (nameL v) i).toArray⟩) := Lib.hid (by rw [hOD, hPU]; exact HOB.out.all)
      have hup : ∀ W, Calls Tryd.prog 23 #[.string Q] W fun e w' => e = .returned (.string U) ∧ Below W.heap.size W w' := fun W => by
        rw [← hU]
        exact Tryd.strings_ToUpper_ascii Q W (by have := HOB.out.small; omega) (HOB.out.asc HAS.out)
      have hsz := HOB.out.small
      have hsz2 : (P ++ U).size ≤ 10 := by rw [ByteArray.size_append]; omega
      have r1 : ∀ w : World, (Op.stringOp .add P U).run Tryd.prog w = .ok (.string PU) w := fun w => by rw [hPU]; exact run_string_add_sum w P U (by omega)
      have r2 : ∀ w : World, (Op.stringOp .add PU R).run Tryd.prog w = .ok (.string OD) w := fun w => by rw [hOD, hPU]; exact run_string_add_sum w _ R (by have := HNL.out; omega)
      replace hU := Lib.hid hU
      replace hPU := Lib.hid hPU
      replace hOD := Lib.hid hOD
      clear hsz hsz2
      have y1 : (i : Int) ≤ (nl : Int) := by omega
      have y2 : (i : Int) + 1 ≤ (nl : Int) := by omega
      have y3 : (i : Int) ≤ (i : Int) + 1 := by omega
      have y4 : (0 : Int) ≤ (i : Int) + 1 := by omega
      have hbd : Below Y1.heap.size Y1 Y1.drew := (Below.refl _ _).drew
      go_region_held3 (fun X => True)
        (trivial)
        (first | (go_at_call 23; refine (hup _).mono ?_; rintro e w3 ⟨rfl, hb3⟩; have hb3' := hbd.trans (hb3.mono hbd.size)))
      have HB3 := Lib.hid hb3'
      clear r1 r2 hup hbd hb3 hb3' hP hQ hR
      have hf9 : formOf (oddL (nameL v) i) = none := HOD.out.1 ⟨i, by have := HNL.out; omega⟩ hil2 (H95.out h95)
      have hg9 := HOD.out.2 ⟨i, by have := HNL.out; omega⟩ hil2
      have hl9 := hg9.2
      simp only at hl9
      have HODG := Lib.hid (show GoodL (oddL (nameL v) i :: tl) from good_cons HGT.out (by have := HTL.out; omega) (by intro e; rw [e] at hl9; simp at hl9; omega) (by
          have := hg9.1
          simp only [List.all_eq_true, decide_eq_true_eq] at this
          exact this) (by have := HNL.out; omega))
      clear hl9
      have hodp : ∀ W, Calls Tryd.prog 10 #[.string ⟨(Lib.join (oddL (nameL v) i :: tl) [32]).toArray⟩] W (IsPar W (Cmd.none, 1)) := fun W => by
        rw [← bad_parse (tl := tl) hf9]
        exact parsej W HODG.out
      have HODP := Lib.hid hodp
      have VB3 := Lib.hid (BW1.out.trans (HB3.out.mono BW1.out.size))
      clear hodp hf9 hg9
      have VW3 := VB3.out
      have htcw : ∀ (OB : Obj) (k : Nat) x, tl[k]? = some x → (w3.alloc OB).cell? ⟨g, 1 + k, none⟩ = some (.string ⟨x.toArray⟩) := fun OB k x hx => by
        rw [Nat.add_comm]
        exact HTC.out _ (VW3.alloc VW3.size _) k x hx
      have HTW := Lib.hid htcw
      clear htcw
      by_cases hn1' : n = 1
      · subst hn1'
        go_wp2_with (first
          | (at_builtin; go_loud (refine wpList_append_own_at _ rfl (.tmp 77) (.tmp 79) 24 rfl w3.heap.size 9 i0 _ 1 16 Tryd.underlying24 hinfo hzi0 hzi1 hzi2 rfl (by decide) _ 1 [.string OD] rfl (own_lit1 (Nat.le_refl _)) ⟨g, 0, none⟩ (0) (0) (tl.map fun x => .string ⟨x.toArray⟩) rfl (by rw [List.length_map, HTL.out, Nat.mul_one]) (fun j u hu => by rw [List.eq_nil_of_length_eq_zero HTL.out] at hu; simp at hu) strs_one (by unfold maxLen; omega) (by omega) (by simp) ?_; intro v5 Z5 hown5 hgr5 hnil5 hat5; obtain ⟨g5, cap5, rfl, q1, q2, q3, q4, hz5⟩ := app_row (N := 1) HODE.out HTL.out (by omega) hown5 hgr5; have HX5 := Lib.hid (And.intro q1 (And.intro q2 (And.intro q3 (And.intro q4 hz5)))); clear hown5 hgr5 hnil5 hat5 q1 q2 q3 q4 hz5))
          | (go_at_call 22; go_loud (with_reducible refine (joinl (l := oddL (nameL v) i :: tl) Z5 (by rw [List.length_cons]; have := HTL.out; omega) HX5.out.2.2.2.1 HX5.out.2.2.1 HX5.out.1 HODG.out).mono ?_); rintro e J5 ⟨rfl, hj5⟩)
          | (go_at_call 10; (with_reducible refine (HODP.out _).mono ?_); rintro e X5 ⟨kv, he, hk5, hb5⟩; obtain ⟨A5, cc5, rfl, -⟩ := (KyS.of_lst (U := fun _ => False) hk5 (fun _ _ _ e => e)).rd.form; have hf : e = .returned (.tuple #[.agg #[.int .u8 0, .slice A5 0 cc5, .int .u8 0, .string ⟨#[]⟩, .string ⟨#[]⟩, .int .u32 0, .int .i64 0, .int .u64 0, .int .u64 0, .int .i64 0, .bool false], .int .u8 1]) := he; subst hf; clear he hk5))
        have HY5 : Below Y1.heap.size Y1 X5 := ((HB3.out.trans (HX5.out.2.2.2.2.mono HB3.out.size)).trans (hj5.mono (Nat.le_trans HB3.out.size HX5.out.2.2.2.2.size))).trans (hb5.mono (Nat.le_trans (Nat.le_trans HB3.out.size HX5.out.2.2.2.2.size) hj5.size))
        have HYE := Lib.hid (HY5.alloc HY5.size (.cells #[.int .u8 0, .slice A5 0 cc5, .int .u8 0, .string ⟨#[]⟩, .string ⟨#[]⟩, .int .u32 0, .int .i64 0, .int .u64 0, .int .u64 0, .int .i64 0, .bool false] 30))
        generalize X5.alloc _ = YE at HYE ⊢
        go_meet
        case rel => exact HYE
      · have hn2' : ¬ (n - 1 = 0) := by omega
        have hn3' : 1 < n := by omega
        have hn4' : (1 : Int) < (n : Int) := by omega
        go_wp2_with (first
          | (at_builtin; go_loud (refine wpList_append_own_at _ rfl (.tmp 77) (.tmp 79) 24 rfl w3.heap.size 9 i0 _ 1 16 Tryd.underlying24 hinfo hzi0 hzi1 hzi2 rfl (by decide) _ 1 [.string OD] rfl (own_lit1 (Nat.le_refl _)) ⟨g, 1, none⟩ (n - 1) (n - 1) (tl.map fun x => .string ⟨x.toArray⟩) rfl (by rw [List.length_map, HTL.out, Nat.mul_one]) (strs_at (HTW.out _)) strs_one (by unfold maxLen; omega) (by omega) (by simp) ?_; intro v5 Z5 hown5 hgr5 hnil5 hat5; obtain ⟨g5, cap5, rfl, q1, q2, q3, q4, hz5⟩ := app_row (N := n) HODE.out HTL.out (by omega) hown5 hgr5; have HX5 := Lib.hid (And.intro q1 (And.intro q2 (And.intro q3 (And.intro q4 hz5)))); clear hown5 hgr5 hnil5 hat5 q1 q2 q3 q4 hz5))
          | (go_at_call 22; go_loud (with_reducible refine (joinl (l := oddL (nameL v) i :: tl) Z5 (by rw [List.length_cons]; have := HTL.out; omega) HX5.out.2.2.2.1 HX5.out.2.2.1 HX5.out.1 HODG.out).mono ?_); rintro e J5 ⟨rfl, hj5⟩)
          | (go_at_call 10; (with_reducible refine (HODP.out _).mono ?_); rintro e X5 ⟨kv, he, hk5, hb5⟩; obtain ⟨A5, cc5, rfl, -⟩ := (KyS.of_lst (U := fun _ => False) hk5 (fun _ _ _ e => e)).rd.form; have hf : e = .returned (.tuple #[.agg #[.int .u8 0, .slice A5 0 cc5, .int .u8 0, .string ⟨#[]⟩, .string ⟨#[]⟩, .int .u32 0, .int .i64 0, .int .u64 0, .int .u64 0, .int .i64 0, .bool false], .int .u8 1]) := he; subst hf; clear he hk5))
        have HY5 : Below Y1.heap.size Y1 X5 := ((HB3.out.trans (HX5.out.2.2.2.2.mono HB3.out.size)).trans (hj5.mono (Nat.le_trans HB3.out.size HX5.out.2.2.2.2.size))).trans (hb5.mono (Nat.le_trans (Nat.le_trans HB3.out.size HX5.out.2.2.2.2.size) hj5.size))
        have HYE := Lib.hid (HY5.alloc HY5.size (.cells #[.int .u8 0, .slice A5 0 cc5, .int .u8 0, .string ⟨#[]⟩, .string ⟨#[]⟩, .int .u32 0, .int .i64 0, .int .u64 0, .int .u64 0, .int .i64 0, .bool false] 30))
        generalize X5.alloc _ = YE at HYE ⊢
        go_meet
        case rel => exact HYE
  have HY := hcut
  generalize wc = Y at HY ⊢
  clear hcut
  have hvy : Below V5.heap.size V5 Y := BW1.out.trans (HY.out.mono BW1.out.size)
  have VY := Lib.hid hvy
  have htcw : ∀ (OB : Obj) (k : Nat) x, tl[k]? = some x → (Y.alloc OB).cell? ⟨g, 1 + k, none⟩ = some (.string ⟨x.toArray⟩) := fun OB k x hx => by
    rw [Nat.add_comm]
    exact HTC.out _ (VY.out.alloc VY.out.size _) k x hx
  have HTW := Lib.hid htcw
  clear htcw hvy
  go_upto_region 13 with fail
  go_cut [16, 17] from 18 (fun s16 s17 wx => s17 = .int .u8 1 ∧ Hid (Below Y1.heap.size Y1 wx))
  case first =>
    by_cases hn1' : n = 1
    · subst hn1'
      go_wp2_with (first
        | (at_builtin; go_loud (refine wpList_append_own_at _ rfl (.tmp 90) (.tmp 92) 24 rfl Y.heap.size 9 i0 _ 1 16 Tryd.underlying24 hinfo hzi0 hzi1 hzi2 rfl (by decide) _ 1 [.string NX] rfl (own_lit1 (Nat.le_refl _)) ⟨g, 0, none⟩ (0) (0) (tl.map fun x => .string ⟨x.toArray⟩) rfl (by rw [List.length_map, HTL.out, Nat.mul_one]) (fun j u hu => by rw [List.eq_nil_of_length_eq_zero HTL.out] at hu; simp at hu) strs_one (by unfold maxLen; omega) (by omega) (by simp) ?_; intro v6 Z6 hown6 hgr6 hnil6 hat6; obtain ⟨g6, cap6, rfl, q1, q2, q3, q4, hz6⟩ := app_row (N := 1) HNX.out HTL.out (by omega) hown6 hgr6; have HX6 := Lib.hid (And.intro q1 (And.intro q2 (And.intro q3 (And.intro q4 hz6)))); clear hown6 hgr6 hnil6 hat6 q1 q2 q3 q4 hz6))
        | (go_at_call 22; go_loud (with_reducible refine (joinl (l := (nameL v ++ [120]) :: tl) Z6 (by rw [List.length_cons]; have := HTL.out; omega) HX6.out.2.2.2.1 HX6.out.2.2.1 HX6.out.1 HBG.out).mono ?_); rintro e J6 ⟨rfl, hj6⟩)
        | (go_at_call 10; (with_reducible refine (HBAD.out _).mono ?_); rintro e X6 ⟨kv, he, hk6, hb6⟩; obtain ⟨A6, cc6, rfl, -⟩ := (KyS.of_lst (U := fun _ => False) hk6 (fun _ _ _ e => e)).rd.form; have hf : e = .returned (.tuple #[.agg #[.int .u8 0, .slice A6 0 cc6, .int .u8 0, .string ⟨#[]⟩, .string ⟨#[]⟩, .int .u32 0, .int .i64 0, .int .u64 0, .int .u64 0, .int .i64 0, .bool false], .int .u8 1]) := he; subst hf; clear he hk6))
      have HY6 : Below Y1.heap.size Y1 X6 := ((HY.out.trans (HX6.out.2.2.2.2.mono HY.out.size)).trans (hj6.mono (Nat.le_trans HY.out.size HX6.out.2.2.2.2.size))).trans (hb6.mono (Nat.le_trans (Nat.le_trans HY.out.size HX6.out.2.2.2.2.size) hj6.size))
      have HYE := Lib.hid (HY6.alloc HY6.size (.cells #[.int .u8 0, .slice A6 0 cc6, .int .u8 0, .string ⟨#[]⟩, .string ⟨#[]⟩, .int .u32 0, .int .i64 0, .int .u64 0, .int .u64 0, .int .i64 0, .bool false] 30))
      generalize X6.alloc _ = YE at HYE ⊢
      go_meet
      case rel => exact ⟨rfl, HYE⟩
    · have hn2' : ¬ (n - 1 = 0) := by omega
      have hn3' : 1 < n := by omega
      have hn4' : (1 : Int) < (n : Int) := by omega
      go_wp2_with (first
        | (at_builtin; go_loud (refine wpList_append_own_at _ rfl (.tmp 90) (.tmp 92) 24 rfl Y.heap.size 9 i0 _ 1 16 Tryd.underlying24 hinfo hzi0 hzi1 hzi2 rfl (by decide) _ 1 [.string NX] rfl (own_lit1 (Nat.le_refl _)) ⟨g, 1, none⟩ (n - 1) (n - 1) (tl.map fun x => .string ⟨x.toArray⟩) rfl (by rw [List.length_map, HTL.out, Nat.mul_one]) (strs_at (HTW.out _)) strs_one (by unfold maxLen; omega) (by omega) (by simp) ?_; intro v6 Z6 hown6 hgr6 hnil6 hat6; obtain ⟨g6, cap6, rfl, q1, q2, q3, q4, hz6⟩ := app_row (N := n) HNX.out HTL.out (by omega) hown6 hgr6; have HX6 := Lib.hid (And.intro q1 (And.intro q2 (And.intro q3 (And.intro q4 hz6)))); clear hown6 hgr6 hnil6 hat6 q1 q2 q3 q4 hz6))
        | (go_at_call 22; go_loud (with_reducible refine (joinl (l := (nameL v ++ [120]) :: tl) Z6 (by rw [List.length_cons]; have := HTL.out; omega) HX6.out.2.2.2.1 HX6.out.2.2.1 HX6.out.1 HBG.out).mono ?_); rintro e J6 ⟨rfl, hj6⟩)
        | (go_at_call 10; (with_reducible refine (HBAD.out _).mono ?_); rintro e X6 ⟨kv, he, hk6, hb6⟩; obtain ⟨A6, cc6, rfl, -⟩ := (KyS.of_lst (U := fun _ => False) hk6 (fun _ _ _ e => e)).rd.form; have hf : e = .returned (.tuple #[.agg #[.int .u8 0, .slice A6 0 cc6, .int .u8 0, .string ⟨#[]⟩, .string ⟨#[]⟩, .int .u32 0, .int .i64 0, .int .u64 0, .int .u64 0, .int .i64 0, .bool false], .int .u8 1]) := he; subst hf; clear he hk6))
      have HY6 : Below Y1.heap.size Y1 X6 := ((HY.out.trans (HX6.out.2.2.2.2.mono HY.out.size)).trans (hj6.mono (Nat.le_trans HY.out.size HX6.out.2.2.2.2.size))).trans (hb6.mono (Nat.le_trans (Nat.le_trans HY.out.size HX6.out.2.2.2.2.size) hj6.size))
      have HYE := Lib.hid (HY6.alloc HY6.size (.cells #[.int .u8 0, .slice A6 0 cc6, .int .u8 0, .string ⟨#[]⟩, .string ⟨#[]⟩, .int .u32 0, .int .i64 0, .int .u64 0, .int .u64 0, .int .i64 0, .bool false] 30))
      generalize X6.alloc _ = YE at HYE ⊢
      go_meet
      case rel => exact ⟨rfl, HYE⟩
  obtain ⟨rfl, HY2⟩ := hcut
  clear HY VY HTW
  have HY := HY2
  clear HY2
  generalize wc = YA at HY ⊢
  go_upto_region 16 with fail
  have VY := Lib.hid (BW1.out.trans (HY.out.mono BW1.out.size))
  have HGM := Lib.hid (show GoodL (l ++ [moreW]) from good_snoc HGD.out (by rw [HN.out]; omega) (by decide))
  go_upto_region 17 with (first
    | (at_builtin; (refine wpList_append_own_at _ rfl (.const (.slice none 0 0)) (.tmp 101) 24 rfl YA.heap.size 9 i0 _ 1 16 Tryd.underlying24 hinfo hzi0 hzi1 hzi2 rfl (by decide) (.slice none 0 0) 0 [] rfl (World.ownsRow_nil _ _ _ _) ⟨g, 0, none⟩ n n (l.map fun x => .string ⟨x.toArray⟩) rfl (by rw [List.length_map, HN.out, Nat.mul_one]) (strs_at (fun k x hx => by rw [Nat.zero_add]; exact HRW.out _ VY.out k x hx)) strs_one (by unfold maxLen; omega) (by omega) (Nat.le_refl _) ?_; intro v7 Z7 hown7 hgr7 hnil7 hat7; obtain ⟨g7, cap7, rfl, q1, ho7, hz7⟩ := nil_row HN.out (by omega) hown7 hgr7; have HO7 := Lib.hid (And.intro ho7 (And.intro hz7 q1)); clear hown7 hgr7 hnil7 hat7 ho7 hz7 q1))
    | (at_builtin; go_loud (refine wpList_append_own_at _ rfl (.tmp 102) (.tmp 103) 24 rfl YA.heap.size 9 i0 _ 1 16 Tryd.underlying24 hinfo hzi0 hzi1 hzi2 rfl (by decide) _ n (l.map fun x => .string ⟨x.toArray⟩) rfl (HO7.out.1.alloc _) ⟨Z7.heap.size, 0, none⟩ 1 1 [.string ⟨moreW.toArray⟩] rfl rfl one_at one_one (by unfold maxLen; omega) (by omega) (by have := HO7.out.2.1.size; simp; omega) ?_; intro v8 Z8 hown8 hgr8 hnil8 hat8; obtain ⟨g8, cap8, rfl, q1, q2, q3, q4, hz8⟩ := snoc_row (N := n + 1) HO7.out.1 HO7.out.2.1 HN.out (by omega) hown8 hgr8; have HX8 := Lib.hid (And.intro q1 (And.intro q2 (And.intro q3 (And.intro q4 hz8)))); clear hown8 hgr8 hnil8 hat8 q1 q2 q3 q4 hz8))
    | (go_at_call 22; go_loud (with_reducible refine (joinl (l := l ++ [moreW]) Z8 (by rw [List.length_append]; have := HN.out; simp; omega) HX8.out.2.2.2.1 HX8.out.2.2.1 HX8.out.1 HGM.out).mono ?_); rintro e J8 ⟨rfl, hj8⟩)
    | (go_at_call 10; (with_reducible refine (HP2.out _).mono ?_); rintro e X2 ⟨kv, he, hk2, hb2⟩; obtain ⟨A2, cc2, rfl, -⟩ := (KyS.of_lst (U := fun _ => False) hk2 (fun _ _ _ e => e)).rd.form; have hf : e = .returned (.tuple #[.agg #[.int .u8 vb2, .slice A2 ks2.length cc2, .int .u8 cv2, .string ⟨ky2.toArray⟩, .string ⟨vl2.toArray⟩, .int .u32 fl2, .int .i64 ex2, .int .u64 id2, .int .u64 by_2, .int .i64 bt2, .bool qt2], .int .u8 t2]) := he; subst hf; clear he))
  have HY8 : Below Y1.heap.size Y1 X2 := ((HY.out.trans (HX8.out.2.2.2.2.mono HY.out.size)).trans (hj8.mono (Nat.le_trans HY.out.size HX8.out.2.2.2.2.size))).trans (hb2.mono (Nat.le_trans (Nat.le_trans HY.out.size HX8.out.2.2.2.2.size) hj8.size))
  replace HY := Lib.hid (HY8.alloc HY8.size (.cells #[.int .u8 vb2, .slice A2 ks2.length cc2, .int .u8 cv2, .string ⟨ky2.toArray⟩, .string ⟨vl2.toArray⟩, .int .u32 fl2, .int .i64 ex2, .int .u64 id2, .int .u64 by_2, .int .i64 bt2, .bool qt2] 30))
  clear VY HGM HO7
  generalize X2.alloc _ = YB at HY ⊢
  clear HY8 hj8 hb2 HX8 hk2
  have VY := Lib.hid (BW1.out.trans (HY.out.mono BW1.out.size))
  have hdl : ∀ k x, l.dropLast[k]? = some x → YB.cell? ⟨g, 0 + k, none⟩ = some (.string ⟨x.toArray⟩) := fun k x hx => by
    rw [Nat.zero_add]
    refine HRW.out _ VY.out k x ?_
    rw [List.dropLast_eq_take, List.getElem?_take] at hx
    split at hx
    · exact hx
    · simp at hx
  have HDL := Lib.hid hdl
  clear hdl
  have hw4 : IntKind.i64.wrap ((n : Int) - 1) = ((n - 1 : Nat) : Int) := by rw [IntWalk.i64_in _ (by omega)]; omega
  have y5 : (0 : Int) ≤ ((n - 1 : Nat) : Int) := by omega
  have y6 : ((n - 1 : Nat) : Int) ≤ (n : Int) := by omega
  go_upto_region 18 with (first
    | (go_at_call 22; go_loud (with_reducible refine (joinl (l := l.dropLast) YB (by rw [List.length_dropLast, HN.out]) HDL.out (HGL.out _ VY.out) (by omega) (good_drop HGD.out)).mono ?_); rintro e J3 ⟨rfl, hj3⟩)
    | (go_at_call 10; (with_reducible refine (HP3.out _).mono ?_); rintro e X3 ⟨kv, he, hk3, hb3⟩; obtain ⟨A3, cc3, rfl, -⟩ := (KyS.of_lst (U := fun _ => False) hk3 (fun _ _ _ e => e)).rd.form; have hf : e = .returned (.tuple #[.agg #[.int .u8 vb3, .slice A3 ks3.length cc3, .int .u8 cv3, .string ⟨ky3.toArray⟩, .string ⟨vl3.toArray⟩, .int .u32 fl3, .int .i64 ex3, .int .u64 id3, .int .u64 by_3, .int .i64 bt3, .bool qt3], .int .u8 t3]) := he; subst hf; clear he))
  have HY8 : Below Y1.heap.size Y1 X3 := (HY.out.trans (hj3.mono HY.out.size)).trans (hb3.mono (Nat.le_trans HY.out.size hj3.size))
  replace HY := Lib.hid (HY8.alloc HY8.size (.cells #[.int .u8 vb3, .slice A3 ks3.length cc3, .int .u8 cv3, .string ⟨ky3.toArray⟩, .string ⟨vl3.toArray⟩, .int .u32 fl3, .int .i64 ex3, .int .u64 id3, .int .u64 by_3, .int .i64 bt3, .bool qt3] 30))
  clear VY HDL
  generalize X3.alloc _ = YC at HY ⊢
  clear HY8 hj3 hb3 hk3
  have VY := Lib.hid (BW1.out.trans (HY.out.mono BW1.out.size))
  have HGM := Lib.hid (show GoodL (l ++ [norep]) from good_snoc HGD.out (by rw [HN.out]; omega) (by decide))
  go_upto_region 19 with (first
    | (at_builtin; (refine wpList_append_own_at _ rfl (.const (.slice none 0 0)) (.tmp 120) 24 rfl YC.heap.size 9 i0 _ 1 16 Tryd.underlying24 hinfo hzi0 hzi1 hzi2 rfl (by decide) (.slice none 0 0) 0 [] rfl (World.ownsRow_nil _ _ _ _) ⟨g, 0, none⟩ n n (l.map fun x => .string ⟨x.toArray⟩) rfl (by rw [List.length_map, HN.out, Nat.mul_one]) (strs_at (fun k x hx => by rw [Nat.zero_add]; exact HRW.out _ VY.out k x hx)) strs_one (by unfold maxLen; omega) (by omega) (Nat.le_refl _) ?_; intro v7 Z7 hown7 hgr7 hnil7 hat7; obtain ⟨g7, cap7, rfl, q1, ho7, hz7⟩ := nil_row HN.out (by omega) hown7 hgr7; have HO7 := Lib.hid (And.intro ho7 (And.intro hz7 q1)); clear hown7 hgr7 hnil7 hat7 ho7 hz7 q1))
    | (at_builtin; go_loud (refine wpList_append_own_at _ rfl (.tmp 121) (.tmp 122) 24 rfl YC.heap.size 9 i0 _ 1 16 Tryd.underlying24 hinfo hzi0 hzi1 hzi2 rfl (by decide) _ n (l.map fun x => .string ⟨x.toArray⟩) rfl (HO7.out.1.alloc _) ⟨Z7.heap.size, 0, none⟩ 1 1 [.string ⟨norep.toArray⟩] rfl rfl one_at one_one (by unfold maxLen; omega) (by omega) (by have := HO7.out.2.1.size; simp; omega) ?_; intro v8 Z8 hown8 hgr8 hnil8 hat8; obtain ⟨g8, cap8, rfl, q1, q2, q3, q4, hz8⟩ := snoc_row (N := n + 1) HO7.out.1 HO7.out.2.1 HN.out (by omega) hown8 hgr8; have HX8 := Lib.hid (And.intro q1 (And.intro q2 (And.intro q3 (And.intro q4 hz8)))); clear hown8 hgr8 hnil8 hat8 q1 q2 q3 q4 hz8))
    | (go_at_call 22; go_loud (with_reducible refine (joinl (l := l ++ [norep]) Z8 (by rw [List.length_append]; have := HN.out; simp; omega) HX8.out.2.2.2.1 HX8.out.2.2.1 HX8.out.1 HGM.out).mono ?_); rintro e J8 ⟨rfl, hj8⟩)
    | (go_at_call 10; (with_reducible refine (HP4.out _).mono ?_); rintro e X4 ⟨kv, he, hk4, hb4⟩; obtain ⟨A4, cc4, rfl, -⟩ := (KyS.of_lst (U := fun _ => False) hk4 (fun _ _ _ e => e)).rd.form; have hf : e = .returned (.tuple #[.agg #[.int .u8 vb4, .slice A4 ks4.length cc4, .int .u8 cv4, .string ⟨ky4.toArray⟩, .string ⟨vl4.toArray⟩, .int .u32 fl4, .int .i64 ex4, .int .u64 id4, .int .u64 by_4, .int .i64 bt4, .bool qt4], .int .u8 t4]) := he; subst hf; clear he))
  have HY8 : Below Y1.heap.size Y1 X4 := ((HY.out.trans (HX8.out.2.2.2.2.mono HY.out.size)).trans (hj8.mono (Nat.le_trans HY.out.size HX8.out.2.2.2.2.size))).trans (hb4.mono (Nat.le_trans (Nat.le_trans HY.out.size HX8.out.2.2.2.2.size) hj8.size))
  replace HY := Lib.hid (HY8.alloc HY8.size (.cells #[.int .u8 vb4, .slice A4 ks4.length cc4, .int .u8 cv4, .string ⟨ky4.toArray⟩, .string ⟨vl4.toArray⟩, .int .u32 fl4, .int .i64 ex4, .int .u64 id4, .int .u64 by_4, .int .i64 bt4, .bool qt4] 30))
  have hq4 : Cb (X4.alloc (.cells #[.int .u8 vb4, .slice A4 ks4.length cc4, .int .u8 cv4, .string ⟨ky4.toArray⟩, .string ⟨vl4.toArray⟩, .int .u32 fl4, .int .i64 ex4, .int .u64 id4, .int .u64 by_4, .int .i64 bt4, .bool qt4] 30)) X4.heap.size (cmdC ⟨vb4, ks4, cv4, ky4, vl4, fl4, ex4, id4, by_4, bt4, qt4⟩ (.slice A4 ks4.length cc4)) := cb_new rfl
  clear VY HGM HO7
  generalize X4.alloc _ = YD at HY hq4 ⊢
  clear HY8 hj8 hb4 HX8 hk4
  obtain ⟨u0, u1, u2, u3, u4, u5, u6, u7, u8, u9, u10⟩ := cb_cells hq4
  obtain ⟨s0, s1, s2, s3, s4, s5, s6, s7, s8, s9, s10⟩ := cb_cells (HQ1.out.1.new HY.out)
  have HL := Lib.hid (lives29 YD)
  have hvw := HBV.out.trans (BW1.out.mono HBV.out.size)
  have HE := Lib.hid (hvw.trans (HY.out.mono hvw.size))
  clear hvw
  clear HP1 HP2 HP3 HP4 HJ HBAD HBG HTL HTC HRW HGL HGT HGD HOD HMO HNX HOB
  go_upto_region 20 with fail
  rcases HCL.out with ⟨hv1, rfl, rfl, rfl, hkn, ht3⟩ | ⟨rfl, rfl, rfl, rfl, rfl, hcp⟩ | ⟨hv1, rfl, rfl, rfl⟩ | ⟨hv1, hv2, rfl, rfl, rfl, rfl, hcp, hbt⟩
  · by_cases h3 : t3 = 0
    · have hn3 : n = 3 := by simpa [h3] using ht3
      subst h3
      subst hn3
      obtain rfl | rfl : v = 0 ∨ v = 1 := by omega
      · skip
        have hNB0 : NB = ⟨#[103, 101, 116]⟩ := HNB.out
        subst hNB0
        go_wp2_with (go_at_call 9; refine HL.out.mono ?_; rintro e w' ⟨rfl, hb⟩)
        go_ret
        exact ⟨rfl, HE.out.trans (hb.mono HE.out.size)⟩
      · skip
        have hNB0 : NB = ⟨#[103, 101, 116, 115]⟩ := HNB.out
        subst hNB0
        go_wp2_with (go_at_call 9; refine HL.out.mono ?_; rintro e w' ⟨rfl, hb⟩)
        go_ret
        exact ⟨rfl, HE.out.trans (hb.mono HE.out.size)⟩
    · have hn3 : ¬ n = 3 := by simpa [h3] using ht3
      have hn5 : ((n : Int) == 3) = false := beq_eq_false_iff_ne.mpr (by omega)
      have h3' : ((t3 : Int) == 0) = false := beq_eq_false_iff_ne.mpr (by omega)
      obtain rfl | rfl : v = 0 ∨ v = 1 := by omega
      · skip
        have hNB0 : NB = ⟨#[103, 101, 116]⟩ := HNB.out
        subst hNB0
        go_wp2_with (go_at_call 9; refine HL.out.mono ?_; rintro e w' ⟨rfl, hb⟩)
        go_ret
        exact ⟨rfl, HE.out.trans (hb.mono HE.out.size)⟩
      · skip
        have hNB0 : NB = ⟨#[103, 101, 116, 115]⟩ := HNB.out
        subst hNB0
        go_wp2_with (go_at_call 9; refine HL.out.mono ?_; rintro e w' ⟨rfl, hb⟩)
        go_ret
        exact ⟨rfl, HE.out.trans (hb.mono HE.out.size)⟩
  · obtain ⟨e1, e2, e3, e4, e5, e6, e7⟩ := hcp
    simp only at e1 e2 e3 e4 e5 e6 e7
    subst e1; subst e2; subst e3; subst e4; subst e5; subst e6; subst e7
    have hNB0 : NB = ⟨#[102, 108, 117, 115, 104, 95, 97, 108, 108]⟩ := HNB.out
    subst hNB0
    go_wp2_with (go_at_call 9; refine HL.out.mono ?_; rintro e w' ⟨rfl, hb⟩)
    go_ret
    exact ⟨rfl, HE.out.trans (hb.mono HE.out.size)⟩
  · obtain rfl | rfl : v = 11 ∨ v = 12 := by omega
    · skip
      have hNB0 : NB = ⟨#[118, 101, 114, 115, 105, 111, 110]⟩ := HNB.out
      subst hNB0
      go_wp2_with (go_at_call 9; refine HL.out.mono ?_; rintro e w' ⟨rfl, hb⟩)
      go_ret
      exact ⟨rfl, HE.out.trans (hb.mono HE.out.size)⟩
    · skip
      have hNB0 : NB = ⟨#[113, 117, 105, 116]⟩ := HNB.out
      subst hNB0
      go_wp2_with (go_at_call 9; refine HL.out.mono ?_; rintro e w' ⟨rfl, hb⟩)
      go_ret
      exact ⟨rfl, HE.out.trans (hb.mono HE.out.size)⟩
  · obtain ⟨e1, e2, e3, e4, e5, e6, e7⟩ := hcp
    simp only at e1 e2 e3 e4 e5 e6 e7
    subst e1; subst e2; subst e3; subst e4; subst e5; subst e6; subst e7; subst hbt
    obtain ⟨n0, n1, n2, n3, n4⟩ := name_cls ⟨v, hv13⟩ hv1 hv2
    simp only at n0 n1 n2 n3 n4
    have hNB0 : NB = ⟨(nameL v).toArray⟩ := HNB.out
    subst hNB0
    go_wp2_with (go_at_call 9; refine HL.out.mono ?_; rintro e w' ⟨rfl, hb⟩)
    go_ret
    exact ⟨rfl, HE.out.trans (hb.mono HE.out.size)⟩
end Go.Proofs.YtifbcejekdhnlaaDoor
