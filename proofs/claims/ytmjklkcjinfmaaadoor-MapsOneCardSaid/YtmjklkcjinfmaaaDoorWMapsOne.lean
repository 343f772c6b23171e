/- MapsOne. -/
import Derived.Test.YtmjklkcjinfmaaaDoorMaW
namespace Go.Proofs.YtmjklkcjinfmaaaDoor
open Go.RowKit Go.Maps
set_option linter.unusedVariables false
section
variable {a : Option Addr} {n cp : Nat} {L : List Stp} {c : Cal} {an : Ans} {w : World}
/-- The ways that a call may go. -/
def OneWay (is has k1 nr eq : Bool) : Prop := (is = false) ∨ (is = true ∧ has = true ∧ eq = true) ∨ (is = true ∧ has = true ∧ eq = false) ∨ (is = true ∧ has = false ∧ k1 = false ∧ eq = true) ∨ (is = true ∧ has = false ∧ k1 = false ∧ eq = false) ∨ (is = true ∧ has = false ∧ k1 = true ∧ nr = true ∧ eq = true) ∨ (is = true ∧ has = false ∧ k1 = true ∧ nr = true ∧ eq = false) ∨ (is = true ∧ has = false ∧ k1 = true ∧ nr = false ∧ eq = true) ∨ (is = true ∧ has = false ∧ k1 = true ∧ nr = false ∧ eq = false)
theorem one_way (is has k1 nr eq : Bool) : OneWay is has k1 nr eq := by
  unfold OneWay
  cases is <;> cases has <;> cases k1 <;> cases nr <;> cases eq <;> simp
set_option maxHeartbeats 8000000 in
set_option maxRecDepth 100000 in
theorem one_main (hl : L.length = n) (hn : n ≤ cp) (hcp : cp ≤ maxLen) (hR : RdS w a L) (hK : ∀ x ∈ L, StpOk x) (hc : CalOk c) (hi : an.item.k.size ≤ maxLen ∧ an.item.v.size ≤ maxLen) (htab : Lib.TabIs Tryd.prog w "internal/strconv.uint64pow10" .u64 Lib.pow10Tab) (hb1 : longB L = false) (hb2 : longB [⟨c, 0⟩] = false) (hs : ¬ 9000 < wrap64 ((an.item.k.size : Int) + (an.item.v.size : Int))) : Calls Tryd.prog 5 #[.slice a n cp, .agg (calC c).toArray, .agg (ansC an).toArray] w fun e w' => e = .returned (.bool true) ∧ Below w.heap.size w w' := by
  have HT := Lib.hid htab
  have HR := Lib.hid hR
  have HK := Lib.hid hK
  have HC := Lib.hid hc
  have HL := Lib.hid hl
  have HN := Lib.hid hn
  have HCP := Lib.hid hcp
  have i1 := hi.1
  have i2 := hi.2
  unfold maxLen at hcp i1 i2
  have HL1 : Hid (∀ W, Below w.heap.size w W → Calls Tryd.prog 25 #[.slice a n cp] W (LgP W L)) := Lib.hid fun W hb => longw a n cp L W HL.out HN.out HCP.out (HR.out.below hb (Nat.le_refl _)) HK.out
  have HB1 := Lib.hid hb1
  have HB2 := Lib.hid hb2
  have HO : Hid (∀ x ∈ [(⟨c, 0⟩ : Stp)], StpOk x) := Lib.hid fun x hx => by simp at hx; subst hx; exact ⟨HC.out, by show (0 : Int) ≤ 0; decide, by show (0 : Int) ≤ 255; decide⟩
  have hs2 : decide (9000 < wrap64 ((an.item.k.size : Int) + (an.item.v.size : Int))) = false := decide_eq_false hs
  have h100 := longB_no hb1
  rw [hl] at h100
  clear hR hK hc hi htab hb1 hb2 hl hs
  go_enter Tryd.func5, Tryd.ntmps5
  go_wp2_with (first
    | ((with_reducible refine at_wq ?_); refine wpList_box_bk rfl 35 (.tmp 1) rfl (calC c) rfl ?_; intro U1 q4 u1)
    | ((with_reducible refine at_wq ?_); refine wpList_box_bk rfl 40 (.tmp 2) rfl (ansC an) rfl ?_; intro U2 q5 u2; have HU := Lib.hid (fr_new u1.below u2.below); have HQ4 := Lib.hid (u1.bk.new u2.below); have HQ5 := Lib.hid u2.bk; clear u1 u2)
    | (go_at_call 25; (with_reducible refine (HL1.out _ HU.out).mono ?_); rintro e V1 ⟨rfl, f1⟩; have F1 := Lib.hid f1; have HW1 := Lib.hid (fr_new HU.out f1); have HP4 := Lib.hid (HQ4.out.new f1); have HP5 := Lib.hid (HQ5.out.new f1); clear f1 HQ4 HQ5; rw [HB1.out]; obtain ⟨c0, c1, c2, c3, c4, c5, c6⟩ := call_cells HP4.out; obtain ⟨a0, a1, a2, a3, a4, a5, a6, a7⟩ := an_cells HP5.out)
    | (go_at_call 25; refine (longw (some ⟨V1.heap.size, 0, none⟩) 1 1 [⟨c, 0⟩] _ rfl (Nat.le_refl _) (by decide) (rd_one _ _ _) HO.out).mono ?_; rintro e V2 ⟨rfl, f2⟩; have HV2 := Lib.hid (fr_new HW1.out (((Below.refl _ _).alloc (Nat.le_refl _) _).trans (f2.mono (by simp)))); have HF2 := Lib.hid (((Below.refl _ _).alloc (Nat.le_refl _) _).trans (f2.mono (by simp)) : Below V1.heap.size V1 V2); clear f2; rw [HB2.out]; have HP42 := Lib.hid (HP4.out.new HF2.out); have HP52 := Lib.hid (HP5.out.new HF2.out); clear c0 c1 c2 c3 c4 c5 c6 a0 a1 a2 a3 a4 a5 a6 a7; obtain ⟨c0, c1, c2, c3, c4, c5, c6⟩ := call_cells HP42.out; obtain ⟨a0, a1, a2, a3, a4, a5, a6, a7⟩ := an_cells HP52.out)
    | (go_at_call 11; refine (Lv.start _).mono ?_; rintro e V3 ⟨m, rfl, l0⟩; clear c0 c1 c2 c3 c4 c5 c6 a0 a1 a2 a3 a4 a5 a6 a7 hs2; have HT2 := Lib.hid (tab_below HT.out HV2.out); have HL0 := Lib.hid l0; clear l0)
    | (go_at_call 26; refine (runw a n cp L V2 V3 m HL.out HN.out HCP.out (HR.out.below HV2.out (Nat.le_refl _)) HK.out (by omega) HL0.out HT2.out).mono ?_; rintro e V4 ⟨mv, S, x, rfl, lv, rn⟩; have K4 := Lib.hid lv; have HRN := Lib.hid rn; clear lv rn; have c0q := K4.out.below; obtain ⟨c0, c1, c2, c3, c4, c5, c6⟩ := call_cells (HP42.out.new c0q); clear c0q))
  have A4 := Lib.hid (show Ap V4 m mv q4 (calC c) from ⟨HP42.out.new K4.out.below, fun s => absurd (K4.out.low q4 s) (Nat.not_le_of_lt HP42.out.lt)⟩)
  have A5 := Lib.hid (show Ap V4 m mv q5 (ansC an) from ⟨HP52.out.new K4.out.below, fun s => absurd (K4.out.low q5 s) (Nat.not_le_of_lt HP52.out.lt)⟩)
  obtain ⟨t1, t2⟩ := one_tab S c x an
  obtain ⟨is, his⟩ : ∃ b, (S.gives c x).isSome = b := ⟨_, rfl⟩
  obtain ⟨g, hg⟩ : ∃ b, gAns S c x = b := ⟨_, rfl⟩
  obtain ⟨has, hhas⟩ : ∃ b, (mlook S.L c.key).isSome = b := ⟨_, rfl⟩
  obtain ⟨y, hy⟩ : ∃ b, (mlook S.L c.key).getD Itm.none = b := ⟨_, rfl⟩
  obtain ⟨k1, hk1⟩ : ∃ b, (g.kind == 1) = b := ⟨_, rfl⟩
  obtain ⟨nr, hnr⟩ : ∃ b, decide (an = Ans.of 5) = b := ⟨_, rfl⟩
  obtain ⟨eq, heq⟩ : ∃ b, decide (an = g) = b := ⟨_, rfl⟩
  obtain ⟨r, hr⟩ : ∃ r, S.fits c x an = r := ⟨_, rfl⟩
  obtain ⟨ft, T⟩ := r
  rw [his, hg, hhas, hk1, hnr, heq, hr] at t1
  rw [his, hg, hhas, hk1, hnr, hr] at t2
  simp only at t1 t2
  have HIS := Lib.hid (And.intro his (And.intro hg (And.intro hhas hy)))
  have HF := Lib.hid hr
  have e1 : ∀ W, (binOp .eql 40 (.agg #[.int .u8 an.kind, .int .u64 an.num, .string an.item.k, .string an.item.v, .int .u32 an.item.fl, .int .u64 an.item.id, .int .i64 an.item.dies, .int .i64 an.item.gen]) (.agg #[.int .u8 5, .int .u64 0, .string ⟨#[]⟩, .string ⟨#[]⟩, .int .u32 0, .int .u64 0, .int .i64 0, .int .i64 0])).run Tryd.prog W = .ok (.bool nr) W := fun W => by
    have := an_eql an (Ans.of 5) W
    rw [hnr] at this
    exact this
  have e2 : ∀ W, (binOp .eql 40 (.agg #[.int .u8 an.kind, .int .u64 an.num, .string an.item.k, .string an.item.v, .int .u32 an.item.fl, .int .u64 an.item.id, .int .i64 an.item.dies, .int .i64 an.item.gen]) (.agg #[.int .u8 g.kind, .int .u64 g.num, .string g.item.k, .string g.item.v, .int .u32 g.item.fl, .int .u64 g.item.id, .int .i64 g.item.dies, .int .i64 g.item.gen])).run Tryd.prog W = .ok (.bool eq) W := fun W => by
    have := an_eql an g W
    rw [heq] at this
    exact this
  have hrng := HRN.out.range
  have HX := Lib.hid hrng
  clear his hg hhas hy hr hnr heq hrng
  rcases one_way is has k1 nr eq with rfl | ⟨rfl, rfl, rfl⟩ | ⟨rfl, rfl, rfl⟩ | ⟨rfl, rfl, rfl, rfl⟩ | ⟨rfl, rfl, rfl, rfl⟩ | ⟨rfl, rfl, rfl, rfl, rfl⟩ | ⟨rfl, rfl, rfl, rfl, rfl⟩ | ⟨rfl, rfl, rfl, rfl, rfl⟩ | ⟨rfl, rfl, rfl, rfl, rfl⟩
  all_goals
    (first
      | (have h0 : ft = true := by simpa using t1)
      | (have h0 : ft = false := by simpa using t1))
    subst h0
    (first
      | (obtain ⟨z1, z2⟩ := t2 rfl; have z3 : (T.L.length : Int) = S.L.length := (by rw [z1]); clear z1)
      | (have z2 := trivial; have z3 := trivial))
    clear t1 t2
    (refine (Givesw (c := c) (x := x) K4.out.mp K4.out.ok HC.out HX.out (K4.out.tab HT2.out)).mono ?_; rintro e V5 ⟨rfl, b5⟩; rw [HIS.out.1, HIS.out.2.1]; have K5 := Lib.hid (K4.out.new b5); have A45 := Lib.hid (A4.out.new b5); have A55 := Lib.hid (A5.out.new b5); clear b5 K4 A4 A5 c0 c1 c2 c3 c4 c5 c6)
    go_wp2_with (first
      | (have _ := K5; (with_reducible refine at_wq ?_); refine wpList_alloc_bk rfl 40 (ansC Ans.none) alloc_an rfl ?_; intro W6 q9 h9; have L5 := Lib.hid K5.out; clear K5)
      | ((with_reducible refine at_wq ?_); refine wpList_store_bk rfl 40 (.tmp 9) (.tmp 47) rfl q9 0 (ansC Ans.none) (ansC g) (ansC g) h9.bk (Nat.le_refl 8) rfl info_an (ansC_one _) rfl rfl ?_; intro W7 hs ks; have K7 := Lib.hid ((L5.out.new h9.below).st ks (L5.out.fresh h9) (h9.at L5.out.below)); have A47 := Lib.hid ((A45.out.new h9.below).st ks (by have e1 := A45.out.bk.lt; have e2 := h9.eq; omega)); have A57 := Lib.hid ((A55.out.new h9.below).st ks (by have e1 := A55.out.bk.lt; have e2 := h9.eq; omega)); have A97 := Lib.hid (show Ap _ _ _ q9 (ansC g) from ⟨hs, L5.out.fresh h9⟩); clear hs ks h9 L5 A45 A55; have c1 := A47.out.bk.at_ 1 _ rfl)
      | (go_at_call 20; refine (Atw K7.out.mp c.key HC.out.key).mono ?_; rintro e V8 ⟨rfl, b8⟩; unfold atV; rw [HIS.out.2.2.1, HIS.out.2.2.2]; have K8 := Lib.hid (K7.out.new b8); have A48 := Lib.hid (A47.out.new b8); have A58 := Lib.hid (A57.out.new b8); have A98 := Lib.hid (A97.out.new b8); clear b8 K7 A47 A57 A97 c1)
      | (have _ := K8; (with_reducible refine at_wq ?_); refine wpList_alloc_bk rfl 38 (itC Itm.none) alloc_it rfl ?_; intro W9 q11 h11; have L8 := Lib.hid K8.out; clear K8)
      | ((with_reducible refine at_wq ?_); refine wpList_store_bk rfl 38 (.tmp 11) (.tmp 54) rfl q11 0 (itC Itm.none) (itC y) (itC y) h11.bk (Nat.le_refl 6) rfl info_it (itC_one _) rfl rfl ?_; intro W10 hs ks; have K10 := Lib.hid ((L8.out.new h11.below).st ks (L8.out.fresh h11) (h11.at L8.out.below)); have A410 := Lib.hid ((A48.out.new h11.below).st ks (by have e1 := A48.out.bk.lt; have e2 := h11.eq; omega)); have A510 := Lib.hid ((A58.out.new h11.below).st ks (by have e1 := A58.out.bk.lt; have e2 := h11.eq; omega)); have A910 := Lib.hid ((A98.out.new h11.below).st ks (by have e1 := A98.out.bk.lt; have e2 := h11.eq; omega)); clear hs ks h11 L8 A48 A58 A98)
      | (have _ := K10; go_at_call 22; refine (Countw K10.out.mp).mono ?_; rintro e WC ⟨rfl, rfl⟩)
      | (have _ := K10; go_at_call 24; refine (Idsw K10.out.mp).mono ?_; rintro e WI ⟨rfl, rfl⟩; obtain ⟨c0, c1, c2, c3, c4, c5, c6⟩ := call_cells A410.out.bk; obtain ⟨a0, a1, a2, a3, a4, a5, a6, a7⟩ := an_cells A510.out.bk)
      | (go_at_call 17; refine (K10.out.fits (d := ⟨0, c, 0, 0, an, x, 0⟩) HC.out HX.out HT2.out (by omega)).mono ?_; rintro e V11 ⟨rfl, mv2, l, ap⟩; simp only at l ⊢; rw [HF.out] at l ⊢; have K11 := Lib.hid l; have A511 := Lib.hid (ap _ _ A510.out); have A911 := Lib.hid (ap _ _ A910.out); clear l ap K10 A410 A510 A910 c0 c1 c2 c3 c4 c5 c6 a0 a1 a2 a3 a4 a5 a6 a7; obtain ⟨a0, a1, a2, a3, a4, a5, a6, a7⟩ := an_cells A511.out.bk; obtain ⟨g0, g1, g2, g3, g4, g5, g6, g7⟩ := an_cells A911.out.bk)
      | (have _ := K11; go_at_call 22; refine (Countw K11.out.mp).mono ?_; rintro e WC ⟨rfl, rfl⟩)
      | (have _ := K11; go_at_call 24; refine (Idsw K11.out.mp).mono ?_; rintro e WI ⟨rfl, rfl⟩)
      | (go_at_call 10; refine (lives36 _ (K11.out.tab HT2.out)).mono ?_; rintro e WL ⟨rfl, bl⟩))
    go_ret
    exact ⟨rfl, fr_new HV2.out (fr_new K11.out.below bl)⟩
end
theorem walk_MapsOne (a0 : Option Addr) (l0 c0 : Nat) (a1_0 : Int) (a1_1 : ByteArray) (a1_2 : ByteArray) (a1_3 : Int) (a1_4 : Int) (a1_5 : Int) (a1_6 : Int) (a2_0 : Int) (a2_1 : Int) (a2_2 : ByteArray) (a2_3 : ByteArray) (a2_4 : Int) (a2_5 : Int) (a2_6 : Int) (a2_7 : Int) (w : World) (w0 : Reads Tryd.prog w 61 (.slice a0 l0 c0)) (w1_0 : (Lit.int .u8 a1_0).wf = true) (w1_1 : a1_1.size ≤ maxLen) (w1_2 : a1_2.size ≤ maxLen) (w1_3 : (Lit.int .u32 a1_3).wf = true) (w1_4 : (Lit.int .i64 a1_4).wf = true) (w1_5 : (Lit.int .u64 a1_5).wf = true) (w1_6 : (Lit.int .u64 a1_6).wf = true) (w2_0 : (Lit.int .u8 a2_0).wf = true) (w2_1 : (Lit.int .u64 a2_1).wf = true) (w2_2 : a2_2.size ≤ maxLen) (w2_3 : a2_3.size ≤ maxLen) (w2_4 : (Lit.int .u32 a2_4).wf = true) (w2_5 : (Lit.int .u64 a2_5).wf = true) (w2_6 : (Lit.int .i64 a2_6).wf = true) (w2_7 : (Lit.int .i64 a2_7).wf = true) (htab : Lib.TabIs Tryd.prog w "internal/strconv.uint64pow10" .u64 Lib.pow10Tab) :
    Calls Tryd.prog 5 #[.slice a0 l0 c0, .agg #[.int .u8 a1_0, .string a1_1, .string a1_2, .int .u32 a1_3, .int .i64 a1_4, .int .u64 a1_5, .int .u64 a1_6], .agg #[.int .u8 a2_0, .int .u64 a2_1, .string a2_2, .string a2_3, .int .u32 a2_4, .int .u64 a2_5, .int .i64 a2_6, .int .i64 a2_7]] w fun e w' => e = .returned (.bool true) ∧ Below w.heap.size w w' := by
  obtain ⟨L, hl, hn, hcp, hR, hK⟩ := open_steps w0
  have b0 := bounds_u8 w1_0
  have b3 := bounds_u32 w1_3
  have b5 := bounds_u64 w1_5
  have hc : CalOk ⟨a1_0, a1_1, a1_2, a1_3, a1_4, a1_5, a1_6⟩ := ⟨by show 0 ≤ a1_0 ∧ a1_0 < 256; omega, w1_1, w1_2, by show 0 ≤ a1_3 ∧ a1_3 < 4294967296; omega, bounds_i64 w1_4, by show 0 ≤ a1_5 ∧ a1_5 < 18446744073709551616; omega, bounds_u64 w1_6⟩
  cases hb1 : longB L with
  | true => exact one_a (c := ⟨a1_0, a1_1, a1_2, a1_3, a1_4, a1_5, a1_6⟩) (an := ⟨a2_0, a2_1, ⟨a2_2, a2_3, a2_4, a2_5, a2_6, a2_7⟩⟩) hl hn hcp hR hK hc ⟨w2_2, w2_3⟩ htab hb1
  | false =>
    cases hb2 : longB [⟨⟨a1_0, a1_1, a1_2, a1_3, a1_4, a1_5, a1_6⟩, 0⟩] with
    | true => exact one_b (c := ⟨a1_0, a1_1, a1_2, a1_3, a1_4, a1_5, a1_6⟩) (an := ⟨a2_0, a2_1, ⟨a2_2, a2_3, a2_4, a2_5, a2_6, a2_7⟩⟩) hl hn hcp hR hK hc ⟨w2_2, w2_3⟩ htab hb1 hb2
    | false =>
      by_cases hs : 9000 < wrap64 ((a2_2.size : Int) + (a2_3.size : Int))
      · exact one_c (c := ⟨a1_0, a1_1, a1_2, a1_3, a1_4, a1_5, a1_6⟩) (an := ⟨a2_0, a2_1, ⟨a2_2, a2_3, a2_4, a2_5, a2_6, a2_7⟩⟩) hl hn hcp hR hK hc ⟨w2_2, w2_3⟩ htab hb1 hb2 hs
      · exact one_main (c := ⟨a1_0, a1_1, a1_2, a1_3, a1_4, a1_5, a1_6⟩) (an := ⟨a2_0, a2_1, ⟨a2_2, a2_3, a2_4, a2_5, a2_6, a2_7⟩⟩) hl hn hcp hR hK hc ⟨w2_2, w2_3⟩ htab hb1 hb2 hs
end Go.Proofs.YtmjklkcjinfmaaaDoor
