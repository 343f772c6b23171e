/- Maps: one call, what is ahead of it. -/
import Derived.Test.YtmjklkcjinfmaaaDoorMaP
import Derived.Test.YtmjklkcjinfmaaaDoorMaO
namespace Go.Proofs.YtmjklkcjinfmaaaDoor
open Go.RowKit Go.Maps
set_option linter.unusedVariables false
theorem at_wq {P : Program} {ops : Array Oper} {rest : List Oper} {d : Option Tmp} {o : Op} {ty : TypeId} {ps : String} {af : Array Edge} {a : Act} {w : World} {Q : Exit → Act → World → Prop} (h : wpList P ops Q (⟨d, o, ty, ps, af, none⟩ :: rest) a w) : wpList P ops Q (⟨d, o, ty, ps, af, none⟩ :: rest) a w := h
theorem fits_len (S : Mst) (c : Cal) (x : Int) (a : Ans) : (S.fits c x a).2.L.length ≤ S.L.length + 1 := by
  unfold Mst.fits
  cases e : S.gives c x with
  | none => exact Nat.le_succ _
  | some g =>
    have h := does_len S c x
    unfold Mst.does at h
    rw [e] at h
    simp only
    split
    · exact h
    · split <;> exact Nat.le_succ _
/-- A look whether an answer fits. -/
theorem Lv.fits {w W : World} {m : Nat} {mv : Option Nat} {S : Mst} {n : Nat} {d : Cld} (h : Lv w W m mv S n) (hc : CalOk d.c) (hx : 0 ≤ d.e ∧ d.e < 18446744073709551616) (htab : Lib.TabIs Tryd.prog w "internal/strconv.uint64pow10" .u64 Lib.pow10Tab) (hn : n < 1000000) :
    Calls Tryd.prog 17 #[.pointer (some ⟨m, 0, none⟩), .agg (cldC d).toArray] W fun e W' => e = .returned (.bool (S.fits d.c d.e d.a).1) ∧ ∃ mv', Lv w W' m mv' (S.fits d.c d.e d.a).2 (n + 1) ∧ (∀ q C, Ap W m mv q C → Ap W' m mv' q C) := by
  have hl := h.len
  refine (Fitsw h.mp h.ok hc hx (h.tab htab) (by unfold maxLen; omega)).mono ?_
  rintro e W' ⟨rfl, mv', h1, h2, h3⟩
  exact ⟨rfl, mv', h.turn (h.ok.fits _ hc hx) (Nat.le_trans (fits_len S d.c d.e d.a) (by omega)) h1 h2 h3, fun q C ha => ha.to h2 h3⟩
/-- What one call has: whether it gives, whether there is a record, and so on. -/
theorem one_tab (S : Mst) (c : Cal) (x : Int) (a : Ans) : (S.fits c x a).1 = ((S.gives c x).isSome && decide (a = gAns S c x) || ((S.gives c x).isSome && !(mlook S.L c.key).isSome && (gAns S c x).kind == 1 && decide (a = Ans.of 5))) ∧
    (((!(S.fits c x a).1) || ((S.gives c x).isSome && !(mlook S.L c.key).isSome && (gAns S c x).kind == 1 && decide (a = Ans.of 5))) = true → (S.fits c x a).2.L.length = S.L.length ∧ (S.fits c x a).2.i = S.i) := by
  unfold Mst.fits gAns
  cases e : S.gives c x with
  | none => simp
  | some G =>
    have hr := verb_refused (gives_verb e).2.2
    simp only [Option.isSome_some, Bool.true_and]
    have hk : ((!(mlook S.L c.key).isSome && G.a.kind == 1) = G.refused) := by
      rw [hr]
      cases mlook S.L c.key <;> simp
      by_cases h : G.a.kind = 1 <;> simp [h]
    rw [hk]
    by_cases h1 : a = G.a
    · rw [if_pos h1]
      refine ⟨by simp [h1], fun h => ?_⟩
      exfalso
      simp only [Bool.not_true, Bool.false_or, Bool.and_eq_true, decide_eq_true_eq] at h
      obtain ⟨h2, h3⟩ := h
      rw [hr] at h2
      simp only [Bool.and_eq_true, decide_eq_true_eq] at h2
      rw [← h1, h3] at h2
      exact absurd h2.2 (by decide)
    · rw [if_neg h1]
      by_cases h2 : G.refused = true ∧ a = Ans.of 5
      · rw [if_pos h2]
        exact ⟨by simp [h2.1, h2.2], fun _ => ⟨rfl, rfl⟩⟩
      · rw [if_neg h2]
        refine ⟨?_, fun _ => ⟨rfl, rfl⟩⟩
        cases hG : G.refused with
        | false => simp [h1]
        | true =>
          rw [hG] at h2
          have : ¬ a = Ans.of 5 := fun h => h2 ⟨rfl, h⟩
          simp [h1, this]
theorem rd_one (V : World) (c : Cal) (T : TypeId) : RdS (V.alloc (.cells #[.int .u8 c.verb, .string c.key, .string c.val, .int .u32 c.fl, .int .i64 c.exp, .int .u64 c.id, .int .u64 c.by_, .int .u8 0] T)) (some ⟨V.heap.size, 0, none⟩) [⟨c, 0⟩] :=
  .inr ⟨_, _, rfl, by simp, fun i x hi j v hj => by
    have hb := bk_new (W := V) (C := #[.int .u8 c.verb, .string c.key, .string c.val, .int .u32 c.fl, .int .i64 c.exp, .int .u64 c.id, .int .u64 c.by_, .int .u8 0]) (T := T) rfl
    match i, hi with
    | 0, hi =>
      simp at hi
      subst hi
      have := hb.at_ j v hj
      simpa using this
    | i + 1, hi => simp at hi⟩
section
variable {a : Option Addr} {n cp : Nat} {L : List Stp} {c : Cal} {an : Ans} {w : World}
set_option maxHeartbeats 8000000 in
set_option maxRecDepth 100000 in
theorem one_a (hl : L.length = n) (hn : n ≤ cp) (hcp : cp ≤ maxLen) (hR : RdS w a L) (hK : ∀ x ∈ L, StpOk x) (hc : CalOk c) (hi : an.item.k.size ≤ maxLen ∧ an.item.v.size ≤ maxLen) (htab : Lib.TabIs Tryd.prog w "internal/strconv.uint64pow10" .u64 Lib.pow10Tab) (hb1 : longB L = true) : Calls Tryd.prog 5 #[.slice a n cp, .agg (calC c).toArray, .agg (ansC an).toArray] w fun e w' => e = .returned (.bool true) ∧ Below w.heap.size w w' := by
  have HT := Lib.hid htab
  have HR := Lib.hid hR
  have HK := Lib.hid hK
  have HC := Lib.hid hc
  have HL := Lib.hid hl
  have HN := Lib.hid hn
  have HCP := Lib.hid hcp
  have i1 := hi.1
  have i2 := hi.2
  unfold maxLen at hcp i1 i2
  have HL1 : Hid (∀ W, Below w.heap.size w W → Calls Tryd.prog 25 #[.slice a n cp] W (LgP W L)) := Lib.hid fun W hb => longw a n cp L W HL.out HN.out HCP.out (HR.out.below hb (Nat.le_refl _)) HK.out
  have HB1 := Lib.hid hb1
  obtain ⟨b2, hb2⟩ : ∃ b, longB [⟨c, 0⟩] = b := ⟨_, rfl⟩
  have HB2 := Lib.hid hb2
  have HO : Hid (∀ x ∈ [(⟨c, 0⟩ : Stp)], StpOk x) := Lib.hid fun x hx => by simp at hx; subst hx; exact ⟨HC.out, by show (0 : Int) ≤ 0; decide, by show (0 : Int) ≤ 255; decide⟩
  clear hR hK hc hi htab hb1 hb2 hl
  go_enter Tryd.func5, Tryd.ntmps5
  go_wp2_with (first
    | ((with_reducible refine at_wq ?_); refine wpList_box_bk rfl 35 (.tmp 1) rfl (calC c) rfl ?_; intro U1 q4 u1)
    | ((with_reducible refine at_wq ?_); refine wpList_box_bk rfl 40 (.tmp 2) rfl (ansC an) rfl ?_; intro U2 q5 u2; have HU := Lib.hid (fr_new u1.below u2.below); have HQ4 := Lib.hid (u1.bk.new u2.below); have HQ5 := Lib.hid u2.bk; clear u1 u2)
    | (go_at_call 25; (with_reducible refine (HL1.out _ HU.out).mono ?_); rintro e V1 ⟨rfl, f1⟩; have F1 := Lib.hid f1; have HW1 := Lib.hid (fr_new HU.out f1); have HP4 := Lib.hid (HQ4.out.new f1); have HP5 := Lib.hid (HQ5.out.new f1); clear f1 HQ4 HQ5; rw [HB1.out])
    | (go_at_call 10; refine (lives36 _ (tab_below HT.out HW1.out)).mono ?_; rintro e WL ⟨rfl, bl⟩))
  go_ret
  exact ⟨rfl, fr_new HW1.out bl⟩
set_option maxHeartbeats 8000000 in
set_option maxRecDepth 100000 in
theorem one_b (hl : L.length = n) (hn : n ≤ cp) (hcp : cp ≤ maxLen) (hR : RdS w a L) (hK : ∀ x ∈ L, StpOk x) (hc : CalOk c) (hi : an.item.k.size ≤ maxLen ∧ an.item.v.size ≤ maxLen) (htab : Lib.TabIs Tryd.prog w "internal/strconv.uint64pow10" .u64 Lib.pow10Tab) (hb1 : longB L = false) (hb2 : longB [⟨c, 0⟩] = true) : Calls Tryd.prog 5 #[.slice a n cp, .agg (calC c).toArray, .agg (ansC an).toArray] w fun e w' => e = .returned (.bool true) ∧ Below w.heap.size w w' := by
  have HT := Lib.hid htab
  have HR := Lib.hid hR
  have HK := Lib.hid hK
  have HC := Lib.hid hc
  have HL := Lib.hid hl
  have HN := Lib.hid hn
  have HCP := Lib.hid hcp
  have i1 := hi.1
  have i2 := hi.2
  unfold maxLen at hcp i1 i2
  have HL1 : Hid (∀ W, Below w.heap.size w W → Calls Tryd.prog 25 #[.slice a n cp] W (LgP W L)) := Lib.hid fun W hb => longw a n cp L W HL.out HN.out HCP.out (HR.out.below hb (Nat.le_refl _)) HK.out
  have HB1 := Lib.hid hb1
  have HB2 := Lib.hid hb2
  have HO : Hid (∀ x ∈ [(⟨c, 0⟩ : Stp)], StpOk x) := Lib.hid fun x hx => by simp at hx; subst hx; exact ⟨HC.out, by show (0 : Int) ≤ 0; decide, by show (0 : Int) ≤ 255; decide⟩
  clear hR hK hc hi htab hb1 hb2 hl
  go_enter Tryd.func5, Tryd.ntmps5
  go_wp2_with (first
    | ((with_reducible refine at_wq ?_); refine wpList_box_bk rfl 35 (.tmp 1) rfl (calC c) rfl ?_; intro U1 q4 u1)
    | ((with_reducible refine at_wq ?_); refine wpList_box_bk rfl 40 (.tmp 2) rfl (ansC an) rfl ?_; intro U2 q5 u2; have HU := Lib.hid (fr_new u1.below u2.below); have HQ4 := Lib.hid (u1.bk.new u2.below); have HQ5 := Lib.hid u2.bk; clear u1 u2)
    | (go_at_call 25; (with_reducible refine (HL1.out _ HU.out).mono ?_); rintro e V1 ⟨rfl, f1⟩; have F1 := Lib.hid f1; have HW1 := Lib.hid (fr_new HU.out f1); have HP4 := Lib.hid (HQ4.out.new f1); have HP5 := Lib.hid (HQ5.out.new f1); clear f1 HQ4 HQ5; rw [HB1.out]; obtain ⟨c0, c1, c2, c3, c4, c5, c6⟩ := call_cells HP4.out; obtain ⟨a0, a1, a2, a3, a4, a5, a6, a7⟩ := an_cells HP5.out)
    | (go_at_call 25; refine (longw (some ⟨V1.heap.size, 0, none⟩) 1 1 [⟨c, 0⟩] _ rfl (Nat.le_refl _) (by decide) (rd_one _ _ _) HO.out).mono ?_; rintro e V2 ⟨rfl, f2⟩; have HV2 := Lib.hid (fr_new HW1.out (((Below.refl _ _).alloc (Nat.le_refl _) _).trans (f2.mono (by simp)))); have HF2 := Lib.hid (((Below.refl _ _).alloc (Nat.le_refl _) _).trans (f2.mono (by simp)) : Below V1.heap.size V1 V2); clear f2; rw [HB2.out])
    | (go_at_call 10; refine (lives36 _ (tab_below HT.out HV2.out)).mono ?_; rintro e WL ⟨rfl, bl⟩))
  go_ret
  exact ⟨rfl, fr_new HV2.out bl⟩
set_option maxHeartbeats 8000000 in
set_option maxRecDepth 100000 in
theorem one_c (hl : L.length = n) (hn : n ≤ cp) (hcp : cp ≤ maxLen) (hR : RdS w a L) (hK : ∀ x ∈ L, StpOk x) (hc : CalOk c) (hi : an.item.k.size ≤ maxLen ∧ an.item.v.size ≤ maxLen) (htab : Lib.TabIs Tryd.prog w "internal/strconv.uint64pow10" .u64 Lib.pow10Tab) (hb1 : longB L = false) (hb2 : longB [⟨c, 0⟩] = false) (hs : 9000 < wrap64 ((an.item.k.size : Int) + (an.item.v.size : Int))) : Calls Tryd.prog 5 #[.slice a n cp, .agg (calC c).toArray, .agg (ansC an).toArray] w fun e w' => e = .returned (.bool true) ∧ Below w.heap.size w w' := by
  have HT := Lib.hid htab
  have HR := Lib.hid hR
  have HK := Lib.hid hK
  have HC := Lib.hid hc
  have HL := Lib.hid hl
  have HN := Lib.hid hn
  have HCP := Lib.hid hcp
  have i1 := hi.1
  have i2 := hi.2
  unfold maxLen at hcp i1 i2
  have HL1 : Hid (∀ W, Below w.heap.size w W → Calls Tryd.prog 25 #[.slice a n cp] W (LgP W L)) := Lib.hid fun W hb => longw a n cp L W HL.out HN.out HCP.out (HR.out.below hb (Nat.le_refl _)) HK.out
  have HB1 := Lib.hid hb1
  have HB2 := Lib.hid hb2
  have HO : Hid (∀ x ∈ [(⟨c, 0⟩ : Stp)], StpOk x) := Lib.hid fun x hx => by simp at hx; subst hx; exact ⟨HC.out, by show (0 : Int) ≤ 0; decide, by show (0 : Int) ≤ 255; decide⟩
  have hs2 : decide (9000 < wrap64 ((an.item.k.size : Int) + (an.item.v.size : Int))) = true := decide_eq_true hs
  clear hR hK hc hi htab hb1 hb2 hl hs
  go_enter Tryd.func5, Tryd.ntmps5
  go_wp2_with (first
    | ((with_reducible refine at_wq ?_); refine wpList_box_bk rfl 35 (.tmp 1) rfl (calC c) rfl ?_; intro U1 q4 u1)
    | ((with_reducible refine at_wq ?_); refine wpList_box_bk rfl 40 (.tmp 2) rfl (ansC an) rfl ?_; intro U2 q5 u2; have HU := Lib.hid (fr_new u1.below u2.below); have HQ4 := Lib.hid (u1.bk.new u2.below); have HQ5 := Lib.hid u2.bk; clear u1 u2)
    | (go_at_call 25; (with_reducible refine (HL1.out _ HU.out).mono ?_); rintro e V1 ⟨rfl, f1⟩; have F1 := Lib.hid f1; have HW1 := Lib.hid (fr_new HU.out f1); have HP4 := Lib.hid (HQ4.out.new f1); have HP5 := Lib.hid (HQ5.out.new f1); clear f1 HQ4 HQ5; rw [HB1.out]; obtain ⟨c0, c1, c2, c3, c4, c5, c6⟩ := call_cells HP4.out; obtain ⟨a0, a1, a2, a3, a4, a5, a6, a7⟩ := an_cells HP5.out)
    | (go_at_call 25; refine (longw (some ⟨V1.heap.size, 0, none⟩) 1 1 [⟨c, 0⟩] _ rfl (Nat.le_refl _) (by decide) (rd_one _ _ _) HO.out).mono ?_; rintro e V2 ⟨rfl, f2⟩; have HV2 := Lib.hid (fr_new HW1.out (((Below.refl _ _).alloc (Nat.le_refl _) _).trans (f2.mono (by simp)))); have HF2 := Lib.hid (((Below.refl _ _).alloc (Nat.le_refl _) _).trans (f2.mono (by simp)) : Below V1.heap.size V1 V2); clear f2; rw [HB2.out]; have HP42 := Lib.hid (HP4.out.new HF2.out); have HP52 := Lib.hid (HP5.out.new HF2.out); clear c0 c1 c2 c3 c4 c5 c6 a0 a1 a2 a3 a4 a5 a6 a7; obtain ⟨c0, c1, c2, c3, c4, c5, c6⟩ := call_cells HP42.out; obtain ⟨a0, a1, a2, a3, a4, a5, a6, a7⟩ := an_cells HP52.out)
    | (go_at_call 10; refine (lives36 _ (tab_below HT.out HV2.out)).mono ?_; rintro e WL ⟨rfl, bl⟩))
  go_ret
  exact ⟨rfl, fr_new HV2.out bl⟩
end
end Go.Proofs.YtmjklkcjinfmaaaDoor
