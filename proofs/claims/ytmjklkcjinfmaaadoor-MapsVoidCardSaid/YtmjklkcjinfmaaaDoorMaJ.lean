/- Maps: a Map as a law goes on with it; the chapter's examples. -/
import Derived.Test.YtmjklkcjinfmaaaDoorMaI
namespace Go.Proofs.YtmjklkcjinfmaaaDoor
open Go.RowKit Go.Maps
set_option linter.unusedVariables false
theorem does_len (S : Mst) (c : Cal) (x : Int) : (S.does c x).2.L.length ≤ S.L.length + 1 := by
  unfold Mst.does
  cases e : S.gives c x with
  | none => exact Nat.le_succ _
  | some g =>
    obtain ⟨_, _, h⟩ := gives_verb e
    exact verb_elim (P := fun g => g.S.L.length ≤ S.L.length + 1) h (fun _ _ _ _ => Nat.le_succ _) (put_len_le _ _) (fun _ _ => Nat.le_succ _) (fun _ _ => Nat.le_trans (wo_len_le _ _) (Nat.le_succ _)) (fun _ _ => put_len_le _ _) (fun _ _ _ => put_len_le _ _) (fun _ _ => Nat.le_succ _)
theorem does_ok {S : Mst} (h : MOk S) {c : Cal} {x : Int} (hc : CalOk c) (hx : 0 ≤ x ∧ x < 18446744073709551616) : MOk (S.does c x).2 := by
  unfold Mst.does
  cases e : S.gives c x with
  | none => exact h
  | some g => exact h.gives hc hx e
/-- A Map in a law: all its blocks are new since w. -/
structure Lv (w W : World) (m : Nat) (mv : Option Nat) (S : Mst) (n : Nat) : Prop where
  mp : Mp W m mv S
  ok : MOk S
  low : ∀ k, MpB m mv k → w.heap.size ≤ k
  below : Below w.heap.size w W
  len : S.L.length ≤ n
/-- A block apart from the Map's. -/
structure Ap (W : World) (m : Nat) (mv : Option Nat) (q : Nat) (C : List Value) : Prop where
  bk : Bk W q C
  ne : ¬ MpB m mv q
section
variable {w W W' : World} {m : Nat} {mv mv' : Option Nat} {S T : Mst} {n : Nat} {q : Nat} {C C' : List Value}
theorem Ap.to (h : Ap W m mv q C) (hk : Keeps (MpB m mv) W W') (hn : mv' = mv ∨ ∃ b, mv' = some b ∧ W.heap.size ≤ b) : Ap W' m mv' q C := by
  refine ⟨h.bk.keep hk h.ne, fun s => ?_⟩
  rcases s with s | s
  · exact h.ne (.inl s)
  · rcases hn with e | ⟨b, e, hb⟩
    · rw [e] at s; exact h.ne (.inr s)
    · rw [e] at s
      injection s with s
      have := h.bk.lt
      omega
theorem Ap.new (h : Ap W m mv q C) (hb : Below W.heap.size W W') : Ap W' m mv q C := ⟨h.bk.new hb, h.ne⟩
theorem Ap.st {q' : Nat} (h : Ap W m mv q C) (hk : Keeps (fun k => k = q') W W') (hq : q ≠ q') : Ap W' m mv q C := ⟨h.bk.keep hk hq, h.ne⟩
theorem Lv.new (h : Lv w W m mv S n) (hb : Below W.heap.size W W') : Lv w W' m mv S n := ⟨h.mp.new hb, h.ok, h.low, fr_new h.below hb, h.len⟩
theorem Lv.fresh (h : Lv w W m mv S n) {g : Nat} (hg : Nb W W' g C) : ¬ MpB m mv g := fun s => by
  have e1 := h.mp.lts g s
  have e2 := hg.eq
  omega
theorem Lv.st (h : Lv w W m mv S n) (hk : Keeps (fun k => k = q) W W') (hq : ¬ MpB m mv q) (hl : w.heap.size ≤ q) : Lv w W' m mv S n :=
  ⟨h.mp.keep hk (fun k hk e => hq (e ▸ hk)), h.ok, h.low, fr_set h.below hk hl, h.len⟩
theorem Lv.tab (h : Lv w W m mv S n) (htab : Lib.TabIs Tryd.prog w "internal/strconv.uint64pow10" .u64 Lib.pow10Tab) : Lib.TabIs Tryd.prog W "internal/strconv.uint64pow10" .u64 Lib.pow10Tab := tab_below htab h.below
theorem Lv.turn (h : Lv w W m mv S n) (hT : MOk T) {k : Nat} (hl : T.L.length ≤ k) (h1 : Mp W' m mv' T) (h2 : Keeps (MpB m mv) W W') (h3 : mv' = mv ∨ ∃ b, mv' = some b ∧ W.heap.size ≤ b) : Lv w W' m mv' T k := by
  have hb := h.below.trans (h2.to_below (fun k _ s => h.low k s) h.below.size)
  refine ⟨h1, hT, fun k s => ?_, hb, hl⟩
  rcases s with s | s
  · exact h.low k (.inl s)
  · rcases h3 with e | ⟨b, e, hb⟩
    · rw [e] at s; exact h.low k (.inr s)
    · rw [e] at s
      injection s with s
      have := h.below.size
      omega
/-- A call, done. -/
theorem Lv.does {c : Cal} {x : Int} (h : Lv w W m mv S n) (hc : CalOk c) (hx : 0 ≤ x ∧ x < 18446744073709551616) (htab : Lib.TabIs Tryd.prog w "internal/strconv.uint64pow10" .u64 Lib.pow10Tab) (hn : n < 1000000) :
    Calls Tryd.prog 28 #[.pointer (some ⟨m, 0, none⟩), .agg (calC c).toArray, .int .u64 x] W fun e W' => e = .returned (.agg (ansC (S.does c x).1).toArray) ∧ ∃ mv', Lv w W' m mv' (S.does c x).2 (n + 1) ∧ (∀ q C, Ap W m mv q C → Ap W' m mv' q C) := by
  have hl := h.len
  refine (doesw h.mp h.ok hc hx (h.tab htab) (by unfold maxLen; omega)).mono ?_
  rintro e W' ⟨rfl, mv', h1, h2, h3⟩
  exact ⟨rfl, mv', h.turn (does_ok h.ok hc hx) (Nat.le_trans (does_len S c x) (by omega)) h1 h2 h3, fun q C ha => ha.to h2 h3⟩
theorem Lv.start (w : World) : Calls Tryd.prog 11 #[] w fun e W => ∃ m, e = .returned (.pointer (some ⟨m, 0, none⟩)) ∧ Lv w W m none Mst.new 0 := by
  refine (Neww w).mono ?_
  rintro e W ⟨rfl, h1, h2, h3⟩
  refine ⟨w.heap.size, rfl, h1, MOk.new, fun k s => ?_, h2, Nat.le_refl _⟩
  rcases s with s | s
  · rw [s]; exact Nat.le_refl _
  · cases s
end
def calN (v : Int) (k vl : ByteArray) : Cal := ⟨v, k, vl, 0, 0, 0, 0⟩
def sN : ByteArray := ⟨#[110]⟩
def s9 : ByteArray := ⟨#[57]⟩
def rec1 : Itm := ⟨sN, s9, 0, 1, -1, 0⟩
def rec2 : Itm := ⟨sN, textB 12, 0, 2, -1, 0⟩
theorem lv1 : Mst.new.does (calN 3 sN s9) 0 = (⟨1, 1, Itm.none⟩, ⟨[rec1], 0, 1⟩) := by kernel_rfl
theorem lv2 : (⟨[rec1], 0, 1⟩ : Mst).does (calN 1 sN ⟨#[]⟩) 5 = (⟨11, 0, rec1⟩, ⟨[rec1], 5, 1⟩) := by kernel_rfl
theorem lv3 : (⟨[rec1], 5, 1⟩ : Mst).does ⟨9, sN, ⟨#[]⟩, 0, 0, 0, 3⟩ 5 = (⟨8, 12, Itm.none⟩, ⟨[rec2], 5, 2⟩) := by kernel_rfl
theorem lv4 : (⟨[rec2], 5, 2⟩ : Mst).gives (calN 1 sN ⟨#[]⟩) 4 = none := by kernel_rfl
theorem lv5 : (⟨[rec2], 5, 2⟩ : Mst).does (calN 11 ⟨#[]⟩ ⟨#[]⟩) 5 = (Ans.of 10, ⟨[rec2], 281474976710661, 2⟩) := by kernel_rfl
theorem lv6 : (⟨[rec2], 281474976710661, 2⟩ : Mst).gives (calN 1 sN ⟨#[]⟩) 5 = none := by kernel_rfl
theorem lv7 : (⟨[rec2], 281474976710661, 2⟩ : Mst).does (calN 1 sN ⟨#[]⟩) 281474976710661 = (Ans.of 12, ⟨[rec2], 281474976710661, 2⟩) := by kernel_rfl
theorem calN_ok (v : Int) (hv : 0 ≤ v ∧ v < 256) (k vl : ByteArray) (hk : k.size ≤ maxLen) (hl : vl.size ≤ maxLen) : CalOk (calN v k vl) := ⟨hv, hk, hl, by show (0 : Int) ≤ 0 ∧ (0 : Int) < 4294967296; decide, by show (-9223372036854775808 : Int) ≤ 0 ∧ (0 : Int) ≤ 9223372036854775807; decide, by show (0 : Int) ≤ 0 ∧ (0 : Int) < 18446744073709551616; decide, by show (0 : Int) ≤ 0 ∧ (0 : Int) ≤ 18446744073709551615; decide⟩
theorem lv4g : gAns ⟨[rec2], 5, 2⟩ (calN 1 sN ⟨#[]⟩) 4 = Ans.none ∧ ((⟨[rec2], 5, 2⟩ : Mst).gives (calN 1 sN ⟨#[]⟩) 4).isSome = false := by unfold gAns; rw [lv4]; exact ⟨rfl, rfl⟩
theorem lv6g : gAns ⟨[rec2], 281474976710661, 2⟩ (calN 1 sN ⟨#[]⟩) 5 = Ans.none ∧ ((⟨[rec2], 281474976710661, 2⟩ : Mst).gives (calN 1 sN ⟨#[]⟩) 5).isSome = false := by unfold gAns; rw [lv6]; exact ⟨rfl, rfl⟩
theorem putf_ex : putf 5 0 1 = 281474976710661 := by decide
set_option maxHeartbeats 8000000 in
set_option maxRecDepth 100000 in
theorem lives36 (w : World) (htab : Lib.TabIs Tryd.prog w "internal/strconv.uint64pow10" .u64 Lib.pow10Tab) : Calls Tryd.prog 10 #[] w fun e w' => e = .returned (.bool true) ∧ Below w.heap.size w w' := by
  have HT := Lib.hid htab
  have okS : Hid (CalOk (calN 3 sN s9)) := Lib.hid (calN_ok 3 (by decide) _ _ (by decide) (by decide))
  have okG : Hid (CalOk (calN 1 sN ⟨#[]⟩)) := Lib.hid (calN_ok 1 (by decide) _ _ (by decide) (by decide))
  have okI : Hid (CalOk ⟨9, sN, ⟨#[]⟩, 0, 0, 0, 3⟩) := Lib.hid ⟨by decide, by decide, by decide, by decide, by decide, by decide, by decide⟩
  have okF : Hid (CalOk (calN 11 ⟨#[]⟩ ⟨#[]⟩)) := Lib.hid (calN_ok 11 (by decide) _ _ (by decide) (by decide))
  clear htab
  go_enter Tryd.func10, Tryd.ntmps10
  go_wp2_with (first
    | (go_at_call 11; refine (Lv.start _).mono ?_; rintro e W0 ⟨m, rfl, l0⟩; have K0 := Lib.hid l0; clear l0)
    | (go_at_call 28; refine (K0.out.does (c := calN 3 sN s9) (x := 0) okS.out (by decide) HT.out (by decide)).mono ?_; rintro e V0 ⟨rfl, mv0, l, ap⟩; rw [lv1] at l ⊢; have L0 := Lib.hid l; have AP0 := Lib.hid ap; clear l ap; clear K0 AP0)
    | (have _ := L0; (with_reducible refine at_wp ?_); refine wpList_alloc_bk rfl 40 (ansC Ans.none) alloc_an rfl ?_; intro A0 q2 hb2; have LL0 := Lib.hid L0.out; clear L0)
    | ((with_reducible refine at_wp ?_); refine wpList_store_bk rfl 40 (.tmp 2) (.tmp 15) rfl q2 0 (ansC Ans.none) (ansC (⟨1, 1, Itm.none⟩)) (ansC (⟨1, 1, Itm.none⟩)) hb2.bk (Nat.le_refl 8) rfl info_an (ansC_one _) rfl rfl ?_; intro B0 hs ks; have K1 := Lib.hid ((LL0.out.new hb2.below).st ks (LL0.out.fresh hb2) (hb2.at LL0.out.below)); have P2_1 := Lib.hid (show Ap _ _ _ q2 (ansC (⟨1, 1, Itm.none⟩)) from ⟨hs, LL0.out.fresh hb2⟩); clear hb2 LL0 hs ks)
    | (go_at_call 28; refine (K1.out.does (c := calN 1 sN ⟨#[]⟩) (x := 5) okG.out (by decide) HT.out (by decide)).mono ?_; rintro e V1 ⟨rfl, mv1, l, ap⟩; rw [lv2] at l ⊢; have L1 := Lib.hid l; have AP1 := Lib.hid ap; clear l ap; have p := AP1.out _ _ P2_1.out; clear P2_1; have P2_101 := Lib.hid p; clear p; clear K1 AP1)
    | (have _ := L1; (with_reducible refine at_wp ?_); refine wpList_alloc_bk rfl 40 (ansC Ans.none) alloc_an rfl ?_; intro A1 q3 hb3; have LL1 := Lib.hid L1.out; clear L1)
    | ((with_reducible refine at_wp ?_); refine wpList_store_bk rfl 40 (.tmp 3) (.tmp 18) rfl q3 0 (ansC Ans.none) (ansC (⟨11, 0, rec1⟩)) (ansC (⟨11, 0, rec1⟩)) hb3.bk (Nat.le_refl 8) rfl info_an (ansC_one _) rfl rfl ?_; intro B1 hs ks; have K2 := Lib.hid ((LL1.out.new hb3.below).st ks (LL1.out.fresh hb3) (hb3.at LL1.out.below)); have p := (P2_101.out.new hb3.below).st ks (by have e1 := P2_101.out.bk.lt; have e2 := hb3.eq; omega); clear P2_101; have P2_2 := Lib.hid p; clear p; have P3_2 := Lib.hid (show Ap _ _ _ q3 (ansC (⟨11, 0, rec1⟩)) from ⟨hs, LL1.out.fresh hb3⟩); clear hb3 LL1 hs ks)
    | (go_at_call 28; refine (K2.out.does (c := ⟨9, sN, ⟨#[]⟩, 0, 0, 0, 3⟩) (x := 5) okI.out (by decide) HT.out (by decide)).mono ?_; rintro e V2 ⟨rfl, mv2, l, ap⟩; rw [lv3] at l ⊢; have L2 := Lib.hid l; have AP2 := Lib.hid ap; clear l ap; have p := AP2.out _ _ P2_2.out; clear P2_2; have P2_102 := Lib.hid p; clear p; have p := AP2.out _ _ P3_2.out; clear P3_2; have P3_102 := Lib.hid p; clear p; clear K2 AP2)
    | (have _ := L2; (with_reducible refine at_wp ?_); refine wpList_alloc_bk rfl 40 (ansC Ans.none) alloc_an rfl ?_; intro A2 q4 hb4; have LL2 := Lib.hid L2.out; clear L2)
    | ((with_reducible refine at_wp ?_); refine wpList_store_bk rfl 40 (.tmp 4) (.tmp 21) rfl q4 0 (ansC Ans.none) (ansC (⟨8, 12, Itm.none⟩)) (ansC (⟨8, 12, Itm.none⟩)) hb4.bk (Nat.le_refl 8) rfl info_an (ansC_one _) rfl rfl ?_; intro B2 hs ks; have K3 := Lib.hid ((LL2.out.new hb4.below).st ks (LL2.out.fresh hb4) (hb4.at LL2.out.below)); have p := (P2_102.out.new hb4.below).st ks (by have e1 := P2_102.out.bk.lt; have e2 := hb4.eq; omega); clear P2_102; have P2_3 := Lib.hid p; clear p; have p := (P3_102.out.new hb4.below).st ks (by have e1 := P3_102.out.bk.lt; have e2 := hb4.eq; omega); clear P3_102; have P3_3 := Lib.hid p; clear p; have P4_3 := Lib.hid (show Ap _ _ _ q4 (ansC (⟨8, 12, Itm.none⟩)) from ⟨hs, LL2.out.fresh hb4⟩); clear hb4 LL2 hs ks)
    | (go_at_call 24; refine (Idsw K3.out.mp).mono ?_; rintro e WI ⟨rfl, rfl⟩)
    | (go_at_call 12; refine (Givesw (c := calN 1 sN ⟨#[]⟩) (x := 4) K3.out.mp K3.out.ok okG.out (by decide) (K3.out.tab HT.out)).mono ?_; rintro e V3 ⟨rfl, b⟩; rw [lv4g.1, lv4g.2]; have L3 := Lib.hid (K3.out.new b); have p := P2_3.out.new b; clear P2_3; have P2_103 := Lib.hid p; clear p; have p := P3_3.out.new b; clear P3_3; have P3_103 := Lib.hid p; clear p; have p := P4_3.out.new b; clear P4_3; have P4_103 := Lib.hid p; clear p; clear K3 b)
    | (have _ := L3; (with_reducible refine at_wp ?_); refine wpList_alloc_bk rfl 40 (ansC Ans.none) alloc_an rfl ?_; intro A3 q6 hb6; have LL3 := Lib.hid L3.out; clear L3)
    | ((with_reducible refine at_wp ?_); refine wpList_store_bk rfl 40 (.tmp 6) (.tmp 28) rfl q6 0 (ansC Ans.none) (ansC (Ans.none)) (ansC (Ans.none)) hb6.bk (Nat.le_refl 8) rfl info_an (ansC_one _) rfl rfl ?_; intro B3 hs ks; have K4 := Lib.hid ((LL3.out.new hb6.below).st ks (LL3.out.fresh hb6) (hb6.at LL3.out.below)); have p := (P2_103.out.new hb6.below).st ks (by have e1 := P2_103.out.bk.lt; have e2 := hb6.eq; omega); clear P2_103; have P2_4 := Lib.hid p; clear p; have p := (P3_103.out.new hb6.below).st ks (by have e1 := P3_103.out.bk.lt; have e2 := hb6.eq; omega); clear P3_103; have P3_4 := Lib.hid p; clear p; have p := (P4_103.out.new hb6.below).st ks (by have e1 := P4_103.out.bk.lt; have e2 := hb6.eq; omega); clear P4_103; have P4_4 := Lib.hid p; clear p; clear hb6 LL3 hs ks)
    | (go_at_call 28; refine (K4.out.does (c := calN 11 ⟨#[]⟩ ⟨#[]⟩) (x := 5) okF.out (by decide) HT.out (by decide)).mono ?_; rintro e V4 ⟨rfl, mv4, l, ap⟩; rw [lv5] at l ⊢; have L4 := Lib.hid l; have AP4 := Lib.hid ap; clear l ap; have p := AP4.out _ _ P2_4.out; clear P2_4; have P2_104 := Lib.hid p; clear p; have p := AP4.out _ _ P3_4.out; clear P3_4; have P3_104 := Lib.hid p; clear p; have p := AP4.out _ _ P4_4.out; clear P4_4; have P4_104 := Lib.hid p; clear p; clear K4 AP4)
    | (have _ := L4; (with_reducible refine at_wp ?_); refine wpList_alloc_bk rfl 40 (ansC Ans.none) alloc_an rfl ?_; intro A4 q8 hb8; have LL4 := Lib.hid L4.out; clear L4)
    | ((with_reducible refine at_wp ?_); refine wpList_store_bk rfl 40 (.tmp 8) (.tmp 32) rfl q8 0 (ansC Ans.none) (ansC (Ans.of 10)) (ansC (Ans.of 10)) hb8.bk (Nat.le_refl 8) rfl info_an (ansC_one _) rfl rfl ?_; intro B4 hs ks; have K5 := Lib.hid ((LL4.out.new hb8.below).st ks (LL4.out.fresh hb8) (hb8.at LL4.out.below)); have p := (P2_104.out.new hb8.below).st ks (by have e1 := P2_104.out.bk.lt; have e2 := hb8.eq; omega); clear P2_104; have P2_5 := Lib.hid p; clear p; have p := (P3_104.out.new hb8.below).st ks (by have e1 := P3_104.out.bk.lt; have e2 := hb8.eq; omega); clear P3_104; have P3_5 := Lib.hid p; clear p; have p := (P4_104.out.new hb8.below).st ks (by have e1 := P4_104.out.bk.lt; have e2 := hb8.eq; omega); clear P4_104; have P4_5 := Lib.hid p; clear p; have P8_5 := Lib.hid (show Ap _ _ _ q8 (ansC (Ans.of 10)) from ⟨hs, LL4.out.fresh hb8⟩); clear hb8 LL4 hs ks)
    | (go_at_call 12; refine (Givesw (c := calN 1 sN ⟨#[]⟩) (x := 5) K5.out.mp K5.out.ok okG.out (by decide) (K5.out.tab HT.out)).mono ?_; rintro e V5 ⟨rfl, b⟩; rw [lv6g.1, lv6g.2]; have L5 := Lib.hid (K5.out.new b); have p := P2_5.out.new b; clear P2_5; have P2_105 := Lib.hid p; clear p; have p := P3_5.out.new b; clear P3_5; have P3_105 := Lib.hid p; clear p; have p := P4_5.out.new b; clear P4_5; have P4_105 := Lib.hid p; clear p; have p := P8_5.out.new b; clear P8_5; have P8_105 := Lib.hid p; clear p; clear K5 b)
    | (have _ := L5; (with_reducible refine at_wp ?_); refine wpList_alloc_bk rfl 40 (ansC Ans.none) alloc_an rfl ?_; intro A5 q9 hb9; have LL5 := Lib.hid L5.out; clear L5)
    | ((with_reducible refine at_wp ?_); refine wpList_store_bk rfl 40 (.tmp 9) (.tmp 37) rfl q9 0 (ansC Ans.none) (ansC (Ans.none)) (ansC (Ans.none)) hb9.bk (Nat.le_refl 8) rfl info_an (ansC_one _) rfl rfl ?_; intro B5 hs ks; have K6 := Lib.hid ((LL5.out.new hb9.below).st ks (LL5.out.fresh hb9) (hb9.at LL5.out.below)); have p := (P2_105.out.new hb9.below).st ks (by have e1 := P2_105.out.bk.lt; have e2 := hb9.eq; omega); clear P2_105; have P2_6 := Lib.hid p; clear p; have p := (P3_105.out.new hb9.below).st ks (by have e1 := P3_105.out.bk.lt; have e2 := hb9.eq; omega); clear P3_105; have P3_6 := Lib.hid p; clear p; have p := (P4_105.out.new hb9.below).st ks (by have e1 := P4_105.out.bk.lt; have e2 := hb9.eq; omega); clear P4_105; have P4_6 := Lib.hid p; clear p; have p := (P8_105.out.new hb9.below).st ks (by have e1 := P8_105.out.bk.lt; have e2 := hb9.eq; omega); clear P8_105; have P8_6 := Lib.hid p; clear p; clear hb9 LL5 hs ks)
    | (go_at_call 35; refine (putw _ _ _ _).mono ?_; rintro e WP ⟨rfl, rfl⟩; rw [putf_ex])
    | (go_at_call 28; refine (K6.out.does (c := calN 1 sN ⟨#[]⟩) (x := 281474976710661) okG.out (by decide) HT.out (by decide)).mono ?_; rintro e V6 ⟨rfl, mv6, l, ap⟩; rw [lv7] at l ⊢; have L6 := Lib.hid l; have AP6 := Lib.hid ap; clear l ap; have p := AP6.out _ _ P2_6.out; clear P2_6; have P2_106 := Lib.hid p; clear p; have p := AP6.out _ _ P3_6.out; clear P3_6; have P3_106 := Lib.hid p; clear p; have p := AP6.out _ _ P4_6.out; clear P4_6; have P4_106 := Lib.hid p; clear p; have p := AP6.out _ _ P8_6.out; clear P8_6; have P8_106 := Lib.hid p; clear p; clear K6 AP6)
    | (have _ := L6; (with_reducible refine at_wp ?_); refine wpList_alloc_bk rfl 40 (ansC Ans.none) alloc_an rfl ?_; intro A6 q11 hb11; have LL6 := Lib.hid L6.out; clear L6)
    | ((with_reducible refine at_wp ?_); refine wpList_store_bk rfl 40 (.tmp 11) (.tmp 42) rfl q11 0 (ansC Ans.none) (ansC (Ans.of 12)) (ansC (Ans.of 12)) hb11.bk (Nat.le_refl 8) rfl info_an (ansC_one _) rfl rfl ?_; intro B6 hs ks; have K7 := Lib.hid ((LL6.out.new hb11.below).st ks (LL6.out.fresh hb11) (hb11.at LL6.out.below)); have p := (P2_106.out.new hb11.below).st ks (by have e1 := P2_106.out.bk.lt; have e2 := hb11.eq; omega); clear P2_106; have P2_7 := Lib.hid p; clear p; have p := (P3_106.out.new hb11.below).st ks (by have e1 := P3_106.out.bk.lt; have e2 := hb11.eq; omega); clear P3_106; have P3_7 := Lib.hid p; clear p; have p := (P4_106.out.new hb11.below).st ks (by have e1 := P4_106.out.bk.lt; have e2 := hb11.eq; omega); clear P4_106; have P4_7 := Lib.hid p; clear p; have p := (P8_106.out.new hb11.below).st ks (by have e1 := P8_106.out.bk.lt; have e2 := hb11.eq; omega); clear P8_106; have P8_7 := Lib.hid p; clear p; have P11_7 := Lib.hid (show Ap _ _ _ q11 (ansC (Ans.of 12)) from ⟨hs, LL6.out.fresh hb11⟩); clear hb11 LL6 hs ks; obtain ⟨a0, a1, a2, a3, a4, a5, a6, a7⟩ := an_cells P2_7.out.bk; obtain ⟨b0, -⟩ := an_cells P3_7.out.bk; obtain ⟨d0, d1, d2, d3, d4, d5, d6, d7⟩ := an_cells P4_7.out.bk; obtain ⟨e0, -⟩ := an_cells P8_7.out.bk; obtain ⟨f0, -⟩ := an_cells P11_7.out.bk; have g1 := an_eql ⟨1, 1, Itm.none⟩ ⟨1, 1, Itm.none⟩; have g2 := an_eql ⟨8, 12, Itm.none⟩ ⟨8, 12, Itm.none⟩; unfold ansC Itm.none at g1 g2; rw [decide_eq_true rfl] at g1 g2; unfold Itm.none at a2 a3 a4 a5 a6 a7 d2 d3 d4 d5 d6 d7)
    | (go_at_call 22; refine (Countw K7.out.mp).mono ?_; rintro e WC ⟨rfl, rfl⟩))
  go_ret
  exact ⟨rfl, K7.out.below⟩
end Go.Proofs.YtmjklkcjinfmaaaDoor
