/- MapsCounts. -/
import Derived.Test.YtmjklkcjinfmaaaDoorMaO
import Derived.Deep.Cut
namespace Go.Proofs.YtmjklkcjinfmaaaDoor
open Go.RowKit Go.Maps
set_option linter.unusedVariables false
theorem textT {n : Int} {T : ByteArray} (hT : textB n = T) (h0 : 0 ≤ n) (h1 : n ≤ 18446744073709551615) (w : World) (htab : Lib.TabIs Tryd.prog w "internal/strconv.uint64pow10" .u64 Lib.pow10Tab) : Calls Tryd.prog 33 #[.int .u64 n] w fun e w' => e = .returned (.string T) ∧ Below w.heap.size w w' := by
  rw [← hT]
  exact textnu n h0 h1 w htab
set_option maxHeartbeats 8000000 in
set_option maxRecDepth 100000 in
theorem cnt_a (n b0 b1 fl : Int) (tx : ByteArray) (N D : Int) (T0 T1 T2 : ByteArray) (w : World) (hn : 0 ≤ n ∧ n ≤ 18446744073709551615) (hb0 : 0 ≤ b0 ∧ b0 ≤ 18446744073709551615) (hb1 : 0 ≤ b1 ∧ b1 ≤ 18446744073709551615) (hfl : 0 ≤ fl ∧ fl < 4294967296) (hs : tx.size ≤ 1000) (htab : Lib.TabIs Tryd.prog w "internal/strconv.uint64pow10" .u64 Lib.pow10Tab)
    (hN : incrF n b0 = N) (hD : decrF N b1 = D) (hT0 : textB n = T0) (hT1 : textB N = T1) (hT2 : textB D = T2) (hg : b1 < N) (p : Int) (hp : parseF tx.data.toList = (p, true)) :
    Calls Tryd.prog 8 #[.int .u64 n, .agg #[.int .u64 b0, .int .u64 b1], .agg #[.int .u32 fl, .string tx]] w fun e w' => e = .returned (.bool true) ∧ Below w.heap.size w w' := by
  have HT := Lib.hid htab
  have hNr := incrF_range n b0
  rw [hN] at hNr
  have hDr := decrF_range (b := b1) hNr.1 hNr.2 hb1.1
  rw [hD] at hDr
  have X0 : Hid (∀ W, Lib.TabIs Tryd.prog W "internal/strconv.uint64pow10" .u64 Lib.pow10Tab → Calls Tryd.prog 33 #[.int .u64 n] W fun e w' => e = .returned (.string T0) ∧ Below W.heap.size W w') := Lib.hid (textT hT0 hn.1 hn.2)
  have X1 : Hid (∀ W, Lib.TabIs Tryd.prog W "internal/strconv.uint64pow10" .u64 Lib.pow10Tab → Calls Tryd.prog 33 #[.int .u64 N] W fun e w' => e = .returned (.string T1) ∧ Below W.heap.size W w') := Lib.hid (textT hT1 hNr.1 hNr.2)
  have X2 : Hid (∀ W, Lib.TabIs Tryd.prog W "internal/strconv.uint64pow10" .u64 Lib.pow10Tab → Calls Tryd.prog 33 #[.int .u64 D] W fun e w' => e = .returned (.string T2) ∧ Below W.heap.size W w') := Lib.hid (textT hT2 hDr.1 hDr.2)
  have z0 : T0.size ≤ maxLen := hT0 ▸ textB_size n hn.1 hn.2
  have E1 : Hid (Mst.new.does ⟨3, sK, T0, fl, 9, 0, 0⟩ 0 = (⟨1, 1, Itm.none⟩, ⟨[⟨sK, T0, fl, 1, 9, 0⟩], 0, 1⟩)) := Lib.hid (by have := e1 n fl; rw [hT0] at this; exact this)
  have E2 : Hid ((⟨[⟨sK, T0, fl, 1, 9, 0⟩], 0, 1⟩ : Mst).does ⟨9, sK, ⟨#[]⟩, 0, 0, 0, b0⟩ 0 = (⟨8, N, Itm.none⟩, ⟨[⟨sK, T1, fl, 2, 9, 0⟩], 0, 2⟩)) := Lib.hid (by have := e2 n fl b0 hn.1 hn.2; rw [hT0, hN, hT1] at this; exact this)
  have E3 : Hid ((⟨[⟨sK, T1, fl, 2, 9, 0⟩], 0, 2⟩ : Mst).does ⟨10, sK, ⟨#[]⟩, 0, 0, 0, b1⟩ 0 = (⟨8, D, Itm.none⟩, ⟨[⟨sK, T2, fl, 3, 9, 0⟩], 0, 3⟩)) := Lib.hid (by have := e3 N fl b1 hNr.1 hNr.2; rw [hT1, hD, hT2] at this; exact this)
  have E4 := Lib.hid (e4 T2 tx fl)
  have E5 := Lib.hid (e5y tx p hp)
  have E6 := Lib.hid (e6 (textB (incrF p 0)) 5)
  have E7 := Lib.hid (ct_gone 5)
  have hm : tx.size ≤ maxLen := by unfold maxLen; omega
  have O1 : Hid (CalOk ⟨3, sK, T0, fl, 9, 0, 0⟩) := Lib.hid (cal_ok (by decide) (by decide) z0 hfl (by decide) (by decide))
  have O2 : Hid (CalOk ⟨9, sK, ⟨#[]⟩, 0, 0, 0, b0⟩) := Lib.hid (cal_ok (by decide) (by decide) (by decide) (by decide) (by decide) hb0)
  have O3 : Hid (CalOk ⟨10, sK, ⟨#[]⟩, 0, 0, 0, b1⟩) := Lib.hid (cal_ok (by decide) (by decide) (by decide) (by decide) (by decide) hb1)
  have O4 : Hid (CalOk ⟨3, sK, tx, 0, 0, 0, 0⟩) := Lib.hid (cal_ok (by decide) (by decide) hm (by decide) (by decide) (by decide))
  have O5 : Hid (CalOk (calN 9 sK ⟨#[]⟩)) := Lib.hid (calN_ok 9 (by decide) _ _ (by decide) (by decide))
  have O6 : Hid (CalOk (calN 7 sK ⟨#[]⟩)) := Lib.hid (calN_ok 7 (by decide) _ _ (by decide) (by decide))
  have HP := Lib.hid (parsew tx · hm)
  rw [hp] at HP
  have hwr : IntKind.u64.wrap (n + b0) = N := by rw [wrap_incr, hN]
  have hlen : decide (1000 < (tx.size : Int)) = false := decide_eq_false (by omega)
  have hgt : decide (b1 < N) = true := decide_eq_true hg
  have hsub : IntKind.u64.wrap (N - b1) = D := by
    have : D = N - b1 := by rw [← hD]; unfold decrF; split <;> omega
    rw [this]
    exact IntWalk.u64_in _ (by omega)
  clear htab hN hT0 hT1 hT2 hp hs hm z0 hNr hDr hn hb0 hb1 hfl hg hD
  go_enter Tryd.func8, Tryd.ntmps8
  go_wp2_with (first
    | ((with_reducible refine at_wp ?_); refine wpList_box_bk rfl 74 (.tmp 1) rfl [.int .u64 b0, .int .u64 b1] rfl ?_; intro U1 q4 u1)
    | ((with_reducible refine at_wp ?_); refine wpList_box_bk rfl 76 (.tmp 2) rfl [.int .u32 fl, .string tx] rfl ?_; intro U2 q5 u2; have f0 := u2.bk.at_ 0 _ rfl; have f1 := u2.bk.at_ 1 _ rfl; have HU := Lib.hid (fr_new u1.below u2.below); have HU4 := Lib.hid (u1.bk.new u2.below); clear u1 u2)
    | (go_at_call 11; refine (Lv.start _).mono ?_; rintro e W0 ⟨m, rfl, l0⟩; clear f0 f1; have HT2 := Lib.hid (tab_below HT.out HU.out); have P4_0 := Lib.hid (show Ap W0 m none q4 [.int .u64 b0, .int .u64 b1] from ⟨HU4.out.new l0.below, fun s => absurd (l0.low q4 s) (Nat.not_le_of_lt HU4.out.lt)⟩); have K0 := Lib.hid l0; clear l0)
    | (go_at_call 33; refine (X0.out _ (K0.out.tab HT2.out)).mono ?_; rintro e V0 ⟨rfl, b⟩; have k := K0.out.new b; have p4 := P4_0.out.new b; clear K0 P4_0; have K1 := Lib.hid k; clear k; have P4_1 := Lib.hid p4; clear p4; clear b)
    | (go_at_call 28; refine (K1.out.does (c := ⟨3, sK, T0, fl, 9, 0, 0⟩) (x := 0) O1.out (by decide) HT2.out (by decide)).mono ?_; rintro e V1 ⟨rfl, v1, l, ap⟩; rw [E1.out] at l ⊢; have k := l; have p4 := ap _ _ P4_1.out; clear K1 P4_1; have K2 := Lib.hid k; clear k; have P4_2 := Lib.hid p4; clear p4; clear l ap; have r0 := P4_2.out.bk.at_ 0 _ rfl; have r1 := P4_2.out.bk.at_ 1 _ rfl)
    | (go_at_call 28; refine (K2.out.does (c := ⟨9, sK, ⟨#[]⟩, 0, 0, 0, b0⟩) (x := 0) O2.out (by decide) HT2.out (by decide)).mono ?_; rintro e V2 ⟨rfl, v2, l, ap⟩; rw [E2.out] at l ⊢; have k := l; have p4 := ap _ _ P4_2.out; clear K2 P4_2; have K3 := Lib.hid k; clear k; have P4_3 := Lib.hid p4; clear p4; clear l ap)
    | (have _ := K3; (with_reducible refine at_wp ?_); refine wpList_alloc_bk rfl 40 (ansC Ans.none) alloc_an rfl ?_; intro A10 q10 hb10; have LL3 := Lib.hid K3.out; clear K3)
    | ((with_reducible refine at_wp ?_); refine wpList_store_bk rfl 40 (.tmp 10) (.tmp 41) rfl q10 0 (ansC Ans.none) (ansC ⟨8, N, Itm.none⟩) (ansC ⟨8, N, Itm.none⟩) hb10.bk (Nat.le_refl 8) rfl info_an (ansC_one _) rfl rfl ?_; intro B10 hs ks; have k := (LL3.out.new hb10.below).st ks (LL3.out.fresh hb10) (hb10.at LL3.out.below); have p4 := (P4_3.out.new hb10.below).st ks (by have e1 := P4_3.out.bk.lt; have e2 := hb10.eq; omega); have p10 := (show Ap _ _ _ q10 (ansC ⟨8, N, Itm.none⟩) from ⟨hs, LL3.out.fresh hb10⟩); clear LL3 hb10 hs ks P4_3; have K4 := Lib.hid k; clear k; have P4_4 := Lib.hid p4; clear p4; have P10_4 := Lib.hid p10; clear p10; have r0 := P4_4.out.bk.at_ 0 _ rfl; have r1 := P4_4.out.bk.at_ 1 _ rfl)
    | (go_at_call 20; refine (Atw K4.out.mp sK (by decide)).mono ?_; rintro e V4 ⟨rfl, b⟩; unfold atV; rw [look_one rfl]; have k := K4.out.new b; have p4 := P4_4.out.new b; have p10 := P10_4.out.new b; clear K4 P4_4 P10_4; have K5 := Lib.hid k; clear k; have P4_5 := Lib.hid p4; clear p4; have P10_5 := Lib.hid p10; clear p10; clear b)
    | (have _ := K5; (with_reducible refine at_wp ?_); refine wpList_alloc_bk rfl 38 (itC Itm.none) alloc_it rfl ?_; intro A11 q11 hb11; have LL5 := Lib.hid K5.out; clear K5)
    | ((with_reducible refine at_wp ?_); refine wpList_store_bk rfl 38 (.tmp 11) (.tmp 45) rfl q11 0 (itC Itm.none) (itC ⟨sK, T1, fl, 2, 9, 0⟩) (itC ⟨sK, T1, fl, 2, 9, 0⟩) hb11.bk (Nat.le_refl 6) rfl info_it (itC_one _) rfl rfl ?_; intro B11 hs ks; have k := (LL5.out.new hb11.below).st ks (LL5.out.fresh hb11) (hb11.at LL5.out.below); have p4 := (P4_5.out.new hb11.below).st ks (by have e1 := P4_5.out.bk.lt; have e2 := hb11.eq; omega); have p10 := (P10_5.out.new hb11.below).st ks (by have e1 := P10_5.out.bk.lt; have e2 := hb11.eq; omega); have p11 := (show Ap _ _ _ q11 (itC ⟨sK, T1, fl, 2, 9, 0⟩) from ⟨hs, LL5.out.fresh hb11⟩); clear LL5 hb11 hs ks P4_5 P10_5; have K6 := Lib.hid k; clear k; have P4_6 := Lib.hid p4; clear p4; have P10_6 := Lib.hid p10; clear p10; have P11_6 := Lib.hid p11; clear p11; have r0 := P4_6.out.bk.at_ 0 _ rfl; have r1 := P4_6.out.bk.at_ 1 _ rfl)
    | (go_at_call 28; refine (K6.out.does (c := ⟨10, sK, ⟨#[]⟩, 0, 0, 0, b1⟩) (x := 0) O3.out (by decide) HT2.out (by decide)).mono ?_; rintro e V6 ⟨rfl, v6, l, ap⟩; rw [E3.out] at l ⊢; have k := l; have p4 := ap _ _ P4_6.out; have p10 := ap _ _ P10_6.out; have p11 := ap _ _ P11_6.out; clear K6 P4_6 P10_6 P11_6; have K7 := Lib.hid k; clear k; have P4_7 := Lib.hid p4; clear p4; have P10_7 := Lib.hid p10; clear p10; have P11_7 := Lib.hid p11; clear p11; clear l ap)
    | (have _ := K7; (with_reducible refine at_wp ?_); refine wpList_alloc_bk rfl 40 (ansC Ans.none) alloc_an rfl ?_; intro A13 q13 hb13; have LL7 := Lib.hid K7.out; clear K7)
    | ((with_reducible refine at_wp ?_); refine wpList_store_bk rfl 40 (.tmp 13) (.tmp 51) rfl q13 0 (ansC Ans.none) (ansC ⟨8, D, Itm.none⟩) (ansC ⟨8, D, Itm.none⟩) hb13.bk (Nat.le_refl 8) rfl info_an (ansC_one _) rfl rfl ?_; intro B13 hs ks; have k := (LL7.out.new hb13.below).st ks (LL7.out.fresh hb13) (hb13.at LL7.out.below); have p4 := (P4_7.out.new hb13.below).st ks (by have e1 := P4_7.out.bk.lt; have e2 := hb13.eq; omega); have p10 := (P10_7.out.new hb13.below).st ks (by have e1 := P10_7.out.bk.lt; have e2 := hb13.eq; omega); have p11 := (P11_7.out.new hb13.below).st ks (by have e1 := P11_7.out.bk.lt; have e2 := hb13.eq; omega); have p13 := (show Ap _ _ _ q13 (ansC ⟨8, D, Itm.none⟩) from ⟨hs, LL7.out.fresh hb13⟩); clear LL7 hb13 hs ks P4_7 P10_7 P11_7; have K8 := Lib.hid k; clear k; have P4_8 := Lib.hid p4; clear p4; have P10_8 := Lib.hid p10; clear p10; have P11_8 := Lib.hid p11; clear p11; have P13_8 := Lib.hid p13; clear p13; have r0 := P4_8.out.bk.at_ 0 _ rfl; have r1 := P4_8.out.bk.at_ 1 _ rfl)
    | (go_at_call 20; refine (Atw K8.out.mp sK (by decide)).mono ?_; rintro e V8 ⟨rfl, b⟩; unfold atV; rw [look_one rfl]; have k := K8.out.new b; have p4 := P4_8.out.new b; have p10 := P10_8.out.new b; have p11 := P11_8.out.new b; have p13 := P13_8.out.new b; clear K8 P4_8 P10_8 P11_8 P13_8; have K9 := Lib.hid k; clear k; have P4_9 := Lib.hid p4; clear p4; have P10_9 := Lib.hid p10; clear p10; have P11_9 := Lib.hid p11; clear p11; have P13_9 := Lib.hid p13; clear p13; clear b)
    | (have _ := K9; (with_reducible refine at_wp ?_); refine wpList_alloc_bk rfl 38 (itC Itm.none) alloc_it rfl ?_; intro A14 q14 hb14; have LL9 := Lib.hid K9.out; clear K9)
    | ((with_reducible refine at_wp ?_); refine wpList_store_bk rfl 38 (.tmp 14) (.tmp 55) rfl q14 0 (itC Itm.none) (itC ⟨sK, T2, fl, 3, 9, 0⟩) (itC ⟨sK, T2, fl, 3, 9, 0⟩) hb14.bk (Nat.le_refl 6) rfl info_it (itC_one _) rfl rfl ?_; intro B14 hs ks; have k := (LL9.out.new hb14.below).st ks (LL9.out.fresh hb14) (hb14.at LL9.out.below); have p4 := (P4_9.out.new hb14.below).st ks (by have e1 := P4_9.out.bk.lt; have e2 := hb14.eq; omega); have p10 := (P10_9.out.new hb14.below).st ks (by have e1 := P10_9.out.bk.lt; have e2 := hb14.eq; omega); have p11 := (P11_9.out.new hb14.below).st ks (by have e1 := P11_9.out.bk.lt; have e2 := hb14.eq; omega); have p13 := (P13_9.out.new hb14.below).st ks (by have e1 := P13_9.out.bk.lt; have e2 := hb14.eq; omega); have p14 := (show Ap _ _ _ q14 (itC ⟨sK, T2, fl, 3, 9, 0⟩) from ⟨hs, LL9.out.fresh hb14⟩); clear LL9 hb14 hs ks P4_9 P10_9 P11_9 P13_9; have K10 := Lib.hid k; clear k; have P4_10 := Lib.hid p4; clear p4; have P10_10 := Lib.hid p10; clear p10; have P11_10 := Lib.hid p11; clear p11; have P13_10 := Lib.hid p13; clear p13; have P14_10 := Lib.hid p14; clear p14; have r0 := P4_10.out.bk.at_ 0 _ rfl; have r1 := P4_10.out.bk.at_ 1 _ rfl))
  have hd11 : Below B14.heap.size B14 B14.drew := (Below.refl _ _).drew
  have KEEP11 : Hid (∀ X, Below B14.heap.size B14 X → X.cell? ⟨q10, 0, none⟩ = some (.int .u8 8) ∧ X.cell? ⟨q10, 1, none⟩ = some (.int .u64 N) ∧ X.cell? ⟨q10, 2, none⟩ = some (.string ⟨#[]⟩) ∧ X.cell? ⟨q10, 3, none⟩ = some (.string ⟨#[]⟩) ∧ X.cell? ⟨q10, 4, none⟩ = some (.int .u32 0) ∧ X.cell? ⟨q10, 5, none⟩ = some (.int .u64 0) ∧ X.cell? ⟨q10, 6, none⟩ = some (.int .i64 0) ∧ X.cell? ⟨q10, 7, none⟩ = some (.int .i64 0) ∧ X.cell? ⟨q11, 0, none⟩ = some (.string ⟨#[107]⟩) ∧ X.cell? ⟨q11, 1, none⟩ = some (.string T1) ∧ X.cell? ⟨q11, 2, none⟩ = some (.int .u32 fl) ∧ X.cell? ⟨q11, 3, none⟩ = some (.int .u64 2) ∧ X.cell? ⟨q11, 4, none⟩ = some (.int .i64 9) ∧ X.cell? ⟨q11, 5, none⟩ = some (.int .i64 0) ∧ X.cell? ⟨q4, 0, none⟩ = some (.int .u64 b0)) := Lib.hid fun X hb => by
    have g1 := P10_10.out.bk.new hb
    have g2 := P11_10.out.bk.new hb
    have g3 := P4_10.out.bk.new hb
    exact ⟨g1.at_ 0 _ rfl, g1.at_ 1 _ rfl, g1.at_ 2 _ rfl, g1.at_ 3 _ rfl, g1.at_ 4 _ rfl, g1.at_ 5 _ rfl, g1.at_ 6 _ rfl, g1.at_ 7 _ rfl, g2.at_ 0 _ rfl, g2.at_ 1 _ rfl, g2.at_ 2 _ rfl, g2.at_ 3 _ rfl, g2.at_ 4 _ rfl, g2.at_ 5 _ rfl, g3.at_ 0 _ rfl⟩
  have ga : ∀ W, (binOp .neq 40 (.agg #[.int .u8 8, .int .u64 N, .string ⟨#[]⟩, .string ⟨#[]⟩, .int .u32 0, .int .u64 0, .int .i64 0, .int .i64 0]) (.agg #[.int .u8 8, .int .u64 N, .string ⟨#[]⟩, .string ⟨#[]⟩, .int .u32 0, .int .u64 0, .int .i64 0, .int .i64 0])).run Tryd.prog W = .ok (.bool false) W := fun W => by
    have := an_neq ⟨8, N, Itm.none⟩ ⟨8, N, Itm.none⟩ W
    rw [decide_eq_false (by simp)] at this
    exact this
  have gi : ∀ W, (binOp .neq 38 (.agg #[.string ⟨#[107]⟩, .string T1, .int .u32 fl, .int .u64 2, .int .i64 9, .int .i64 0]) (.agg #[.string ⟨#[107]⟩, .string T1, .int .u32 fl, .int .u64 2, .int .i64 9, .int .i64 0])).run Tryd.prog W = .ok (.bool false) W := fun W => by
    have := it_neq ⟨sK, T1, fl, 2, 9, 0⟩ ⟨sK, T1, fl, 2, 9, 0⟩ W
    rw [decide_eq_false (by simp)] at this
    exact this
  clear r0 r1
  refine wp_region_held_drew (S := fun X => X.cell? ⟨q10, 0, none⟩ = some (.int .u8 8) ∧ X.cell? ⟨q10, 1, none⟩ = some (.int .u64 N) ∧ X.cell? ⟨q10, 2, none⟩ = some (.string ⟨#[]⟩) ∧ X.cell? ⟨q10, 3, none⟩ = some (.string ⟨#[]⟩) ∧ X.cell? ⟨q10, 4, none⟩ = some (.int .u32 0) ∧ X.cell? ⟨q10, 5, none⟩ = some (.int .u64 0) ∧ X.cell? ⟨q10, 6, none⟩ = some (.int .i64 0) ∧ X.cell? ⟨q10, 7, none⟩ = some (.int .i64 0) ∧ X.cell? ⟨q11, 0, none⟩ = some (.string ⟨#[107]⟩) ∧ X.cell? ⟨q11, 1, none⟩ = some (.string T1) ∧ X.cell? ⟨q11, 2, none⟩ = some (.int .u32 fl) ∧ X.cell? ⟨q11, 3, none⟩ = some (.int .u64 2) ∧ X.cell? ⟨q11, 4, none⟩ = some (.int .i64 9) ∧ X.cell? ⟨q11, 5, none⟩ = some (.int .i64 0) ∧ X.cell? ⟨q4, 0, none⟩ = some (.int .u64 b0)) (by kernel_rfl) (KEEP11.out _ hd11) (fun hHeld => ?_)
  refine wpAnyH_take (i := 0) (oi := ({ dst := some 57, op := Op.load 40 (Operand.tmp 10), type := 40, pos := "outright.go:178", after := #[], guard := none })) (v := ?_) rfl (by kernel_rfl) (by kernel_rfl) (by kernel_rfl) (fun _ _ _ h => h) (Or.inl ⟨by rfl, ?_⟩) (by assumption) ?_
  rotate_left 1
  · (intro w9 hSw; (try dsimp only at hSw); go_simp; try with_reducible rfl)
  try simp only [Act.put, List.setIfInBounds_toArray, List.set_cons_zero, List.set_cons_succ]
  refine wpAnyH_take (i := 1) (oi := ({ dst := some 58, op := Op.move (Operand.tmp 0), type := 29, pos := "outright.go:178", after := #[], guard := none })) (v := ?_) rfl (by kernel_rfl) (by kernel_rfl) (by kernel_rfl) (fun _ _ _ h => h) (Or.inl ⟨by rfl, ?_⟩) (by assumption) ?_
  rotate_left 1
  · (intro w9 hSw; (try dsimp only at hSw); go_simp; try with_reducible rfl)
  try simp only [Act.put, List.setIfInBounds_toArray, List.set_cons_zero, List.set_cons_succ]
  refine wpAnyH_take (i := 2) (oi := ({ dst := some 59, op := Op.indexAddr 74 (Operand.tmp 4) (Operand.const (Value.int IntKind.i64 0)), type := 0, pos := "outright.go:178", after := #[], guard := none })) (v := ?_) rfl (by kernel_rfl) (by kernel_rfl) (by kernel_rfl) (fun _ _ _ h => h) (Or.inl ⟨by rfl, ?_⟩) (by assumption) ?_
  rotate_left 1
  · (intro w9 hSw; (try dsimp only at hSw); go_simp; try with_reducible rfl)
  try simp only [Act.put, List.setIfInBounds_toArray, List.set_cons_zero, List.set_cons_succ]
  refine wpAnyH_take (i := 3) (oi := ({ dst := some 60, op := Op.load 29 (Operand.tmp 59), type := 29, pos := "outright.go:178", after := #[{ on := 2, ground := Ground.data }], guard := none })) (v := ?_) rfl (by kernel_rfl) (by kernel_rfl) (by kernel_rfl) (fun _ _ _ h => h) (Or.inl ⟨by rfl, ?_⟩) (by assumption) ?_
  rotate_left 1
  · (intro w9 hSw; (try dsimp only at hSw); go_simp; try with_reducible rfl)
  try simp only [Act.put, List.setIfInBounds_toArray, List.set_cons_zero, List.set_cons_succ]
  refine wpAnyH_take (i := 4) (oi := ({ dst := some 61, op := Op.binOp BinOp.add 29 (Operand.tmp 58) (Operand.tmp 60) 29, type := 29, pos := "outright.go:178", after := #[{ on := 1, ground := Ground.data }, { on := 3, ground := Ground.data }], guard := none })) (v := ?_) rfl (by kernel_rfl) (by kernel_rfl) (by kernel_rfl) (fun _ _ _ h => h) (Or.inl ⟨by rfl, ?_⟩) (by assumption) ?_
  rotate_left 1
  · (intro w9 hSw; (try dsimp only at hSw); go_simp; try with_reducible rfl)
  try simp only [Act.put, List.setIfInBounds_toArray, List.set_cons_zero, List.set_cons_succ]
  refine wpAnyH_take (i := 5) (oi := ({ dst := some 62, op := Op.build 40 #[(0, Operand.const (Value.int IntKind.u8 8)), (1, Operand.tmp 61)], type := 40, pos := "outright.go:178", after := #[{ on := 4, ground := Ground.data }], guard := none })) (v := ?_) rfl (by kernel_rfl) (by kernel_rfl) (by kernel_rfl) (fun _ _ _ h => h) (Or.inl ⟨by rfl, ?_⟩) (by assumption) ?_
  rotate_left 1
  · (intro w9 hSw; (try dsimp only at hSw); go_simp; try with_reducible rfl)
  try simp only [Act.put, List.setIfInBounds_toArray, List.set_cons_zero, List.set_cons_succ]
  refine wpAnyH_take (i := 6) (oi := ({ dst := some 63, op := Op.binOp BinOp.neq 40 (Operand.tmp 57) (Operand.tmp 62) 40, type := 4, pos := "outright.go:178", after := #[{ on := 0, ground := Ground.data }, { on := 5, ground := Ground.data }], guard := none })) (v := ?_) rfl (by kernel_rfl) (by kernel_rfl) (by kernel_rfl) (fun _ _ _ h => h) (Or.inl ⟨by rfl, ?_⟩) (by assumption) ?_
  rotate_left 1
  · (intro w9 hSw; (try dsimp only at hSw); go_simp; try with_reducible rfl)
  try simp only [Act.put, List.setIfInBounds_toArray, List.set_cons_zero, List.set_cons_succ]
  refine wpAnyH_take (i := 7) (oi := ({ dst := some 64, op := Op.move (Operand.tmp 63), type := 4, pos := "outright.go:178", after := #[{ on := 6, ground := Ground.data }], guard := none })) (v := ?_) rfl (by kernel_rfl) (by kernel_rfl) (by kernel_rfl) (fun _ _ _ h => h) (Or.inl ⟨by rfl, ?_⟩) (by assumption) ?_
  rotate_left 1
  · (intro w9 hSw; (try dsimp only at hSw); go_simp; try with_reducible rfl)
  try simp only [Act.put, List.setIfInBounds_toArray, List.set_cons_zero, List.set_cons_succ]
  refine wpAnyH_take (i := 8) (oi := ({ dst := some 65, op := Op.load 38 (Operand.tmp 11), type := 38, pos := "outright.go:178", after := #[{ on := 7, ground := Ground.guard }], guard := some (7, false) })) (v := ?_) rfl (by kernel_rfl) (by kernel_rfl) (by kernel_rfl) (fun _ _ _ h => h) (Or.inl ⟨by rfl, ?_⟩) (by assumption) ?_
  rotate_left 1
  · (intro w9 hSw; (try dsimp only at hSw); go_simp; try with_reducible rfl)
  try simp only [Act.put, List.setIfInBounds_toArray, List.set_cons_zero, List.set_cons_succ]
  refine wpAnyH_take (i := 9) (oi := ({ dst := some 66, op := Op.move (Operand.tmp 0), type := 29, pos := "outright.go:178", after := #[{ on := 7, ground := Ground.guard }], guard := some (7, false) })) (v := ?_) rfl (by kernel_rfl) (by kernel_rfl) (by kernel_rfl) (fun _ _ _ h => h) (Or.inl ⟨by rfl, ?_⟩) (by assumption) ?_
  rotate_left 1
  · (intro w9 hSw; (try dsimp only at hSw); go_simp; try with_reducible rfl)
  try simp only [Act.put, List.setIfInBounds_toArray, List.set_cons_zero, List.set_cons_succ]
  refine wpAnyH_take (i := 10) (oi := ({ dst := some 67, op := Op.indexAddr 74 (Operand.tmp 4) (Operand.const (Value.int IntKind.i64 0)), type := 0, pos := "outright.go:178", after := #[{ on := 7, ground := Ground.guard }], guard := some (7, false) })) (v := ?_) rfl (by kernel_rfl) (by kernel_rfl) (by kernel_rfl) (fun _ _ _ h => h) (Or.inl ⟨by rfl, ?_⟩) (by assumption) ?_
  rotate_left 1
  · (intro w9 hSw; (try dsimp only at hSw); go_simp; try with_reducible rfl)
  try simp only [Act.put, List.setIfInBounds_toArray, List.set_cons_zero, List.set_cons_succ]
  refine wpAnyH_take (i := 11) (oi := ({ dst := some 68, op := Op.load 29 (Operand.tmp 67), type := 29, pos := "outright.go:178", after := #[{ on := 10, ground := Ground.data }, { on := 7, ground := Ground.guard }], guard := some (7, false) })) (v := ?_) rfl (by kernel_rfl) (by kernel_rfl) (by kernel_rfl) (fun _ _ _ h => h) (Or.inl ⟨by rfl, ?_⟩) (by assumption) ?_
  rotate_left 1
  · (intro w9 hSw; (try dsimp only at hSw); go_simp; try with_reducible rfl)
  try simp only [Act.put, List.setIfInBounds_toArray, List.set_cons_zero, List.set_cons_succ]
  refine wpAnyH_take (i := 12) (oi := ({ dst := some 69, op := Op.binOp BinOp.add 29 (Operand.tmp 66) (Operand.tmp 68) 29, type := 29, pos := "outright.go:178", after := #[{ on := 9, ground := Ground.data }, { on := 11, ground := Ground.data }, { on := 7, ground := Ground.guard }], guard := some (7, false) })) (v := ?_) rfl (by kernel_rfl) (by kernel_rfl) (by kernel_rfl) (fun _ _ _ h => h) (Or.inl ⟨by rfl, ?_⟩) (by assumption) ?_
  rotate_left 1
  · (intro w9 hSw; (try dsimp only at hSw); go_simp; try with_reducible rfl)
  try simp only [Act.put, List.setIfInBounds_toArray, List.set_cons_zero, List.set_cons_succ]
  refine wpAnyH_take (i := 14) (oi := ({ dst := some 71, op := Op.move (Operand.tmp 7), type := 33, pos := "outright.go:178", after := #[{ on := 7, ground := Ground.guard }], guard := some (7, false) })) (v := ?_) rfl (by kernel_rfl) (by kernel_rfl) (by kernel_rfl) (fun _ _ _ h => h) (Or.inl ⟨by rfl, ?_⟩) (by assumption) ?_
  rotate_left 1
  · (intro w9 hSw; (try dsimp only at hSw); go_simp; try with_reducible rfl)
  try simp only [Act.put, List.setIfInBounds_toArray, List.set_cons_zero, List.set_cons_succ]
  refine wpAnyH_ready (rs := [13]) (by kernel_rfl) (by simp) ?_
  refine AllReadyH.cons (o := ({ dst := some 70, op := Op.call { callee := Callee.value (Operand.func 33), args := #[Operand.tmp 69], argTypes := #[29] }, type := 9, pos := "outright.go:178", after := #[{ on := 12, ground := Ground.data }, { on := 7, ground := Ground.chain }, { on := 7, ground := Ground.guard }], guard := some (7, false) })) rfl (fun K hK => ?_) AllReadyH.nil
  go_simp
  refine (X1.out _ (tab_below (K10.out.tab HT2.out) hd11)).mono ?_
  rintro e V11 ⟨rfl, b11⟩
  have hb11 := fr_new hd11 b11
  refine hK.out _ _ (KEEP11.out _ hb11) (fun hHeld => ?_)
  clear hK K
  try simp only [Act.put, List.setIfInBounds_toArray, List.set_cons_zero, List.set_cons_succ]
  refine wpAnyH_take (i := 15) (oi := ({ dst := some 72, op := Op.build 38 #[(0, Operand.const (Value.string { data := #[107] })), (1, Operand.tmp 70), (2, Operand.tmp 71), (3, Operand.const (Value.int IntKind.u64 2)), (4, Operand.const (Value.int IntKind.i64 9))], type := 38, pos := "outright.go:178", after := #[{ on := 13, ground := Ground.data }, { on := 14, ground := Ground.data }, { on := 7, ground := Ground.guard }], guard := some (7, false) })) (v := ?_) rfl (by kernel_rfl) (by kernel_rfl) (by kernel_rfl) (fun _ _ _ h => h) (Or.inl ⟨by rfl, ?_⟩) (by assumption) ?_
  rotate_left 1
  · (intro w9 hSw; (try dsimp only at hSw); go_simp; try with_reducible rfl)
  try simp only [Act.put, List.setIfInBounds_toArray, List.set_cons_zero, List.set_cons_succ]
  refine wpAnyH_take (i := 16) (oi := ({ dst := some 73, op := Op.binOp BinOp.neq 38 (Operand.tmp 65) (Operand.tmp 72) 38, type := 4, pos := "outright.go:178", after := #[{ on := 8, ground := Ground.data }, { on := 15, ground := Ground.data }, { on := 7, ground := Ground.guard }], guard := some (7, false) })) (v := ?_) rfl (by kernel_rfl) (by kernel_rfl) (by kernel_rfl) (fun _ _ _ h => h) (Or.inl ⟨by rfl, ?_⟩) (by assumption) ?_
  rotate_left 1
  · (intro w9 hSw; (try dsimp only at hSw); go_simp; try with_reducible rfl)
  try simp only [Act.put, List.setIfInBounds_toArray, List.set_cons_zero, List.set_cons_succ]
  refine wpAnyH_take (i := 17) (oi := ({ dst := some 74, op := Op.pick (Operand.tmp 64) (Operand.const (Value.bool true)) (Operand.tmp 73), type := 4, pos := "outright.go:178", after := #[{ on := 7, ground := Ground.data }, { on := 16, ground := Ground.data }], guard := none })) (v := ?_) rfl (by kernel_rfl) (by kernel_rfl) (by kernel_rfl) (fun _ _ _ h => h) (Or.inl ⟨by rfl, ?_⟩) (by assumption) ?_
  rotate_left 1
  · (intro w9 hSw; (try dsimp only at hSw); go_simp; try with_reducible rfl)
  try simp only [Act.put, List.setIfInBounds_toArray, List.set_cons_zero, List.set_cons_succ]
  refine wpAnyH_done (by kernel_rfl) ?_ _
  have r0 := (P4_10.out.bk.new hb11).at_ 0 _ rfl
  have r1 := (P4_10.out.bk.new hb11).at_ 1 _ rfl
  have HB11 := Lib.hid hb11
  clear ga gi hHeld hb11 b11 hd11
  go_wp2_with fail
  have hd16 : Below V11.heap.size V11 V11.drew := (Below.refl _ _).drew
  have KEEP16 : Hid (∀ X, Below V11.heap.size V11 X → X.cell? ⟨q13, 0, none⟩ = some (.int .u8 8) ∧ X.cell? ⟨q13, 1, none⟩ = some (.int .u64 D) ∧ X.cell? ⟨q13, 2, none⟩ = some (.string ⟨#[]⟩) ∧ X.cell? ⟨q13, 3, none⟩ = some (.string ⟨#[]⟩) ∧ X.cell? ⟨q13, 4, none⟩ = some (.int .u32 0) ∧ X.cell? ⟨q13, 5, none⟩ = some (.int .u64 0) ∧ X.cell? ⟨q13, 6, none⟩ = some (.int .i64 0) ∧ X.cell? ⟨q13, 7, none⟩ = some (.int .i64 0) ∧ X.cell? ⟨q14, 0, none⟩ = some (.string ⟨#[107]⟩) ∧ X.cell? ⟨q14, 1, none⟩ = some (.string T2) ∧ X.cell? ⟨q14, 2, none⟩ = some (.int .u32 fl) ∧ X.cell? ⟨q14, 3, none⟩ = some (.int .u64 3) ∧ X.cell? ⟨q14, 4, none⟩ = some (.int .i64 9) ∧ X.cell? ⟨q14, 5, none⟩ = some (.int .i64 0)) := Lib.hid fun X hb => by
    have g1 := P13_10.out.bk.new (fr_new HB11.out hb)
    have g2 := P14_10.out.bk.new (fr_new HB11.out hb)
    exact ⟨g1.at_ 0 _ rfl, g1.at_ 1 _ rfl, g1.at_ 2 _ rfl, g1.at_ 3 _ rfl, g1.at_ 4 _ rfl, g1.at_ 5 _ rfl, g1.at_ 6 _ rfl, g1.at_ 7 _ rfl, g2.at_ 0 _ rfl, g2.at_ 1 _ rfl, g2.at_ 2 _ rfl, g2.at_ 3 _ rfl, g2.at_ 4 _ rfl, g2.at_ 5 _ rfl⟩
  have ga : ∀ W, (binOp .neq 40 (.agg #[.int .u8 8, .int .u64 D, .string ⟨#[]⟩, .string ⟨#[]⟩, .int .u32 0, .int .u64 0, .int .i64 0, .int .i64 0]) (.agg #[.int .u8 8, .int .u64 D, .string ⟨#[]⟩, .string ⟨#[]⟩, .int .u32 0, .int .u64 0, .int .i64 0, .int .i64 0])).run Tryd.prog W = .ok (.bool false) W := fun W => by
    have := an_neq ⟨8, D, Itm.none⟩ ⟨8, D, Itm.none⟩ W
    rw [decide_eq_false (by simp)] at this
    exact this
  have gi : ∀ W, (binOp .neq 38 (.agg #[.string ⟨#[107]⟩, .string T2, .int .u32 fl, .int .u64 3, .int .i64 9, .int .i64 0]) (.agg #[.string ⟨#[107]⟩, .string T2, .int .u32 fl, .int .u64 3, .int .i64 9, .int .i64 0])).run Tryd.prog W = .ok (.bool false) W := fun W => by
    have := it_neq ⟨sK, T2, fl, 3, 9, 0⟩ ⟨sK, T2, fl, 3, 9, 0⟩ W
    rw [decide_eq_false (by simp)] at this
    exact this
  clear r0 r1
  refine wp_region_held_drew (S := fun X => X.cell? ⟨q13, 0, none⟩ = some (.int .u8 8) ∧ X.cell? ⟨q13, 1, none⟩ = some (.int .u64 D) ∧ X.cell? ⟨q13, 2, none⟩ = some (.string ⟨#[]⟩) ∧ X.cell? ⟨q13, 3, none⟩ = some (.string ⟨#[]⟩) ∧ X.cell? ⟨q13, 4, none⟩ = some (.int .u32 0) ∧ X.cell? ⟨q13, 5, none⟩ = some (.int .u64 0) ∧ X.cell? ⟨q13, 6, none⟩ = some (.int .i64 0) ∧ X.cell? ⟨q13, 7, none⟩ = some (.int .i64 0) ∧ X.cell? ⟨q14, 0, none⟩ = some (.string ⟨#[107]⟩) ∧ X.cell? ⟨q14, 1, none⟩ = some (.string T2) ∧ X.cell? ⟨q14, 2, none⟩ = some (.int .u32 fl) ∧ X.cell? ⟨q14, 3, none⟩ = some (.int .u64 3) ∧ X.cell? ⟨q14, 4, none⟩ = some (.int .i64 9) ∧ X.cell? ⟨q14, 5, none⟩ = some (.int .i64 0)) (by kernel_rfl) (KEEP16.out _ hd16) (fun hHeld => ?_)
  refine wpAnyH_take (i := 0) (oi := ({ dst := some 89, op := Op.load 40 (Operand.tmp 13), type := 40, pos := "outright.go:185", after := #[], guard := none })) (v := ?_) rfl (by kernel_rfl) (by kernel_rfl) (by kernel_rfl) (fun _ _ _ h => h) (Or.inl ⟨by rfl, ?_⟩) (by assumption) ?_
  rotate_left 1
  · (intro w9 hSw; (try dsimp only at hSw); go_simp; try with_reducible rfl)
  try simp only [Act.put, List.setIfInBounds_toArray, List.set_cons_zero, List.set_cons_succ]
  refine wpAnyH_take (i := 1) (oi := ({ dst := some 90, op := Op.move (Operand.tmp 16), type := 29, pos := "outright.go:185", after := #[], guard := none })) (v := ?_) rfl (by kernel_rfl) (by kernel_rfl) (by kernel_rfl) (fun _ _ _ h => h) (Or.inl ⟨by rfl, ?_⟩) (by assumption) ?_
  rotate_left 1
  · (intro w9 hSw; (try dsimp only at hSw); go_simp; try with_reducible rfl)
  try simp only [Act.put, List.setIfInBounds_toArray, List.set_cons_zero, List.set_cons_succ]
  refine wpAnyH_take (i := 2) (oi := ({ dst := some 91, op := Op.build 40 #[(0, Operand.const (Value.int IntKind.u8 8)), (1, Operand.tmp 90)], type := 40, pos := "outright.go:185", after := #[{ on := 1, ground := Ground.data }], guard := none })) (v := ?_) rfl (by kernel_rfl) (by kernel_rfl) (by kernel_rfl) (fun _ _ _ h => h) (Or.inl ⟨by rfl, ?_⟩) (by assumption) ?_
  rotate_left 1
  · (intro w9 hSw; (try dsimp only at hSw); go_simp; try with_reducible rfl)
  try simp only [Act.put, List.setIfInBounds_toArray, List.set_cons_zero, List.set_cons_succ]
  refine wpAnyH_take (i := 3) (oi := ({ dst := some 92, op := Op.binOp BinOp.neq 40 (Operand.tmp 89) (Operand.tmp 91) 40, type := 4, pos := "outright.go:185", after := #[{ on := 0, ground := Ground.data }, { on := 2, ground := Ground.data }], guard := none })) (v := ?_) rfl (by kernel_rfl) (by kernel_rfl) (by kernel_rfl) (fun _ _ _ h => h) (Or.inl ⟨by rfl, ?_⟩) (by assumption) ?_
  rotate_left 1
  · (intro w9 hSw; (try dsimp only at hSw); go_simp; try with_reducible rfl)
  try simp only [Act.put, List.setIfInBounds_toArray, List.set_cons_zero, List.set_cons_succ]
  refine wpAnyH_take (i := 4) (oi := ({ dst := some 93, op := Op.move (Operand.tmp 92), type := 4, pos := "outright.go:185", after := #[{ on := 3, ground := Ground.data }], guard := none })) (v := ?_) rfl (by kernel_rfl) (by kernel_rfl) (by kernel_rfl) (fun _ _ _ h => h) (Or.inl ⟨by rfl, ?_⟩) (by assumption) ?_
  rotate_left 1
  · (intro w9 hSw; (try dsimp only at hSw); go_simp; try with_reducible rfl)
  try simp only [Act.put, List.setIfInBounds_toArray, List.set_cons_zero, List.set_cons_succ]
  refine wpAnyH_take (i := 5) (oi := ({ dst := some 94, op := Op.load 38 (Operand.tmp 14), type := 38, pos := "outright.go:185", after := #[{ on := 4, ground := Ground.guard }], guard := some (4, false) })) (v := ?_) rfl (by kernel_rfl) (by kernel_rfl) (by kernel_rfl) (fun _ _ _ h => h) (Or.inl ⟨by rfl, ?_⟩) (by assumption) ?_
  rotate_left 1
  · (intro w9 hSw; (try dsimp only at hSw); go_simp; try with_reducible rfl)
  try simp only [Act.put, List.setIfInBounds_toArray, List.set_cons_zero, List.set_cons_succ]
  refine wpAnyH_take (i := 6) (oi := ({ dst := some 95, op := Op.move (Operand.tmp 16), type := 29, pos := "outright.go:185", after := #[{ on := 4, ground := Ground.guard }], guard := some (4, false) })) (v := ?_) rfl (by kernel_rfl) (by kernel_rfl) (by kernel_rfl) (fun _ _ _ h => h) (Or.inl ⟨by rfl, ?_⟩) (by assumption) ?_
  rotate_left 1
  · (intro w9 hSw; (try dsimp only at hSw); go_simp; try with_reducible rfl)
  try simp only [Act.put, List.setIfInBounds_toArray, List.set_cons_zero, List.set_cons_succ]
  refine wpAnyH_take (i := 8) (oi := ({ dst := some 97, op := Op.move (Operand.tmp 7), type := 33, pos := "outright.go:185", after := #[{ on := 4, ground := Ground.guard }], guard := some (4, false) })) (v := ?_) rfl (by kernel_rfl) (by kernel_rfl) (by kernel_rfl) (fun _ _ _ h => h) (Or.inl ⟨by rfl, ?_⟩) (by assumption) ?_
  rotate_left 1
  · (intro w9 hSw; (try dsimp only at hSw); go_simp; try with_reducible rfl)
  try simp only [Act.put, List.setIfInBounds_toArray, List.set_cons_zero, List.set_cons_succ]
  refine wpAnyH_ready (rs := [7]) (by kernel_rfl) (by simp) ?_
  refine AllReadyH.cons (o := ({ dst := some 96, op := Op.call { callee := Callee.value (Operand.func 33), args := #[Operand.tmp 95], argTypes := #[29] }, type := 9, pos := "outright.go:185", after := #[{ on := 6, ground := Ground.data }, { on := 4, ground := Ground.chain }, { on := 4, ground := Ground.guard }], guard := some (4, false) })) rfl (fun K hK => ?_) AllReadyH.nil
  go_simp
  refine (X2.out _ (tab_below (K10.out.tab HT2.out) (fr_new HB11.out hd16))).mono ?_
  rintro e V16 ⟨rfl, b16⟩
  have hb16 := fr_new hd16 b16
  refine hK.out _ _ (KEEP16.out _ hb16) (fun hHeld => ?_)
  clear hK K
  try simp only [Act.put, List.setIfInBounds_toArray, List.set_cons_zero, List.set_cons_succ]
  refine wpAnyH_take (i := 9) (oi := ({ dst := some 98, op := Op.build 38 #[(0, Operand.const (Value.string { data := #[107] })), (1, Operand.tmp 96), (2, Operand.tmp 97), (3, Operand.const (Value.int IntKind.u64 3)), (4, Operand.const (Value.int IntKind.i64 9))], type := 38, pos := "outright.go:185", after := #[{ on := 7, ground := Ground.data }, { on := 8, ground := Ground.data }, { on := 4, ground := Ground.guard }], guard := some (4, false) })) (v := ?_) rfl (by kernel_rfl) (by kernel_rfl) (by kernel_rfl) (fun _ _ _ h => h) (Or.inl ⟨by rfl, ?_⟩) (by assumption) ?_
  rotate_left 1
  · (intro w9 hSw; (try dsimp only at hSw); go_simp; try with_reducible rfl)
  try simp only [Act.put, List.setIfInBounds_toArray, List.set_cons_zero, List.set_cons_succ]
  refine wpAnyH_take (i := 10) (oi := ({ dst := some 99, op := Op.binOp BinOp.neq 38 (Operand.tmp 94) (Operand.tmp 98) 38, type := 4, pos := "outright.go:185", after := #[{ on := 5, ground := Ground.data }, { on := 9, ground := Ground.data }, { on := 4, ground := Ground.guard }], guard := some (4, false) })) (v := ?_) rfl (by kernel_rfl) (by kernel_rfl) (by kernel_rfl) (fun _ _ _ h => h) (Or.inl ⟨by rfl, ?_⟩) (by assumption) ?_
  rotate_left 1
  · (intro w9 hSw; (try dsimp only at hSw); go_simp; try with_reducible rfl)
  try simp only [Act.put, List.setIfInBounds_toArray, List.set_cons_zero, List.set_cons_succ]
  refine wpAnyH_take (i := 11) (oi := ({ dst := some 100, op := Op.pick (Operand.tmp 93) (Operand.const (Value.bool true)) (Operand.tmp 99), type := 4, pos := "outright.go:185", after := #[{ on := 4, ground := Ground.data }, { on := 10, ground := Ground.data }], guard := none })) (v := ?_) rfl (by kernel_rfl) (by kernel_rfl) (by kernel_rfl) (fun _ _ _ h => h) (Or.inl ⟨by rfl, ?_⟩) (by assumption) ?_
  rotate_left 1
  · (intro w9 hSw; (try dsimp only at hSw); go_simp; try with_reducible rfl)
  try simp only [Act.put, List.setIfInBounds_toArray, List.set_cons_zero, List.set_cons_succ]
  refine wpAnyH_done (by kernel_rfl) ?_ _
  have K11 := Lib.hid (K10.out.new (fr_new HB11.out hb16))
  clear ga gi hHeld hb16 b16 hd16 K10 P4_10 P10_10 P11_10 P13_10 P14_10
  go_wp2_with (first
    | (go_at_call 28; refine (K11.out.does (c := ⟨3, sK, tx, 0, 0, 0, 0⟩) (x := 0) O4.out (by decide) HT2.out (by decide)).mono ?_; rintro e V11 ⟨rfl, v11, l, ap⟩; rw [E4.out] at l ⊢; have k := l; clear K11 ; have K12 := Lib.hid k; clear k; clear l ap)
    | (go_at_call 28; refine (K12.out.does (c := calN 9 sK ⟨#[]⟩) (x := 0) O5.out (by decide) HT2.out (by decide)).mono ?_; rintro e V12 ⟨rfl, v12, l, ap⟩; rw [E5.out] at l ⊢; have k := l; clear K12 ; have K13 := Lib.hid k; clear k; clear l ap)
    | (have _ := K13; (with_reducible refine at_wp ?_); refine wpList_alloc_bk rfl 40 (ansC Ans.none) alloc_an rfl ?_; intro A17 q17 hb17; have LL13 := Lib.hid K13.out; clear K13)
    | ((with_reducible refine at_wp ?_); refine wpList_store_bk rfl 40 (.tmp 17) (.tmp 107) rfl q17 0 (ansC Ans.none) (ansC ⟨8, incrF p 0, Itm.none⟩) (ansC ⟨8, incrF p 0, Itm.none⟩) hb17.bk (Nat.le_refl 8) rfl info_an (ansC_one _) rfl rfl ?_; intro B17 hs ks; have k := (LL13.out.new hb17.below).st ks (LL13.out.fresh hb17) (hb17.at LL13.out.below); have p17 := (show Ap _ _ _ q17 (ansC ⟨8, incrF p 0, Itm.none⟩) from ⟨hs, LL13.out.fresh hb17⟩); clear LL13 hb17 hs ks ; have K14 := Lib.hid k; clear k; have P17_14 := Lib.hid p17; clear p17)
    | (go_at_call 34; refine (HP.out _).mono ?_; rintro e VP ⟨rfl, b⟩; have k := K14.out.new b; have p17 := P17_14.out.new b; clear K14 P17_14 b; have K15 := Lib.hid k; have P17_15 := Lib.hid p17; clear k p17)
    | (go_at_call 28; refine (K15.out.does (c := calN 7 sK ⟨#[]⟩) (x := 0) O6.out (by decide) HT2.out (by decide)).mono ?_; rintro e V15 ⟨rfl, v15, l, ap⟩; rw [E6.out] at l ⊢; have k := l; have p17 := ap _ _ P17_15.out; clear K15 P17_15; have K16 := Lib.hid k; clear k; have P17_16 := Lib.hid p17; clear p17; clear l ap)
    | (have _ := K16; (with_reducible refine at_wp ?_); refine wpList_alloc_bk rfl 40 (ansC Ans.none) alloc_an rfl ?_; intro A20 q20 hb20; have LL16 := Lib.hid K16.out; clear K16)
    | ((with_reducible refine at_wp ?_); refine wpList_store_bk rfl 40 (.tmp 20) (.tmp 115) rfl q20 0 (ansC Ans.none) (ansC (Ans.of 6)) (ansC (Ans.of 6)) hb20.bk (Nat.le_refl 8) rfl info_an (ansC_one _) rfl rfl ?_; intro B20 hs ks; have k := (LL16.out.new hb20.below).st ks (LL16.out.fresh hb20) (hb20.at LL16.out.below); have p17 := (P17_16.out.new hb20.below).st ks (by have e1 := P17_16.out.bk.lt; have e2 := hb20.eq; omega); have p20 := (show Ap _ _ _ q20 (ansC (Ans.of 6)) from ⟨hs, LL16.out.fresh hb20⟩); clear LL16 hb20 hs ks P17_16; have K17 := Lib.hid k; clear k; have P17_17 := Lib.hid p17; clear p17; have P20_17 := Lib.hid p20; clear p20)
    | (go_at_call 28; refine (K17.out.does (c := calN 7 sK ⟨#[]⟩) (x := 0) O6.out (by decide) HT2.out (by decide)).mono ?_; rintro e V17 ⟨rfl, v17, l, ap⟩; rw [E7.out] at l ⊢; have k := l; have p17 := ap _ _ P17_17.out; have p20 := ap _ _ P20_17.out; clear K17 P17_17 P20_17; have K18 := Lib.hid k; clear k; have P17_18 := Lib.hid p17; clear p17; have P20_18 := Lib.hid p20; clear p20; clear l ap)
    | (have _ := K18; (with_reducible refine at_wp ?_); refine wpList_alloc_bk rfl 40 (ansC Ans.none) alloc_an rfl ?_; intro A21 q21 hb21; have LL18 := Lib.hid K18.out; clear K18)
    | ((with_reducible refine at_wp ?_); refine wpList_store_bk rfl 40 (.tmp 21) (.tmp 118) rfl q21 0 (ansC Ans.none) (ansC (Ans.of 4)) (ansC (Ans.of 4)) hb21.bk (Nat.le_refl 8) rfl info_an (ansC_one _) rfl rfl ?_; intro B21 hs ks; have k := (LL18.out.new hb21.below).st ks (LL18.out.fresh hb21) (hb21.at LL18.out.below); have p17 := (P17_18.out.new hb21.below).st ks (by have e1 := P17_18.out.bk.lt; have e2 := hb21.eq; omega); have p20 := (P20_18.out.new hb21.below).st ks (by have e1 := P20_18.out.bk.lt; have e2 := hb21.eq; omega); have p21 := (show Ap _ _ _ q21 (ansC (Ans.of 4)) from ⟨hs, LL18.out.fresh hb21⟩); clear LL18 hb21 hs ks P17_18 P20_18; have K19 := Lib.hid k; clear k; have P17_19 := Lib.hid p17; clear p17; have P20_19 := Lib.hid p20; clear p20; have P21_19 := Lib.hid p21; clear p21; have s17 := P17_19.out.bk.at_ 0 _ rfl; have s20 := P20_19.out.bk.at_ 0 _ rfl; have s21 := P21_19.out.bk.at_ 0 _ rfl)
    | (go_at_call 22; refine (Countw K19.out.mp).mono ?_; rintro e WC ⟨rfl, rfl⟩)
    | (go_at_call 10; refine (lives36 _ (K19.out.tab HT2.out)).mono ?_; rintro e WL ⟨rfl, bl⟩))
  go_ret
  exact ⟨rfl, fr_new HU.out (fr_new K19.out.below bl)⟩
end Go.Proofs.YtmjklkcjinfmaaaDoor
