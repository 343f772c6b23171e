/- MapsVoid. -/
import Derived.Test.YtmjklkcjinfmaaaDoorMr8
namespace Go.Proofs.YtmjklkcjinfmaaaDoor
open Go.RowKit Go.Maps
set_option linter.unusedVariables false
set_option linter.unusedSimpArgs false
theorem it_cells2 {w : World} {q : Nat} {x : Itm} (h : Bk w q (itC x)) : w.cell? ⟨q, 0, none⟩ = some (.string x.k) ∧ w.cell? ⟨q, 1, none⟩ = some (.string x.v) ∧ w.cell? ⟨q, 2, none⟩ = some (.int .u32 x.fl) ∧ w.cell? ⟨q, 3, none⟩ = some (.int .u64 x.id) ∧ w.cell? ⟨q, 4, none⟩ = some (.int .i64 x.dies) ∧ w.cell? ⟨q, 5, none⟩ = some (.int .i64 x.gen) := ⟨h.at_ 0 _ rfl, h.at_ 1 _ rfl, h.at_ 2 _ rfl, h.at_ 3 _ rfl, h.at_ 4 _ rfl, h.at_ 5 _ rfl⟩
theorem cld_all {w : World} {q : Nat} {x : Cld} (h : Bk w q (cldC x)) : w.cell? ⟨q, 0, none⟩ = some (.int .i64 x.th) ∧ w.cell? ⟨q, 1, none⟩ = some (.int .u8 x.c.verb) ∧ w.cell? ⟨q, 2, none⟩ = some (.string x.c.key) ∧ w.cell? ⟨q, 3, none⟩ = some (.string x.c.val) ∧ w.cell? ⟨q, 4, none⟩ = some (.int .u32 x.c.fl) ∧ w.cell? ⟨q, 5, none⟩ = some (.int .i64 x.c.exp) ∧ w.cell? ⟨q, 6, none⟩ = some (.int .u64 x.c.id) ∧ w.cell? ⟨q, 7, none⟩ = some (.int .u64 x.c.by_) ∧ w.cell? ⟨q, 8, none⟩ = some (.int .i64 x.fr) ∧ w.cell? ⟨q, 9, none⟩ = some (.int .i64 x.to) ∧ w.cell? ⟨q, 10, none⟩ = some (.int .u8 x.a.kind) ∧ w.cell? ⟨q, 11, none⟩ = some (.int .u64 x.a.num) ∧ w.cell? ⟨q, 12, none⟩ = some (.string x.a.item.k) ∧ w.cell? ⟨q, 13, none⟩ = some (.string x.a.item.v) ∧ w.cell? ⟨q, 14, none⟩ = some (.int .u32 x.a.item.fl) ∧ w.cell? ⟨q, 15, none⟩ = some (.int .u64 x.a.item.id) ∧ w.cell? ⟨q, 16, none⟩ = some (.int .i64 x.a.item.dies) ∧ w.cell? ⟨q, 17, none⟩ = some (.int .i64 x.a.item.gen) ∧ w.cell? ⟨q, 18, none⟩ = some (.int .u64 x.e) ∧ w.cell? ⟨q, 19, none⟩ = some (.int .i64 x.pt) := ⟨h.at_ 0 _ rfl, h.at_ 1 _ rfl, h.at_ 2 _ rfl, h.at_ 3 _ rfl, h.at_ 4 _ rfl, h.at_ 5 _ rfl, h.at_ 6 _ rfl, h.at_ 7 _ rfl, h.at_ 8 _ rfl, h.at_ 9 _ rfl, h.at_ 10 _ rfl, h.at_ 11 _ rfl, h.at_ 12 _ rfl, h.at_ 13 _ rfl, h.at_ 14 _ rfl, h.at_ 15 _ rfl, h.at_ 16 _ rfl, h.at_ 17 _ rfl, h.at_ 18 _ rfl, h.at_ 19 _ rfl⟩
set_option maxHeartbeats 16000000 in
set_option maxRecDepth 100000 in
theorem voidw (d : Cld) (it : Itm) (w : World) (hc : CalOk d.c) (hx : 0 ≤ d.e ∧ d.e < 18446744073709551616) (hi : it.k.size ≤ maxLen) (htab : Lib.TabIs Tryd.prog w "internal/strconv.uint64pow10" .u64 Lib.pow10Tab) :
    Calls Tryd.prog 4 #[.agg (cldC d).toArray, .agg (itC it).toArray] w fun e w' => e = .returned (.bool true) ∧ Below w.heap.size w w' := by
  have HC := Lib.hid hc
  have HX := Lib.hid hx
  have HI := Lib.hid hi
  have HT := Lib.hid htab
  obtain ⟨an, hga⟩ : ∃ y, gAns Mst.new d.c d.e = y := ⟨_, rfl⟩
  obtain ⟨gb, hgb⟩ : ∃ y, (Mst.new.gives d.c d.e).isSome = y := ⟨_, rfl⟩
  have HGA := Lib.hid hga
  have HGB := Lib.hid hgb
  have hzi : ∀ W, (binOp .neq 38 (.agg (itC Itm.none).toArray) (.agg #[.string ⟨#[]⟩, .string ⟨#[]⟩, .int .u32 0, .int .u64 0, .int .i64 0, .int .i64 0])).run Tryd.prog W = .ok (.bool false) W := fun W => by
    have := it_neq Itm.none Itm.none W
    rw [decide_eq_false (by simp)] at this
    exact this
  have hza : ∀ W, (binOp .neq 40 (.agg (ansC Ans.none).toArray) (.agg #[.int .u8 0, .int .u64 0, .string ⟨#[]⟩, .string ⟨#[]⟩, .int .u32 0, .int .u64 0, .int .i64 0, .int .i64 0])).run Tryd.prog W = .ok (.bool false) W := fun W => by
    have := an_neq Ans.none Ans.none W
    rw [decide_eq_false (by simp)] at this
    exact this
  have hqa : ∀ W, (binOp .eql 40 (.agg (ansC an).toArray) (.agg (ansC an).toArray)).run Tryd.prog W = .ok (.bool true) W := fun W => by
    have := an_eql an an W
    rw [decide_eq_true rfl] at this
    exact this
  have HQA := Lib.hid hqa
  clear hc hx hi htab hga hgb hqa
  go_enter Tryd.func4, Tryd.ntmps4
  go_upto_if 20 with (first
    | ((with_reducible refine at_wq ?_); refine wpList_box_bk rfl 42 (.tmp 0) rfl (cldC d) rfl ?_; intro U1 q2 u1)
    | ((with_reducible refine at_wq ?_); refine wpList_box_bk rfl 38 (.tmp 1) rfl (itC it) rfl ?_; intro U2 q3 u2; have HF2 := Lib.hid (fr_new u1.below u2.below); have HD2 := Lib.hid (u1.bk.new u2.below); have HI2 := Lib.hid u2.bk; have HQ23 := Lib.hid (show q2 < U2.heap.size ∧ q3 < U2.heap.size from ⟨by have e1 := u1.bk.lt; have e2 := u2.below.size; omega, u2.bk.lt⟩); clear u1 u2)
    | ((with_reducible refine at_wq ?_); refine wpList_load_bk rfl 42 (.tmp 2) rfl q2 0 (cldC d) [.int .i64 d.th, .int .u8 d.c.verb, .string d.c.key, .string d.c.val, .int .u32 d.c.fl, .int .i64 d.c.exp, .int .u64 d.c.id, .int .u64 d.c.by_, .int .i64 d.fr, .int .i64 d.to, .int .u8 d.a.kind, .int .u64 d.a.num, .string d.a.item.k, .string d.a.item.v, .int .u32 d.a.item.fl, .int .u64 d.a.item.id, .int .i64 d.a.item.dies, .int .i64 d.a.item.gen, .int .u64 d.e, .int .i64 d.pt] HD2.out rfl _ Tryd.underlying42 rfl info_hc rfl ?_)
    | ((with_reducible refine at_wq ?_); refine wpList_load_bk rfl 38 (.tmp 3) rfl q3 0 (itC it) [.string it.k, .string it.v, .int .u32 it.fl, .int .u64 it.id, .int .i64 it.dies, .int .i64 it.gen] HI2.out rfl _ Tryd.underlying38 rfl info_it rfl ?_)
    | (go_at_call 9; refine (greatw (some ⟨_, 0, none⟩) 1 1 [⟨0, d, it⟩] _ rfl (by decide) (by decide) (rd_ac _ d it _)).mono ?_; rintro e1 W0 ⟨b, rfl, -, b0⟩))
  have HB0 := Lib.hid (show Below U2.heap.size U2 W0 from fr_new ((Below.refl _ _).alloc (Nat.le_refl _) _) b0)
  have HF0 := Lib.hid (fr_new HF2.out HB0.out)
  have HD0 := Lib.hid (HD2.out.new HB0.out)
  have HI0 := Lib.hid (HI2.out.new HB0.out)
  clear b0
  cases b with
  | true =>
    go_wp2_with (go_at_call 10; refine (lives36 _ (tab_below HT.out HF0.out)).mono ?_; rintro e1 WL ⟨rfl, bl⟩)
    go_ret
    exact ⟨rfl, fr_new HF0.out bl⟩
  | false =>
    as_aux_lemma =>
      go_upto_region 6 with (first
        | ((with_reducible refine at_wq ?_); refine wpList_alloc_bk rfl 57 (mapC none Mst.new) alloc_mm rfl ?_; intro V1 q6 v1)
        | ((with_reducible refine at_wq ?_); refine wpList_box_bk rfl 31 (.tmp 22) rfl (mapR none 0 0 0 0) rfl ?_; intro V2 q7 v2))
      have hlow : ∀ k, MpB q6 none k → w.heap.size ≤ k := fun k s => by
        rcases s with s | s
        · subst s; exact v1.at HF0.out
        · cases s
      have hnr : ¬ MpB q6 none q7 := fun s => by
        rcases s with s | s
        · have e1 := v2.eq; have e2 := v1.bk.lt; omega
        · cases s
      have HQ67 := Lib.hid (show U2.heap.size ≤ q6 ∧ q6 < q7 from ⟨by have e1 := v1.eq; have e2 := HB0.out.size; omega, by have e1 := v2.eq; have e2 := v1.bk.lt; omega⟩)
      have hp0 : Pr w V2 q6 none q7 Mst.new 0 := ⟨⟨⟨v1.bk.new v2.below, .inl ⟨rfl, rfl⟩⟩, MOk.new, hlow, fr_new (fr_new HF0.out v1.below) v2.below, Nat.le_refl _⟩, ⟨⟨none, 0, 0, v2.bk, RL.nil, fun g o s e => by cases e⟩, hnr⟩, v2.at (fr_new HF0.out v1.below)⟩
      have HP2 := Lib.hid hp0
      have HBV := Lib.hid (fr_new v1.below v2.below)
      have HD2' := Lib.hid (HD0.out.new HBV.out)
      have HI2' := Lib.hid (HI0.out.new HBV.out)
      clear hp0 v1 v2 hlow hnr
      have c18 := HD2'.out.at_ 18 _ rfl
      go_upto_region 7 with (first
        | ((with_reducible refine at_wq ?_); refine wpList_load_bk rfl 35 (.tmp 26) rfl q2 1 (cldC d) (calC d.c) HD2'.out rfl _ Tryd.underlying35 rfl info_ca rfl ?_)
        | (go_at_call 12; refine (nlGives (c := d.c) (x := d.e)).mono ?_; rintro e1 UA ⟨rfl, bA⟩)
        | ((with_reducible refine at_wq ?_); refine wpList_alloc_bk rfl 40 (ansC Ans.none) alloc_an rfl ?_; intro UB q8 hA)
        | ((with_reducible refine at_wq ?_); refine wpList_store_bk rfl 40 (.tmp 8) (.tmp 31) rfl q8 0 (ansC Ans.none) (ansC Ans.none) (ansC Ans.none) hA.bk (Nat.le_refl 8) rfl info_an (ansC_one _) rfl rfl ?_; intro V3 hE kE))
      have HF3 := Lib.hid (show Below V2.heap.size V2 V3 from fr_set (fr_new bA hA.below) kE (hA.at bA))
      have HP3 := Lib.hid (HP2.out.new HF3.out)
      have HD3 := Lib.hid (HD2'.out.new HF3.out)
      have HI3 := Lib.hid (HI2'.out.new HF3.out)
      have H83 := Lib.hid hE
      clear bA hA hE kE c18
      have c2 := HD3.out.at_ 2 _ rfl
      go_upto_region 8 with (first
        | (go_at_call 20; refine (nlAt (k := d.c.key)).mono ?_; rintro e1 UA ⟨rfl, bA⟩)
        | ((with_reducible refine at_wq ?_); refine wpList_alloc_bk rfl 38 (itC Itm.none) alloc_it rfl ?_; intro UB q10 hA)
        | ((with_reducible refine at_wq ?_); refine wpList_store_bk rfl 38 (.tmp 10) (.tmp 39) rfl q10 0 (itC Itm.none) (itC Itm.none) (itC Itm.none) hA.bk (Nat.le_refl 6) rfl info_it (itC_one _) rfl rfl ?_; intro V4 hE kE))
      have HF4 := Lib.hid (show Below V3.heap.size V3 V4 from fr_set (fr_new bA hA.below) kE (hA.at bA))
      have HP4 := Lib.hid (HP3.out.new HF4.out)
      have HD4 := Lib.hid (HD3.out.new HF4.out)
      have HI4 := Lib.hid (HI3.out.new HF4.out)
      have H84 := Lib.hid (H83.out.new HF4.out)
      as_aux_lemma =>
        have HE4 := Lib.hid hE
        clear bA hA hE kE c2
        go_upto_region 10 with (first
          | ((with_reducible refine at_wqg ?_); refine wpList_load_gd (by rfl) 40 (.tmp 8) rfl q8 (ansC Ans.none) H84.out _ Tryd.underlying40 rfl info_an rfl ?_)
          | ((with_reducible refine at_wqg ?_); refine wpList_load_gd (by rfl) 38 (.tmp 10) rfl q10 (itC Itm.none) HE4.out _ Tryd.underlying38 rfl info_it rfl ?_)
          | ((with_reducible refine at_wqg ?_); refine wpList_load_gd (by rfl) 42 (.tmp 2) rfl q2 (cldC d) HD4.out _ Tryd.underlying42 rfl info_hc rfl ?_)
          | ((with_reducible refine at_wqg ?_); refine wpList_load_gd (by rfl) 38 (.tmp 3) rfl q3 (itC it) HI5.out _ Tryd.underlying38 rfl info_it rfl ?_)
          | (go_at_call 17; refine (nlFits (d := d)).mono ?_; rintro e8 V5 ⟨rfl, bF⟩; have HF5 := Lib.hid bF; have HP5 := Lib.hid (HP4.out.new bF); have HD5 := Lib.hid (HD4.out.new bF); have HI5 := Lib.hid (HI4.out.new bF); clear bF)
          | (go_at_call 15; refine (nlDrop (it := it)).mono ?_; rintro e8 V6 ⟨rfl, bG⟩; have HF6 := Lib.hid bG; have HP6 := Lib.hid (HP5.out.new bG); have HD6 := Lib.hid (HD5.out.new bG); have HI6 := Lib.hid (HI5.out.new bG); clear bG; have c18 := HD6.out.at_ 18 _ rfl)
          | (go_at_call 22; refine (nlCount).mono ?_; rintro e8 Y ⟨rfl, rfl⟩)
          | (go_at_call 23; refine (nlEpoch).mono ?_; rintro e8 Y ⟨rfl, rfl⟩)
          | (go_at_call 24; refine (nlIds).mono ?_; rintro e8 Y ⟨rfl, rfl⟩))
        as_aux_lemma =>
          go_upto_region 11 with (first
            | ((with_reducible refine at_wq ?_); refine wpList_load_bk rfl 35 (.tmp 81) rfl q2 1 (cldC d) (calC d.c) HD6.out rfl _ Tryd.underlying35 rfl info_ca rfl ?_)
            | (go_at_call 12; refine (Givesw HP6.out.lv.mp HP6.out.lv.ok HC.out HX.out (HP6.out.lv.tab HT.out)).mono ?_; rintro e8 UA ⟨rfl, bA⟩; rw [HGA.out, HGB.out])
            | ((with_reducible refine at_wq ?_); refine wpList_alloc_bk rfl 40 (ansC Ans.none) alloc_an rfl ?_; intro UB q12 hA)
            | ((with_reducible refine at_wq ?_); refine wpList_store_bk rfl 40 (.tmp 12) (.tmp 86) rfl q12 0 (ansC Ans.none) (ansC an) (ansC an) hA.bk (Nat.le_refl 8) rfl info_an (ansC_one _) rfl rfl ?_; intro V7 hE kE))
          have HF7 := Lib.hid (show Below V6.heap.size V6 V7 from fr_set (fr_new bA hA.below) kE (hA.at bA))
          have HP7 := Lib.hid (HP6.out.new HF7.out)
          have HD7 := Lib.hid (HD6.out.new HF7.out)
          have HI7 := Lib.hid (HI6.out.new HF7.out)
          have HQ12 := Lib.hid (show V6.heap.size ≤ q12 from hA.at bA)
          have H127 := Lib.hid hE
          clear bA hA hE kE c18
          have c18 := HD7.out.at_ 18 _ rfl
          go_upto_region 12 with (first
            | ((with_reducible refine at_wq ?_); refine wpList_load_bk rfl 35 (.tmp 90) rfl q2 1 (cldC d) (calC d.c) HD7.out rfl _ Tryd.underlying35 rfl info_ca rfl ?_)
            | (go_at_call 13; refine (HP7.out.gives HC.out HX.out (by decide)).mono ?_; rintro e8 UA ⟨rfl, bA⟩; rw [HGA.out, HGB.out])
            | ((with_reducible refine at_wq ?_); refine wpList_alloc_bk rfl 40 (ansC Ans.none) alloc_an rfl ?_; intro UB q14 hA)
            | ((with_reducible refine at_wq ?_); refine wpList_store_bk rfl 40 (.tmp 14) (.tmp 95) rfl q14 0 (ansC Ans.none) (ansC an) (ansC an) hA.bk (Nat.le_refl 8) rfl info_an (ansC_one _) rfl rfl ?_; intro V8 hE kE))
          have HF8 := Lib.hid (show Below V7.heap.size V7 V8 from fr_set (fr_new bA hA.below) kE (hA.at bA))
          have HP8 := Lib.hid (HP7.out.new HF8.out)
          have HD8 := Lib.hid (HD7.out.new HF8.out)
          have HI8 := Lib.hid (HI7.out.new HF8.out)
          have H128 := Lib.hid (H127.out.new HF8.out)
          have HQ14 := Lib.hid (show V7.heap.size ≤ q14 from hA.at bA)
          have H148 := Lib.hid hE
          clear bA hA hE kE c18
          as_aux_lemma =>
            have hdr : Below V8.heap.size V8 V8.drew := (Below.refl _ _).drew
            have HPD := Lib.hid (HP8.out.new hdr)
            have HDD := Lib.hid (HD8.out.new hdr)
            have HID := Lib.hid (HI8.out.new hdr)
            have H12D := Lib.hid (H128.out.new hdr)
            have H14D := Lib.hid (H148.out.new hdr)
            have HQN := Lib.hid (show (¬ MpB q6 none q12 ∧ ¬ MpB q6 none q14 ∧ ¬ MpB q6 none q3 ∧ ¬ MpB q6 none q2) ∧ q12 ≠ q7 ∧ q14 ≠ q7 ∧ q3 ≠ q7 ∧ q2 ≠ q7 from by
              have e1 := HP6.out.lv.mp.bk.lt
              have e2 := HP6.out.rm.lt
              have e3 := HQ12.out
              have e4 := HQ14.out
              have e5 := HF7.out.size
              have e6 := HQ23.out
              have e7 := HQ67.out
              have hm : ∀ g, g ≠ q6 → ¬ MpB q6 none g := fun g h s => by
                rcases s with s | s
                · exact h s
                · cases s
              exact ⟨⟨hm _ (by omega), hm _ (by omega), hm _ (by omega), hm _ (by omega)⟩, by omega, by omega, by omega, by omega⟩)
            have KM := Lib.hid (fun (X Y : World) (mv : Option Nat) (hmv : ∀ g, g = q12 ∨ g = q14 ∨ g = q3 ∨ g = q2 → ¬ MpB q6 mv g) (h : Bk X q12 (ansC an) ∧ Bk X q14 (ansC an) ∧ Bk X q3 (itC it) ∧ Bk X q2 (cldC d)) (k : Keeps (MpB q6 mv) X Y) => (show Bk Y q12 (ansC an) ∧ Bk Y q14 (ansC an) ∧ Bk Y q3 (itC it) ∧ Bk Y q2 (cldC d) from ⟨h.1.keep k (hmv _ (.inl rfl)), h.2.1.keep k (hmv _ (.inr (.inl rfl))), h.2.2.1.keep k (hmv _ (.inr (.inr (.inl rfl)))), h.2.2.2.keep k (hmv _ (.inr (.inr (.inr rfl))))⟩))
            have KR := Lib.hid (fun (X Y : World) (h : Bk X q12 (ansC an) ∧ Bk X q14 (ansC an) ∧ Bk X q3 (itC it) ∧ Bk X q2 (cldC d)) (k : Keeps (fun j => j = q7) X Y) => (show Bk Y q12 (ansC an) ∧ Bk Y q14 (ansC an) ∧ Bk Y q3 (itC it) ∧ Bk Y q2 (cldC d) from ⟨h.1.keep k HQN.out.2.1, h.2.1.keep k HQN.out.2.2.1, h.2.2.1.keep k HQN.out.2.2.2.1, h.2.2.2.keep k HQN.out.2.2.2.2⟩))
            have hs0 : Bk V8.drew q12 (ansC an) ∧ Bk V8.drew q14 (ansC an) ∧ Bk V8.drew q3 (itC it) ∧ Bk V8.drew q2 (cldC d) := ⟨H12D.out, H14D.out, HID.out, HDD.out⟩
            obtain ⟨b1, hb1⟩ : ∃ b, (Mst.new.drop it).1 = b := ⟨_, rfl⟩
            have HB1 := Lib.hid hb1
            obtain ⟨S1, hS1⟩ : ∃ T, (Mst.new.drop it).2 = T := ⟨_, rfl⟩
            have HS1 := Lib.hid hS1
            obtain ⟨b2, hb2⟩ : ∃ b, (S1.fits d.c d.e d.a).1 = b := ⟨_, rfl⟩
            have HB2 := Lib.hid hb2
            have HGE := Lib.hid (show q6 < V6.heap.size ∧ (∀ g, g = q12 ∨ g = q14 ∨ g = q3 ∨ g = q2 → g < V8.heap.size ∧ ¬ MpB q6 none g) from ⟨HP6.out.lv.mp.bk.lt, by
              rintro g (rfl | rfl | rfl | rfl)
              · exact ⟨H128.out.lt, HQN.out.1.1⟩
              · exact ⟨H148.out.lt, HQN.out.1.2.1⟩
              · exact ⟨HI8.out.lt, HQN.out.1.2.2.1⟩
              · exact ⟨HD8.out.lt, HQN.out.1.2.2.2⟩⟩)
            have HV8 := Lib.hid hdr.size
            have HS0 := Lib.hid hs0
            clear hb1 hS1 hb2 hdr hs0
            refine wp_region_held_drew (S := fun X => Bk X q12 (ansC an) ∧ Bk X q14 (ansC an) ∧ Bk X q3 (itC it) ∧ Bk X q2 (cldC d)) (by kernel_rfl) (HS0.out) (fun hHeld => ?_)
            refine wpAnyH_take (i := 0) (oi := ({ dst := some 97, op := Op.load 40 (Operand.tmp 12), type := 40, pos := "law.go:95", after := #[], guard := none })) (v := (.agg (ansC an).toArray)) rfl (by kernel_rfl) (by kernel_rfl) (by kernel_rfl) (fun _ _ _ h => h) (Or.inl ⟨by rfl, ?_⟩) (by assumption) ?_
            · (intro w9 hSw; (try dsimp only at hSw); exact exec_load_bk 40 (.tmp 12) rfl q12 (ansC an) rfl hSw.1 _ Tryd.underlying40 rfl info_an)
            try simp only [Act.put, List.setIfInBounds_toArray, List.set_cons_zero, List.set_cons_succ]
            refine wpAnyH_take (i := 1) (oi := ({ dst := some 98, op := Op.load 40 (Operand.tmp 14), type := 40, pos := "law.go:95", after := #[], guard := none })) (v := (.agg (ansC an).toArray)) rfl (by kernel_rfl) (by kernel_rfl) (by kernel_rfl) (fun _ _ _ h => h) (Or.inl ⟨by rfl, ?_⟩) (by assumption) ?_
            · (intro w9 hSw; (try dsimp only at hSw); exact exec_load_bk 40 (.tmp 14) rfl q14 (ansC an) rfl hSw.2.1 _ Tryd.underlying40 rfl info_an)
            try simp only [Act.put, List.setIfInBounds_toArray, List.set_cons_zero, List.set_cons_succ]
            refine wpAnyH_take (i := 2) (oi := ({ dst := some 99, op := Op.binOp BinOp.eql 40 (Operand.tmp 97) (Operand.tmp 98) 40, type := 4, pos := "law.go:95", after := #[{ on := 0, ground := Ground.data }, { on := 1, ground := Ground.data }], guard := none })) (v := (.bool true)) rfl (by kernel_rfl) (by kernel_rfl) (by kernel_rfl) (fun _ _ _ h => h) (Or.inl ⟨by rfl, ?_⟩) (by assumption) ?_
            · (intro w9 hSw; (try dsimp only at hSw); exact exec_binv rfl rfl rfl (by first | rfl | go_simp) (HQA.out w9))
            try simp only [Act.put, List.setIfInBounds_toArray, List.set_cons_zero, List.set_cons_succ]
            refine wpAnyH_take (i := 3) (oi := ({ dst := some 100, op := Op.move (Operand.tmp 99), type := 4, pos := "law.go:95", after := #[{ on := 2, ground := Ground.data }], guard := none })) (v := ?_) rfl (by kernel_rfl) (by kernel_rfl) (by kernel_rfl) (fun _ _ _ h => h) (Or.inl ⟨by rfl, ?_⟩) (by assumption) ?_
            rotate_left 1
            · (intro w9 hSw; (try dsimp only at hSw); go_simp; try with_reducible rfl)
            try simp only [Act.put, List.setIfInBounds_toArray, List.set_cons_zero, List.set_cons_succ]
            refine wpAnyH_take (i := 4) (oi := ({ dst := some 101, op := Op.move (Operand.tmp 13), type := 4, pos := "law.go:95", after := #[{ on := 3, ground := Ground.guard }], guard := some (3, true) })) (v := ?_) rfl (by kernel_rfl) (by kernel_rfl) (by kernel_rfl) (fun _ _ _ h => h) (Or.inl ⟨by rfl, ?_⟩) (by assumption) ?_
            rotate_left 1
            · (intro w9 hSw; (try dsimp only at hSw); go_simp; try with_reducible rfl)
            try simp only [Act.put, List.setIfInBounds_toArray, List.set_cons_zero, List.set_cons_succ]
            refine wpAnyH_take (i := 5) (oi := ({ dst := some 102, op := Op.move (Operand.tmp 15), type := 4, pos := "law.go:95", after := #[{ on := 3, ground := Ground.guard }], guard := some (3, true) })) (v := ?_) rfl (by kernel_rfl) (by kernel_rfl) (by kernel_rfl) (fun _ _ _ h => h) (Or.inl ⟨by rfl, ?_⟩) (by assumption) ?_
            rotate_left 1
            · (intro w9 hSw; (try dsimp only at hSw); go_simp; try with_reducible rfl)
            try simp only [Act.put, List.setIfInBounds_toArray, List.set_cons_zero, List.set_cons_succ]
            refine wpAnyH_take (i := 6) (oi := ({ dst := some 103, op := Op.binOp BinOp.eql 4 (Operand.tmp 101) (Operand.tmp 102) 4, type := 4, pos := "law.go:95", after := #[{ on := 4, ground := Ground.data }, { on := 5, ground := Ground.data }, { on := 3, ground := Ground.guard }], guard := some (3, true) })) (v := ?_) rfl (by kernel_rfl) (by kernel_rfl) (by kernel_rfl) (fun _ _ _ h => h) (Or.inl ⟨by rfl, ?_⟩) (by assumption) ?_
            rotate_left 1
            · (intro w9 hSw; (try dsimp only at hSw); go_simp; try with_reducible rfl)
            try simp only [Act.put, List.setIfInBounds_toArray, List.set_cons_zero, List.set_cons_succ]
            refine wpAnyH_take (i := 7) (oi := ({ dst := some 104, op := Op.pick (Operand.tmp 100) (Operand.tmp 103) (Operand.const (Value.bool false)), type := 4, pos := "law.go:95", after := #[{ on := 3, ground := Ground.data }, { on := 6, ground := Ground.data }], guard := none })) (v := ?_) rfl (by kernel_rfl) (by kernel_rfl) (by kernel_rfl) (fun _ _ _ h => h) (Or.inl ⟨by rfl, ?_⟩) (by assumption) ?_
            rotate_left 1
            · (intro w9 hSw; (try dsimp only at hSw); go_simp; try with_reducible rfl)
            try simp only [Act.put, List.setIfInBounds_toArray, List.set_cons_zero, List.set_cons_succ]
            refine wpAnyH_take (i := 8) (oi := ({ dst := some 105, op := Op.move (Operand.tmp 104), type := 4, pos := "law.go:95", after := #[{ on := 7, ground := Ground.data }, { on := 3, ground := Ground.chain }], guard := none })) (v := ?_) rfl (by kernel_rfl) (by kernel_rfl) (by kernel_rfl) (fun _ _ _ h => h) (Or.inl ⟨by rfl, ?_⟩) (by assumption) ?_
            rotate_left 1
            · (intro w9 hSw; (try dsimp only at hSw); go_simp; try with_reducible rfl)
            try simp only [Act.put, List.setIfInBounds_toArray, List.set_cons_zero, List.set_cons_succ]
            refine wpAnyH_take (i := 9) (oi := ({ dst := some 106, op := Op.load 38 (Operand.tmp 3), type := 38, pos := "law.go:95", after := #[{ on := 8, ground := Ground.guard }], guard := some (8, true) })) (v := (.agg (itC it).toArray)) rfl (by kernel_rfl) (by kernel_rfl) (by kernel_rfl) (fun _ _ _ h => h) (Or.inl ⟨by rfl, ?_⟩) (by assumption) ?_
            · (intro w9 hSw; (try dsimp only at hSw); exact exec_load_bk 38 (.tmp 3) rfl q3 (itC it) rfl hSw.2.2.1 _ Tryd.underlying38 rfl info_it)
            try simp only [Act.put, List.setIfInBounds_toArray, List.set_cons_zero, List.set_cons_succ]
            refine wpAnyH_take (i := 11) (oi := ({ dst := some 108, op := Op.move (Operand.tmp 7), type := 27, pos := "law.go:95", after := #[{ on := 8, ground := Ground.guard }], guard := some (8, true) })) (v := ?_) rfl (by kernel_rfl) (by kernel_rfl) (by kernel_rfl) (fun _ _ _ h => h) (Or.inl ⟨by rfl, ?_⟩) (by assumption) ?_
            rotate_left 1
            · (intro w9 hSw; (try dsimp only at hSw); go_simp; try with_reducible rfl)
            try simp only [Act.put, List.setIfInBounds_toArray, List.set_cons_zero, List.set_cons_succ]
            refine wpAnyH_take (i := 12) (oi := ({ dst := some 109, op := Op.load 38 (Operand.tmp 3), type := 38, pos := "law.go:95", after := #[{ on := 8, ground := Ground.guard }], guard := some (8, true) })) (v := (.agg (itC it).toArray)) rfl (by kernel_rfl) (by kernel_rfl) (by kernel_rfl) (fun _ _ _ h => h) (Or.inl ⟨by rfl, ?_⟩) (by assumption) ?_
            · (intro w9 hSw; (try dsimp only at hSw); exact exec_load_bk 38 (.tmp 3) rfl q3 (itC it) rfl hSw.2.2.1 _ Tryd.underlying38 rfl info_it)
            try simp only [Act.put, List.setIfInBounds_toArray, List.set_cons_zero, List.set_cons_succ]
            refine wpAnyH_ready (rs := [10]) (by kernel_rfl) (by simp) ?_
            refine AllReadyH.cons (o := ({ dst := some 107, op := Op.call { callee := Callee.value (Operand.func 15), args := #[Operand.tmp 6, Operand.tmp 106], argTypes := #[57, 38] }, type := 4, pos := "law.go:95", after := #[{ on := 9, ground := Ground.data }, { on := 8, ground := Ground.chain }, { on := 8, ground := Ground.guard }], guard := some (8, true) })) rfl (fun K hK => ?_) AllReadyH.nil
            go_simp
            refine (HPD.out.drop' HI.out).mono ?_
            rintro e8 Y1 ⟨rfl, mv1, hf1, hm1, kp1⟩
            rw [HB1.out]
            have s1 := KM.out _ _ _ (fun g hg => (HGE.out.2 g hg).2) HS0.out kp1
            refine hK.out _ _ (s1) (fun hHeld => ?_)
            clear hK K
            try simp only [Act.put, List.setIfInBounds_toArray, List.set_cons_zero, List.set_cons_succ]
            refine wpAnyH_ready (rs := [13]) (by kernel_rfl) (by simp) ?_
            refine AllReadyH.cons (o := ({ dst := some 110, op := Op.call { callee := Callee.value (Operand.func 16), args := #[Operand.tmp 108, Operand.tmp 109], argTypes := #[27, 38] }, type := 4, pos := "law.go:95", after := #[{ on := 11, ground := Ground.data }, { on := 12, ground := Ground.data }, { on := 10, ground := Ground.chain }, { on := 8, ground := Ground.guard }], guard := some (8, true) })) rfl (fun K hK => ?_) AllReadyH.nil
            go_simp
            refine (hf1.drop (by decide)).mono ?_
            rintro e8 Y2 ⟨rfl, hp2, kp2⟩
            rw [HB1.out]
            rw [HS1.out] at hp2
            have s2 := KR.out _ _ s1 kp2
            refine hK.out _ _ (s2) (fun hHeld => ?_)
            clear hK K
            try simp only [Act.put, List.setIfInBounds_toArray, List.set_cons_zero, List.set_cons_succ]
            refine wpAnyH_take (i := 14) (oi := ({ dst := some 111, op := Op.binOp BinOp.eql 4 (Operand.tmp 107) (Operand.tmp 110) 4, type := 4, pos := "law.go:95", after := #[{ on := 10, ground := Ground.data }, { on := 13, ground := Ground.data }, { on := 8, ground := Ground.guard }], guard := some (8, true) })) (v := ?_) rfl (by kernel_rfl) (by kernel_rfl) (by kernel_rfl) (fun _ _ _ h => h) (Or.inl ⟨by rfl, ?_⟩) (by assumption) ?_
            rotate_left 1
            · (intro w9 hSw; (try dsimp only at hSw); go_simp; try with_reducible rfl)
            try simp only [Act.put, List.setIfInBounds_toArray, List.set_cons_zero, List.set_cons_succ]
            refine wpAnyH_take (i := 15) (oi := ({ dst := some 112, op := Op.pick (Operand.tmp 105) (Operand.tmp 111) (Operand.const (Value.bool false)), type := 4, pos := "law.go:95", after := #[{ on := 8, ground := Ground.data }, { on := 14, ground := Ground.data }], guard := none })) (v := ?_) rfl (by kernel_rfl) (by kernel_rfl) (by kernel_rfl) (fun _ _ _ h => h) (Or.inl ⟨by rfl, ?_⟩) (by assumption) ?_
            rotate_left 1
            · (intro w9 hSw; (try dsimp only at hSw); go_simp; try with_reducible rfl)
            try simp only [Act.put, List.setIfInBounds_toArray, List.set_cons_zero, List.set_cons_succ]
            refine wpAnyH_take (i := 16) (oi := ({ dst := some 113, op := Op.move (Operand.tmp 112), type := 4, pos := "law.go:95", after := #[{ on := 15, ground := Ground.data }, { on := 13, ground := Ground.chain }], guard := none })) (v := ?_) rfl (by kernel_rfl) (by kernel_rfl) (by kernel_rfl) (fun _ _ _ h => h) (Or.inl ⟨by rfl, ?_⟩) (by assumption) ?_
            rotate_left 1
            · (intro w9 hSw; (try dsimp only at hSw); go_simp; try with_reducible rfl)
            try simp only [Act.put, List.setIfInBounds_toArray, List.set_cons_zero, List.set_cons_succ]
            refine wpAnyH_take (i := 17) (oi := ({ dst := some 114, op := Op.load 42 (Operand.tmp 2), type := 42, pos := "law.go:95", after := #[{ on := 16, ground := Ground.guard }], guard := some (16, true) })) (v := (.agg (cldC d).toArray)) rfl (by kernel_rfl) (by kernel_rfl) (by kernel_rfl) (fun _ _ _ h => h) (Or.inl ⟨by rfl, ?_⟩) (by assumption) ?_
            · (intro w9 hSw; (try dsimp only at hSw); exact exec_load_bk 42 (.tmp 2) rfl q2 (cldC d) rfl hSw.2.2.2 _ Tryd.underlying42 rfl info_hc)
            try simp only [Act.put, List.setIfInBounds_toArray, List.set_cons_zero, List.set_cons_succ]
            refine wpAnyH_take (i := 19) (oi := ({ dst := some 116, op := Op.move (Operand.tmp 7), type := 27, pos := "law.go:95", after := #[{ on := 16, ground := Ground.guard }], guard := some (16, true) })) (v := ?_) rfl (by kernel_rfl) (by kernel_rfl) (by kernel_rfl) (fun _ _ _ h => h) (Or.inl ⟨by rfl, ?_⟩) (by assumption) ?_
            rotate_left 1
            · (intro w9 hSw; (try dsimp only at hSw); go_simp; try with_reducible rfl)
            try simp only [Act.put, List.setIfInBounds_toArray, List.set_cons_zero, List.set_cons_succ]
            refine wpAnyH_take (i := 20) (oi := ({ dst := some 117, op := Op.load 42 (Operand.tmp 2), type := 42, pos := "law.go:95", after := #[{ on := 16, ground := Ground.guard }], guard := some (16, true) })) (v := (.agg (cldC d).toArray)) rfl (by kernel_rfl) (by kernel_rfl) (by kernel_rfl) (fun _ _ _ h => h) (Or.inl ⟨by rfl, ?_⟩) (by assumption) ?_
            · (intro w9 hSw; (try dsimp only at hSw); exact exec_load_bk 42 (.tmp 2) rfl q2 (cldC d) rfl hSw.2.2.2 _ Tryd.underlying42 rfl info_hc)
            try simp only [Act.put, List.setIfInBounds_toArray, List.set_cons_zero, List.set_cons_succ]
            refine wpAnyH_ready (rs := [18]) (by kernel_rfl) (by simp) ?_
            refine AllReadyH.cons (o := ({ dst := some 115, op := Op.call { callee := Callee.value (Operand.func 17), args := #[Operand.tmp 6, Operand.tmp 114], argTypes := #[57, 42] }, type := 4, pos := "law.go:95", after := #[{ on := 17, ground := Ground.data }, { on := 16, ground := Ground.chain }, { on := 16, ground := Ground.guard }], guard := some (16, true) })) rfl (fun K hK => ?_) AllReadyH.nil
            go_simp
            refine (hp2.fits' (d := d) HC.out HX.out HT.out (by decide)).mono ?_
            rintro e8 Y3 ⟨rfl, mv3, hf3, hm3, kp3⟩
            rw [HB2.out]
            have s3 := KM.out _ _ _ (fun g hg s => by (rcases s with s | s; exact (HGE.out.2 g hg).2 (.inl s); (rcases hm1 with e | ⟨b, e, hb⟩; (rw [e] at s; cases s); (rw [e] at s; injection s with s; have e9 := (HGE.out.2 g hg).1; have e10 := HV8.out; omega)))) s2 kp3
            refine hK.out _ _ (s3) (fun hHeld => ?_)
            clear hK K
            try simp only [Act.put, List.setIfInBounds_toArray, List.set_cons_zero, List.set_cons_succ]
            refine wpAnyH_ready (rs := [21]) (by kernel_rfl) (by simp) ?_
            refine AllReadyH.cons (o := ({ dst := some 118, op := Op.call { callee := Callee.value (Operand.func 19), args := #[Operand.tmp 117], argTypes := #[42] }, type := 52, pos := "law.go:95", after := #[{ on := 20, ground := Ground.data }, { on := 18, ground := Ground.chain }, { on := 16, ground := Ground.guard }], guard := some (16, true) })) rfl (fun K hK => ?_) AllReadyH.nil
            go_simp
            refine (otherw d _).mono ?_
            rintro e8 Y4 ⟨rfl, b4⟩
            have s4 := And.intro (s3.1.new b4) (And.intro (s3.2.1.new b4) (And.intro (s3.2.2.1.new b4) (s3.2.2.2.new b4)))
            refine hK.out _ _ (s4) (fun hHeld => ?_)
            clear hK K
            try simp only [Act.put, List.setIfInBounds_toArray, List.set_cons_zero, List.set_cons_succ]
            refine wpAnyH_ready (rs := [22]) (by kernel_rfl) (by simp) ?_
            refine AllReadyH.cons (o := ({ dst := some 119, op := Op.call { callee := Callee.value (Operand.func 18), args := #[Operand.tmp 116, Operand.tmp 118], argTypes := #[27, 52] }, type := 4, pos := "law.go:95", after := #[{ on := 19, ground := Ground.data }, { on := 21, ground := Ground.data }, { on := 21, ground := Ground.chain }, { on := 16, ground := Ground.guard }], guard := some (16, true) })) rfl (fun K hK => ?_) AllReadyH.nil
            go_simp
            refine ((hf3.new b4).fits (d := d) HC.out HX.out (by decide)).mono ?_
            rintro e8 Y5 ⟨rfl, hp5, kp5⟩
            rw [HB2.out]
            have s5 := KR.out _ _ s4 kp5
            refine hK.out _ _ (s5) (fun hHeld => ?_)
            clear hK K
            try simp only [Act.put, List.setIfInBounds_toArray, List.set_cons_zero, List.set_cons_succ]
            refine wpAnyH_take (i := 23) (oi := ({ dst := some 120, op := Op.binOp BinOp.eql 4 (Operand.tmp 115) (Operand.tmp 119) 4, type := 4, pos := "law.go:95", after := #[{ on := 18, ground := Ground.data }, { on := 22, ground := Ground.data }, { on := 16, ground := Ground.guard }], guard := some (16, true) })) (v := ?_) rfl (by kernel_rfl) (by kernel_rfl) (by kernel_rfl) (fun _ _ _ h => h) (Or.inl ⟨by rfl, ?_⟩) (by assumption) ?_
            rotate_left 1
            · (intro w9 hSw; (try dsimp only at hSw); go_simp; try with_reducible rfl)
            try simp only [Act.put, List.setIfInBounds_toArray, List.set_cons_zero, List.set_cons_succ]
            refine wpAnyH_take (i := 24) (oi := ({ dst := some 121, op := Op.pick (Operand.tmp 113) (Operand.tmp 120) (Operand.const (Value.bool false)), type := 4, pos := "law.go:95", after := #[{ on := 16, ground := Ground.data }, { on := 23, ground := Ground.data }], guard := none })) (v := ?_) rfl (by kernel_rfl) (by kernel_rfl) (by kernel_rfl) (fun _ _ _ h => h) (Or.inl ⟨by rfl, ?_⟩) (by assumption) ?_
            rotate_left 1
            · (intro w9 hSw; (try dsimp only at hSw); go_simp; try with_reducible rfl)
            try simp only [Act.put, List.setIfInBounds_toArray, List.set_cons_zero, List.set_cons_succ]
            refine wpAnyH_take (i := 25) (oi := ({ dst := some 122, op := Op.move (Operand.tmp 121), type := 4, pos := "law.go:95", after := #[{ on := 24, ground := Ground.data }, { on := 22, ground := Ground.chain }], guard := none })) (v := ?_) rfl (by kernel_rfl) (by kernel_rfl) (by kernel_rfl) (fun _ _ _ h => h) (Or.inl ⟨by rfl, ?_⟩) (by assumption) ?_
            rotate_left 1
            · (intro w9 hSw; (try dsimp only at hSw); go_simp; try with_reducible rfl)
            try simp only [Act.put, List.setIfInBounds_toArray, List.set_cons_zero, List.set_cons_succ]
            refine wpAnyH_take (i := 26) (oi := ({ dst := some 123, op := Op.move (Operand.tmp 7), type := 27, pos := "law.go:95", after := #[{ on := 25, ground := Ground.guard }], guard := some (25, true) })) (v := ?_) rfl (by kernel_rfl) (by kernel_rfl) (by kernel_rfl) (fun _ _ _ h => h) (Or.inl ⟨by rfl, ?_⟩) (by assumption) ?_
            rotate_left 1
            · (intro w9 hSw; (try dsimp only at hSw); go_simp; try with_reducible rfl)
            try simp only [Act.put, List.setIfInBounds_toArray, List.set_cons_zero, List.set_cons_succ]
            refine wpAnyH_ready (rs := [27]) (by kernel_rfl) (by simp) ?_
            refine AllReadyH.cons (o := ({ dst := some 124, op := Op.call { callee := Callee.value (Operand.func 21), args := #[Operand.tmp 6, Operand.tmp 123], argTypes := #[25, 27] }, type := 4, pos := "law.go:95", after := #[{ on := 26, ground := Ground.data }, { on := 25, ground := Ground.chain }, { on := 25, ground := Ground.guard }], guard := some (25, true) })) rfl (fun K hK => ?_) AllReadyH.nil
            go_simp
            refine (hp5.same).mono ?_
            rintro e8 Y6 ⟨rfl, b6⟩
            have hp6 := hp5.new b6
            have s6 := And.intro (s5.1.new b6) (And.intro (s5.2.1.new b6) (And.intro (s5.2.2.1.new b6) (s5.2.2.2.new b6)))
            refine hK.out _ _ (s6) (fun hHeld => ?_)
            clear hK K
            try simp only [Act.put, List.setIfInBounds_toArray, List.set_cons_zero, List.set_cons_succ]
            refine wpAnyH_take (i := 28) (oi := ({ dst := some 125, op := Op.pick (Operand.tmp 122) (Operand.tmp 124) (Operand.const (Value.bool false)), type := 4, pos := "law.go:95", after := #[{ on := 25, ground := Ground.data }, { on := 27, ground := Ground.data }], guard := none })) (v := ?_) rfl (by kernel_rfl) (by kernel_rfl) (by kernel_rfl) (fun _ _ _ h => h) (Or.inl ⟨by rfl, ?_⟩) (by assumption) ?_
            rotate_left 1
            · (intro w9 hSw; (try dsimp only at hSw); go_simp; try with_reducible rfl)
            try simp only [Act.put, List.setIfInBounds_toArray, List.set_cons_zero, List.set_cons_succ]
            refine wpAnyH_take (i := 29) (oi := ({ dst := some 126, op := Op.move (Operand.tmp 125), type := 4, pos := "law.go:95", after := #[{ on := 28, ground := Ground.data }, { on := 27, ground := Ground.chain }], guard := none })) (v := ?_) rfl (by kernel_rfl) (by kernel_rfl) (by kernel_rfl) (fun _ _ _ h => h) (Or.inl ⟨by rfl, ?_⟩) (by assumption) ?_
            rotate_left 1
            · (intro w9 hSw; (try dsimp only at hSw); go_simp; try with_reducible rfl)
            try simp only [Act.put, List.setIfInBounds_toArray, List.set_cons_zero, List.set_cons_succ]
            refine wpAnyH_ready (rs := [30]) (by kernel_rfl) (by simp) ?_
            refine AllReadyH.cons (o := ({ dst := some 127, op := Op.call { callee := Callee.value (Operand.func 10), args := #[], argTypes := #[] }, type := 4, pos := "law.go:95", after := #[{ on := 29, ground := Ground.chain }, { on := 29, ground := Ground.guard }], guard := some (29, true) })) rfl (fun K hK => ?_) AllReadyH.nil
            go_simp
            refine (lives36 _ (hp6.lv.tab HT.out)).mono ?_
            rintro e8 Y7 ⟨rfl, b7⟩
            have s7 := And.intro (s6.1.new b7) (And.intro (s6.2.1.new b7) (And.intro (s6.2.2.1.new b7) (s6.2.2.2.new b7)))
            refine hK.out _ _ (s7) (fun hHeld => ?_)
            clear hK K
            try simp only [Act.put, List.setIfInBounds_toArray, List.set_cons_zero, List.set_cons_succ]
            refine wpAnyH_take (i := 31) (oi := ({ dst := some 128, op := Op.pick (Operand.tmp 126) (Operand.tmp 127) (Operand.const (Value.bool false)), type := 4, pos := "law.go:95", after := #[{ on := 29, ground := Ground.data }, { on := 30, ground := Ground.data }], guard := none })) (v := ?_) rfl (by kernel_rfl) (by kernel_rfl) (by kernel_rfl) (fun _ _ _ h => h) (Or.inl ⟨by rfl, ?_⟩) (by assumption) ?_
            rotate_left 1
            · (intro w9 hSw; (try dsimp only at hSw); go_simp; try with_reducible rfl)
            try simp only [Act.put, List.setIfInBounds_toArray, List.set_cons_zero, List.set_cons_succ]
            refine wpAnyH_take (i := 32) (oi := ({ dst := some 4, op := Op.assign (Operand.tmp 128), type := 4, pos := "law.go:95", after := #[{ on := 31, ground := Ground.data }, { on := 30, ground := Ground.chain }, { on := 0, ground := Ground.phase }, { on := 1, ground := Ground.phase }, { on := 2, ground := Ground.phase }, { on := 3, ground := Ground.phase }, { on := 4, ground := Ground.phase }, { on := 5, ground := Ground.phase }, { on := 6, ground := Ground.phase }, { on := 7, ground := Ground.phase }, { on := 8, ground := Ground.phase }, { on := 9, ground := Ground.phase }, { on := 10, ground := Ground.phase }, { on := 11, ground := Ground.phase }, { on := 12, ground := Ground.phase }, { on := 13, ground := Ground.phase }, { on := 14, ground := Ground.phase }, { on := 15, ground := Ground.phase }, { on := 16, ground := Ground.phase }, { on := 17, ground := Ground.phase }, { on := 18, ground := Ground.phase }, { on := 19, ground := Ground.phase }, { on := 20, ground := Ground.phase }, { on := 21, ground := Ground.phase }, { on := 22, ground := Ground.phase }, { on := 23, ground := Ground.phase }, { on := 24, ground := Ground.phase }, { on := 25, ground := Ground.phase }, { on := 26, ground := Ground.phase }, { on := 27, ground := Ground.phase }, { on := 28, ground := Ground.phase }, { on := 29, ground := Ground.phase }, { on := 30, ground := Ground.phase }, { on := 31, ground := Ground.phase }], guard := none })) (v := ?_) rfl (by kernel_rfl) (by kernel_rfl) (by kernel_rfl) (fun _ _ _ h => h) (Or.inl ⟨by rfl, ?_⟩) (by assumption) ?_
            rotate_left 1
            · (intro w9 hSw; (try dsimp only at hSw); go_simp; try with_reducible rfl)
            try simp only [Act.put, List.setIfInBounds_toArray, List.set_cons_zero, List.set_cons_succ]
            refine wpAnyH_done (by kernel_rfl) ?_ _
            go_wp2_with fail
            go_ret
            exact ⟨rfl, fr_new hp6.lv.below b7⟩
theorem walk_MapsVoid (a0_0 : Int) (a0_1 : Int) (a0_2 : ByteArray) (a0_3 : ByteArray) (a0_4 : Int) (a0_5 : Int) (a0_6 : Int) (a0_7 : Int) (a0_8 : Int) (a0_9 : Int) (a0_10 : Int) (a0_11 : Int) (a0_12 : ByteArray) (a0_13 : ByteArray) (a0_14 : Int) (a0_15 : Int) (a0_16 : Int) (a0_17 : Int) (a0_18 : Int) (a0_19 : Int) (a1_0 : ByteArray) (a1_1 : ByteArray) (a1_2 : Int) (a1_3 : Int) (a1_4 : Int) (a1_5 : Int) (w : World) (w0_0 : (Lit.int .i64 a0_0).wf = true) (w0_1 : (Lit.int .u8 a0_1).wf = true) (w0_2 : a0_2.size ≤ maxLen) (w0_3 : a0_3.size ≤ maxLen) (w0_4 : (Lit.int .u32 a0_4).wf = true) (w0_5 : (Lit.int .i64 a0_5).wf = true) (w0_6 : (Lit.int .u64 a0_6).wf = true) (w0_7 : (Lit.int .u64 a0_7).wf = true) (w0_8 : (Lit.int .i64 a0_8).wf = true) (w0_9 : (Lit.int .i64 a0_9).wf = true) (w0_10 : (Lit.int .u8 a0_10).wf = true) (w0_11 : (Lit.int .u64 a0_11).wf = true) (w0_12 : a0_12.size ≤ maxLen) (w0_13 : a0_13.size ≤ maxLen) (w0_14 : (Lit.int .u32 a0_14).wf = true) (w0_15 : (Lit.int .u64 a0_15).wf = true) (w0_16 : (Lit.int .i64 a0_16).wf = true) (w0_17 : (Lit.int .i64 a0_17).wf = true) (w0_18 : (Lit.int .u64 a0_18).wf = true) (w0_19 : (Lit.int .i64 a0_19).wf = true) (w1_0 : a1_0.size ≤ maxLen) (w1_1 : a1_1.size ≤ maxLen) (w1_2 : (Lit.int .u32 a1_2).wf = true) (w1_3 : (Lit.int .u64 a1_3).wf = true) (w1_4 : (Lit.int .i64 a1_4).wf = true) (w1_5 : (Lit.int .i64 a1_5).wf = true) (htab : Lib.TabIs Tryd.prog w "internal/strconv.uint64pow10" .u64 Lib.pow10Tab) :
    Calls Tryd.prog 4 #[.agg #[.int .i64 a0_0, .int .u8 a0_1, .string a0_2, .string a0_3, .int .u32 a0_4, .int .i64 a0_5, .int .u64 a0_6, .int .u64 a0_7, .int .i64 a0_8, .int .i64 a0_9, .int .u8 a0_10, .int .u64 a0_11, .string a0_12, .string a0_13, .int .u32 a0_14, .int .u64 a0_15, .int .i64 a0_16, .int .i64 a0_17, .int .u64 a0_18, .int .i64 a0_19], .agg #[.string a1_0, .string a1_1, .int .u32 a1_2, .int .u64 a1_3, .int .i64 a1_4, .int .i64 a1_5]] w fun e w' => e = .returned (.bool true) ∧ Below w.heap.size w w' := by
  have b1 := bounds_u8 w0_1
  have b4 := bounds_u32 w0_4
  have b6 := bounds_u64 w0_6
  have b18 := bounds_u64 w0_18
  exact voidw ⟨a0_0, ⟨a0_1, a0_2, a0_3, a0_4, a0_5, a0_6, a0_7⟩, a0_8, a0_9, ⟨a0_10, a0_11, ⟨a0_12, a0_13, a0_14, a0_15, a0_16, a0_17⟩⟩, a0_18, a0_19⟩ ⟨a1_0, a1_1, a1_2, a1_3, a1_4, a1_5⟩ w ⟨by show 0 ≤ a0_1 ∧ a0_1 < 256; omega, w0_2, w0_3, by show 0 ≤ a0_4 ∧ a0_4 < 4294967296; omega, bounds_i64 w0_5, by show 0 ≤ a0_6 ∧ a0_6 < 18446744073709551616; omega, bounds_u64 w0_7⟩ (by show 0 ≤ a0_18 ∧ a0_18 < 18446744073709551616; omega) w1_0 htab
end Go.Proofs.YtmjklkcjinfmaaaDoor
