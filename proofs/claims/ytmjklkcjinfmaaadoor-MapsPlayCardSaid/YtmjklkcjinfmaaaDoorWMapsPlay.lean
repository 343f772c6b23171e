/- MapsPlay. -/
import Derived.Test.YtmjklkcjinfmaaaDoorGMt
import Derived.Test.YtmjklkcjinfmaaaDoorMaW
namespace Go.Proofs.YtmjklkcjinfmaaaDoor
open Go.RowKit Go.Maps
set_option linter.unusedVariables false
set_option linter.unusedSimpArgs false
theorem Lv.down {w0 w W : World} {m : Nat} {mv : Option Nat} {S : Mst} {n : Nat} (h : Lv w W m mv S n) (hb : Below w0.heap.size w0 w) : Lv w0 W m mv S n := ⟨h.mp, h.ok, fun k s => Nat.le_trans hb.size (h.low k s), fr_new hb h.below, h.len⟩
theorem look_size {S : Mst} (h : MOk S) (k : ByteArray) : ((mlook S.L k).getD Itm.none).k.size ≤ maxLen := by
  cases e : mlook S.L k with
  | none => show (0 : Nat) ≤ maxLen; exact Nat.zero_le _
  | some y => exact (h.its y (look_mem e)).k
theorem it_same (x : Itm) (W : World) : (binOp .neq 38 (.agg #[.string x.k, .string x.v, .int .u32 x.fl, .int .u64 x.id, .int .i64 x.dies, .int .i64 x.gen]) (.agg #[.string x.k, .string x.v, .int .u32 x.fl, .int .u64 x.id, .int .i64 x.dies, .int .i64 x.gen])).run Tryd.prog W = .ok (.bool false) W := by
  have := it_neq x x W
  rw [decide_eq_false (by simp)] at this
  exact this
set_option maxHeartbeats 16000000 in
set_option maxRecDepth 100000 in
theorem walk_MapsPlay (a0 : Option Addr) (l0 c0 : Nat) (w : World) (w0 : Reads Tryd.prog w 22 (.slice a0 l0 c0)) (htab : Lib.TabIs Tryd.prog w "internal/strconv.uint64pow10" .u64 Lib.pow10Tab) :
    Calls Tryd.prog 3 #[.slice a0 l0 c0] w fun e w' => e = .returned (.bool true) ∧ Below w.heap.size w w' := by
  obtain ⟨L, hl, hn, hc, hR, hK⟩ := open_acts w0
  unfold maxLen at hc
  have HR := Lib.hid hR
  have HL := Lib.hid hl
  have HK := Lib.hid hK
  have HT := Lib.hid htab
  have HCC := Lib.hid hc
  clear hl hR hK htab w0
  go_enter Tryd.func3, Tryd.ntmps3
  go_upto_if 22 with (go_at_call 9; refine (greatw a0 l0 c0 L _ HL.out hn (by unfold maxLen; exact HCC.out) HR.out).mono ?_; rintro e1 W0 ⟨b, rfl, hb, b0⟩)
  cases b with
  | true =>
    go_wp2_with (go_at_call 10; refine (lives36 _ (tab_below HT.out b0)).mono ?_; rintro e1 WL ⟨rfl, bl⟩)
    go_ret
    exact ⟨rfl, fr_new b0 bl⟩
  | false =>
    have h120 := hb rfl
    clear hb
    go_wp2_with (first
      | (go_at_call 11; refine (Lv.start _).mono ?_; rintro e1 WN ⟨m, rfl, lN⟩)
      | ((with_reducible refine at_wq ?_); refine wpList_box_bk rfl 31 (.tmp 25) rfl (mapR none 0 0 0 0) rfl ?_; intro WR r hr))
    have hp0 : Pr w WR m none r Mst.new 0 := ⟨(lN.down b0).new hr.below, ⟨⟨none, 0, 0, hr.bk, RL.nil, fun g o s e => by cases e⟩, (lN.down b0).fresh hr⟩, hr.at (lN.down b0).below⟩
    have HP0 := Lib.hid hp0
    clear hp0 hr lN b0
    go_loopw [5] (fun i wr => ∃ (k : Nat) (mv : Option Nat) (S : Mst), k ≤ l0 ∧ i = .int .i64 k ∧ Pr w wr m mv r S k) (fun i _ => l0 - (intOf i).toNat)
    case atStart => exact ⟨0, none, Mst.new, by omega, rfl, HP0.out⟩
    case round =>
      obtain ⟨k, mv, S, hk, rfl, hpr⟩ := hrel
      have HPR := Lib.hid hpr
      clear hpr
      by_cases hlt : k < l0
      · obtain ⟨b, off, x, rfl, hb, hx, hcell⟩ := HR.out.at (i := k) (by rw [HL.out]; exact hlt)
        have HY := Lib.hid (HK.out x (List.mem_of_getElem? hx))
        have HCW := Lib.hid (show ∀ V, Below w.heap.size w V → ∀ j v, (acC x)[j]? = some v → V.cell? ⟨b, off + k * 27 + j, none⟩ = some v from fun V hV j v hj => (hV.cell (p := ⟨b, off + k * 27 + j, none⟩) hb).trans (hcell j v hj))
        have HPT := Lib.hid (RdA.parts (HCW.out wr HPR.out.lv.below))
        obtain ⟨an, hga⟩ : ∃ y, gAns S x.d.c x.d.e = y := ⟨_, rfl⟩
        obtain ⟨gb, hgb⟩ : ∃ y, (S.gives x.d.c x.d.e).isSome = y := ⟨_, rfl⟩
        have HGA := Lib.hid hga
        have HGB := Lib.hid hgb
        obtain ⟨ay, hay⟩ : ∃ y, (mlook S.L x.it.k).getD Itm.none = y := ⟨_, rfl⟩
        obtain ⟨ab, hab⟩ : ∃ y, (mlook S.L x.it.k).isSome = y := ⟨_, rfl⟩
        have HAY := Lib.hid hay
        have HAB := Lib.hid hab
        have hqa : ∀ W, (binOp .neq 40 (.agg (ansC an).toArray) (.agg (ansC an).toArray)).run Tryd.prog W = .ok (.bool false) W := fun W => by
          have := an_neq an an W
          rw [decide_eq_false (by simp)] at this
          exact this
        obtain ⟨t, ht⟩ : ∃ t, x.kd = t := ⟨_, rfl⟩
        have t0 := HY.out.kd.1
        have t1 := HY.out.kd.2
        rw [ht] at t0 t1
        have HKD := Lib.hid ht
        clear hcell hx hga hgb hay hab ht
        by_cases k0 : t % 6 = 0
        · have e0 : (t % 6 == 0) = true := beq_iff_eq.mpr k0
          by_cases k128 : 128 ≤ t
          · have hd8 : decide (128 ≤ t) = true := decide_eq_true k128
            as_aux_lemma =>
              go_upto_region 9 with (first
                | ((with_reducible refine at_wq ?_); refine wpList_load_mid rfl 42 (.tmp 36) rfl b (off + k * 27 + 1) rfl (cldC x.d) _ HPT.out.1 Tryd.underlying42 rfl info_hc ?_)
                | ((with_reducible refine at_wq ?_); refine wpList_alloc_bk rfl 42 (cldC cld0) alloc_hc rfl ?_; intro W1 q6 h1)
                | ((with_reducible refine at_wq ?_); refine wpList_store_bk rfl 42 (.tmp 6) (.tmp 37) rfl q6 0 (cldC cld0) (cldC x.d) (cldC x.d) h1.bk (Nat.le_refl 20) rfl info_hc (cldC_one _) rfl rfl ?_; intro W2 h2 k2))
              have HF2 := Lib.hid (show Below wr.heap.size wr W2 from fr_set h1.below k2 (by rw [h1.eq]; exact Nat.le_refl _))
              have HP2 := Lib.hid (HPR.out.new HF2.out)
              have H62 := Lib.hid h2
              have HQ6 := Lib.hid (show q6 = wr.heap.size ∧ q6 < W2.heap.size from ⟨h1.eq, h2.lt⟩)
              have c18 := h2.at_ 18 _ rfl
              clear h1 h2 k2
              go_upto_region 10 with (first
                | ((with_reducible refine at_wq ?_); refine wpList_load_bk rfl 35 (.tmp 40) rfl q6 1 (cldC x.d) (calC x.d.c) H62.out rfl _ Tryd.underlying35 rfl info_ca rfl ?_)
                | (go_at_call 12; refine (Givesw HP2.out.lv.mp HP2.out.lv.ok HY.out.c HY.out.e (HP2.out.lv.tab HT.out)).mono ?_; rintro e1 W3 ⟨rfl, b3⟩; rw [HGA.out, HGB.out])
                | ((with_reducible refine at_wq ?_); refine wpList_alloc_bk rfl 40 (ansC Ans.none) alloc_an rfl ?_; intro W4 q7 h4)
                | ((with_reducible refine at_wq ?_); refine wpList_store_bk rfl 40 (.tmp 7) (.tmp 45) rfl q7 0 (ansC Ans.none) (ansC an) (ansC an) h4.bk (Nat.le_refl 8) rfl info_an (ansC_one _) rfl rfl ?_; intro W5 h5 k5))
              have HF3 := Lib.hid (fr_new HF2.out b3)
              have HF5 := Lib.hid (fr_set (fr_new HF3.out h4.below) k5 (h4.at HF3.out))
              have HQ7 := Lib.hid (show W2.heap.size ≤ q7 ∧ q7 < W5.heap.size from ⟨by have e1 := h4.eq; have e2 := b3.size; omega, h5.lt⟩)
              have HP5 := Lib.hid (HPR.out.new HF5.out)
              have H65 := Lib.hid ((H62.out.new (fr_new b3 h4.below)).keep k5 (by have e1 := HQ6.out; have e2 := HQ7.out; omega))
              have H75 := Lib.hid h5
              clear c18 b3 h4 h5 k5
              have c18 := H65.out.at_ 18 _ rfl
              go_upto_region 11 with (first
                | ((with_reducible refine at_wq ?_); refine wpList_load_bk rfl 35 (.tmp 49) rfl q6 1 (cldC x.d) (calC x.d.c) H65.out rfl _ Tryd.underlying35 rfl info_ca rfl ?_)
                | (go_at_call 13; refine (HP5.out.gives HY.out.c HY.out.e (by omega)).mono ?_; rintro e1 W6 ⟨rfl, b6⟩; rw [HGA.out, HGB.out])
                | ((with_reducible refine at_wq ?_); refine wpList_alloc_bk rfl 40 (ansC Ans.none) alloc_an rfl ?_; intro W7 q9 h7)
                | ((with_reducible refine at_wq ?_); refine wpList_store_bk rfl 40 (.tmp 9) (.tmp 54) rfl q9 0 (ansC Ans.none) (ansC an) (ansC an) h7.bk (Nat.le_refl 8) rfl info_an (ansC_one _) rfl rfl ?_; intro W8 h8 k8))
              have HF6 := Lib.hid (fr_new HF5.out b6)
              have HF8 := Lib.hid (fr_set (fr_new HF6.out h7.below) k8 (h7.at HF6.out))
              have HQ9 := Lib.hid (show W5.heap.size ≤ q9 ∧ q9 < W8.heap.size from ⟨by have e1 := h7.eq; have e2 := b6.size; omega, h8.lt⟩)
              have HS5 := Lib.hid (show W2.heap.size ≤ W5.heap.size from by have e1 := HQ7.out; omega)
              have HP8 := Lib.hid (HPR.out.new HF8.out)
              have H68 := Lib.hid ((H65.out.new (fr_new b6 h7.below)).keep k8 (by have e1 := HQ6.out; have e2 := HQ9.out; have e3 := HS5.out; omega))
              have H78 := Lib.hid ((H75.out.new (fr_new b6 h7.below)).keep k8 (by have e1 := HQ7.out; have e2 := HQ9.out; omega))
              have H98 := Lib.hid h8
              clear c18 b6 h7 h8 k8
              have x0 := HCW.out _ HP8.out.lv.below 0 (.int .u8 t) (by rw [← HKD.out]; rfl)
              rw [Nat.add_zero] at x0
              have x21 := HCW.out _ HP8.out.lv.below 21 _ rfl
              go_wp2_with (first
                | ((with_reducible refine at_wq ?_); refine wpList_load_bk rfl 40 (.tmp 7) rfl q7 0 (ansC an) (ansC an) H78.out rfl _ Tryd.underlying40 rfl info_an rfl ?_)
                | ((with_reducible refine at_wq ?_); refine wpList_load_bk rfl 40 (.tmp 9) rfl q9 0 (ansC an) (ansC an) H98.out rfl _ Tryd.underlying40 rfl info_an rfl ?_)
                | (go_at_call 14; refine (HP8.out.at x.it.k).mono ?_; rintro e1 W9 ⟨rfl, b9⟩; unfold atV; rw [HAY.out, HAB.out])
                | ((with_reducible refine at_wq ?_); refine wpList_alloc_bk rfl 38 (itC Itm.none) alloc_it rfl ?_; intro W10 q11 h10)
                | ((with_reducible refine at_wq ?_); refine wpList_store_bk rfl 38 (.tmp 11) (.tmp 91) rfl q11 0 (itC Itm.none) (itC ay) (itC ay) h10.bk (Nat.le_refl 6) rfl info_it (itC_one _) rfl rfl ?_; intro W11 h11 k11; have HF11 := Lib.hid (show Below W8.heap.size W8 W11 from fr_set (fr_new b9 h10.below) k11 (h10.at b9)); have HP11 := Lib.hid (HP8.out.new HF11.out); have H611 := Lib.hid (H68.out.new HF11.out); have HQ11 := Lib.hid (show W8.heap.size ≤ q11 from h10.at b9); have HI11 := Lib.hid h11; clear b9 h10 h11 k11 x0 x21; have x0 := HCW.out _ HP11.out.lv.below 0 (.int .u8 t) (by rw [← HKD.out]; rfl); rw [Nat.add_zero] at x0; have HPT11 := Lib.hid (RdA.parts (fun j v hj => HCW.out _ HP11.out.lv.below j v hj)))
                | ((with_reducible refine at_wq ?_); refine wpList_load_mid rfl 38 (.tmp 102) rfl b (off + k * 27 + 21) rfl (itC x.it) _ HPT11.out.2 Tryd.underlying38 rfl info_it ?_)
                | ((with_reducible refine at_wq ?_); refine wpList_store_bk rfl 38 (.tmp 11) (.tmp 103) rfl q11 0 (itC ay) (itC x.it) (itC x.it) HI11.out (Nat.le_refl 6) rfl info_it (itC_one _) rfl rfl ?_; intro W12 h12 k12; have HF12 := Lib.hid (show Below W8.heap.size W8 W12 from fr_set HF11.out k12 HQ11.out); have HP12 := Lib.hid (HP8.out.new HF12.out); have H612 := Lib.hid (H68.out.new HF12.out); have HI12 := Lib.hid h12; clear h12 k12 x0))
              obtain ⟨D, hD⟩ : ∃ D, D = x.it := ⟨_, rfl⟩
              rw [← hD] at HI12
              have HDS := Lib.hid (show D.k.size ≤ maxLen from by rw [hD]; exact HY.out.k)
              clear hD
              obtain ⟨bD, hbD⟩ : ∃ b, (S.drop D).1 = b := ⟨_, rfl⟩
              have HBD := Lib.hid hbD
              obtain ⟨S1, hS1⟩ : ∃ T, (S.drop D).2 = T := ⟨_, rfl⟩
              have HS1 := Lib.hid hS1
              clear hbD hS1
              have HQN := Lib.hid (show ¬ MpB m mv q11 ∧ ¬ MpB m mv q6 ∧ q11 ≠ r ∧ q6 ≠ r from ⟨fun s => by have e1 := HP8.out.lv.mp.lts _ s; have e2 := HQ11.out; omega, fun s => by have e1 := HPR.out.lv.mp.lts _ s; have e2 := HQ6.out; omega, by have e1 := HP8.out.rm.lt; have e2 := HQ11.out; omega, by have e1 := HPR.out.rm.lt; have e2 := HQ6.out; omega⟩)
              have hdr : Below W12.heap.size W12 W12.drew := (Below.refl _ _).drew
              have HPD := Lib.hid (HP12.out.new hdr)
              have HID := Lib.hid (HI12.out.new hdr)
              have H6D := Lib.hid (H612.out.new hdr)
              clear hdr
              refine wp_region_held_drew (S := fun X => Bk X q11 (itC D)) (by kernel_rfl) (HID.out) (fun hHeld => ?_)
              refine wpAnyH_take (i := 0) (oi := ({ dst := some 104, op := Op.move (Operand.tmp 3), type := 25, pos := "law.go:55", after := #[], guard := none })) (v := ?_) rfl (by kernel_rfl) (by kernel_rfl) (by kernel_rfl) (fun _ _ _ h => h) (Or.inl ⟨by rfl, ?_⟩) (by assumption) ?_
              rotate_left 1
              · (intro w9 hSw; (try dsimp only at hSw); go_simp; try with_reducible rfl)
              try simp only [Act.put, List.setIfInBounds_toArray, List.set_cons_zero, List.set_cons_succ]
              refine wpAnyH_take (i := 1) (oi := ({ dst := some 105, op := Op.load 38 (Operand.tmp 11), type := 38, pos := "law.go:55", after := #[], guard := none })) (v := (.agg (itC D).toArray)) rfl (by kernel_rfl) (by kernel_rfl) (by kernel_rfl) (fun _ _ _ h => h) (Or.inl ⟨by rfl, ?_⟩) (by assumption) ?_
              · (intro w9 hSw; (try dsimp only at hSw); exact exec_load_bk 38 (.tmp 11) rfl q11 (itC D) rfl hSw _ Tryd.underlying38 rfl info_it)
              try simp only [Act.put, List.setIfInBounds_toArray, List.set_cons_zero, List.set_cons_succ]
              refine wpAnyH_take (i := 3) (oi := ({ dst := some 107, op := Op.move (Operand.tmp 4), type := 27, pos := "law.go:55", after := #[], guard := none })) (v := ?_) rfl (by kernel_rfl) (by kernel_rfl) (by kernel_rfl) (fun _ _ _ h => h) (Or.inl ⟨by rfl, ?_⟩) (by assumption) ?_
              rotate_left 1
              · (intro w9 hSw; (try dsimp only at hSw); go_simp; try with_reducible rfl)
              try simp only [Act.put, List.setIfInBounds_toArray, List.set_cons_zero, List.set_cons_succ]
              refine wpAnyH_take (i := 4) (oi := ({ dst := some 108, op := Op.load 38 (Operand.tmp 11), type := 38, pos := "law.go:55", after := #[], guard := none })) (v := (.agg (itC D).toArray)) rfl (by kernel_rfl) (by kernel_rfl) (by kernel_rfl) (fun _ _ _ h => h) (Or.inl ⟨by rfl, ?_⟩) (by assumption) ?_
              · (intro w9 hSw; (try dsimp only at hSw); exact exec_load_bk 38 (.tmp 11) rfl q11 (itC D) rfl hSw _ Tryd.underlying38 rfl info_it)
              try simp only [Act.put, List.setIfInBounds_toArray, List.set_cons_zero, List.set_cons_succ]
              refine wpAnyH_ready (rs := [2]) (by kernel_rfl) (by simp) ?_
              refine AllReadyH.cons (o := ({ dst := some 106, op := Op.call { callee := Callee.value (Operand.func 15), args := #[Operand.tmp 104, Operand.tmp 105], argTypes := #[25, 38] }, type := 4, pos := "law.go:55", after := #[{ on := 0, ground := Ground.data }, { on := 1, ground := Ground.data }], guard := none })) rfl (fun K hK => ?_) AllReadyH.nil
              go_simp
              refine (HPD.out.drop HDS.out).mono ?_
              rintro e1 Y1 ⟨rfl, ⟨mv1, hf1⟩, kp1⟩
              rw [HBD.out]
              refine hK.out _ _ (HID.out.keep kp1 HQN.out.1) (fun hHeld => ?_)
              clear hK K
              try simp only [Act.put, List.setIfInBounds_toArray, List.set_cons_zero, List.set_cons_succ]
              refine wpAnyH_ready (rs := [5]) (by kernel_rfl) (by simp) ?_
              refine AllReadyH.cons (o := ({ dst := some 109, op := Op.call { callee := Callee.value (Operand.func 16), args := #[Operand.tmp 107, Operand.tmp 108], argTypes := #[27, 38] }, type := 4, pos := "law.go:55", after := #[{ on := 3, ground := Ground.data }, { on := 4, ground := Ground.data }, { on := 2, ground := Ground.chain }], guard := none })) rfl (fun K hK => ?_) AllReadyH.nil
              go_simp
              refine (hf1.drop (by omega)).mono ?_
              rintro e1 V ⟨rfl, hpv, kp2⟩
              rw [HBD.out]
              refine hK.out _ _ ((HID.out.keep kp1 HQN.out.1).keep kp2 HQN.out.2.2.1) (fun hHeld => ?_)
              clear hK K
              try simp only [Act.put, List.setIfInBounds_toArray, List.set_cons_zero, List.set_cons_succ]
              refine wpAnyH_take (i := 6) (oi := ({ dst := some 110, op := Op.binOp BinOp.neq 4 (Operand.tmp 106) (Operand.tmp 109) 4, type := 4, pos := "law.go:55", after := #[{ on := 2, ground := Ground.data }, { on := 5, ground := Ground.data }], guard := none })) (v := ?_) rfl (by kernel_rfl) (by kernel_rfl) (by kernel_rfl) (fun _ _ _ h => h) (Or.inl ⟨by rfl, ?_⟩) (by assumption) ?_
              rotate_left 1
              · (intro w9 hSw; (try dsimp only at hSw); go_simp; try with_reducible rfl)
              try simp only [Act.put, List.setIfInBounds_toArray, List.set_cons_zero, List.set_cons_succ]
              refine wpAnyH_done (by kernel_rfl) ?_ _
              rw [HS1.out] at hpv
              have HPV := Lib.hid hpv
              have H6V := Lib.hid ((H6D.out.keep kp1 HQN.out.2.1).keep kp2 HQN.out.2.2.2)
              clear hpv kp1 kp2 hf1 hHeld
              as_aux_lemma =>
                obtain ⟨r1, hr1⟩ : ∃ y, (mlook S1.L x.it.k).getD Itm.none = y := ⟨_, rfl⟩
                obtain ⟨f1, hf1⟩ : ∃ b, (mlook S1.L x.it.k).isSome = b := ⟨_, rfl⟩
                obtain ⟨r2, hr2⟩ : ∃ y, (mlook S1.L x.d.c.key).getD Itm.none = y := ⟨_, rfl⟩
                obtain ⟨f2, hf2⟩ : ∃ b, (mlook S1.L x.d.c.key).isSome = b := ⟨_, rfl⟩
                have Hr1 := Lib.hid hr1
                have Hf1 := Lib.hid hf1
                have Hr2 := Lib.hid hr2
                have Hf2 := Lib.hid hf2
                clear hr1 hf1 hr2 hf2
                have z21 := HCW.out _ HPV.out.lv.below 21 _ rfl
                have c2 := H6V.out.at_ 2 _ rfl
                go_upto_region 27 with (first
                  | (go_at_call 20; refine (Atw HPV.out.lv.mp x.it.k HY.out.k).mono ?_; rintro e1 UA ⟨rfl, bA⟩; unfold atV; rw [Hr1.out, Hf1.out])
                  | ((with_reducible refine at_wq ?_); refine wpList_alloc_bk rfl 38 (itC Itm.none) alloc_it rfl ?_; intro UB q13 hA)
                  | ((with_reducible refine at_wq ?_); refine wpList_store_bk rfl 38 (.tmp 13) (.tmp 130) rfl q13 0 (itC Itm.none) (itC r1) (itC r1) hA.bk (Nat.le_refl 6) rfl info_it (itC_one _) rfl rfl ?_; intro V1 hE kE))
                have HFV1 := Lib.hid (show Below V.heap.size V V1 from fr_set (fr_new bA hA.below) kE (hA.at bA))
                have HPV1 := Lib.hid (HPV.out.new HFV1.out)
                have H6V1 := Lib.hid (H6V.out.new HFV1.out)
                have HQV1 := Lib.hid (show V.heap.size ≤ q13 from hA.at (Below.refl _ _ |>.trans bA))
                have HI13V1 := Lib.hid hE
                clear bA hA hE kE z21 c2
                have z21 := HCW.out _ HPV1.out.lv.below 21 _ rfl
                have c2 := H6V1.out.at_ 2 _ rfl
                go_upto_region 28 with (first
                  | (go_at_call 14; refine (HPV1.out.at x.it.k).mono ?_; rintro e1 UA ⟨rfl, bA⟩; unfold atV; rw [Hr1.out, Hf1.out])
                  | ((with_reducible refine at_wq ?_); refine wpList_alloc_bk rfl 38 (itC Itm.none) alloc_it rfl ?_; intro UB q15 hA)
                  | ((with_reducible refine at_wq ?_); refine wpList_store_bk rfl 38 (.tmp 15) (.tmp 141) rfl q15 0 (itC Itm.none) (itC r1) (itC r1) hA.bk (Nat.le_refl 6) rfl info_it (itC_one _) rfl rfl ?_; intro V2 hE kE))
                have HFV2 := Lib.hid (show Below V1.heap.size V1 V2 from fr_set (fr_new bA hA.below) kE (hA.at bA))
                have HPV2 := Lib.hid (HPV1.out.new HFV2.out)
                have H6V2 := Lib.hid (H6V1.out.new HFV2.out)
                have HQV2 := Lib.hid (show V1.heap.size ≤ q15 from hA.at (Below.refl _ _ |>.trans bA))
                have HI13V2 := Lib.hid (HI13V1.out.new HFV2.out)
                have HI15V2 := Lib.hid hE
                clear bA hA hE kE z21 c2
                have z21 := HCW.out _ HPV2.out.lv.below 21 _ rfl
                have c2 := H6V2.out.at_ 2 _ rfl
                go_upto_region 29 with (first
                  | (go_at_call 20; refine (Atw HPV2.out.lv.mp x.d.c.key HY.out.c.key).mono ?_; rintro e1 UA ⟨rfl, bA⟩; unfold atV; rw [Hr2.out, Hf2.out])
                  | ((with_reducible refine at_wq ?_); refine wpList_alloc_bk rfl 38 (itC Itm.none) alloc_it rfl ?_; intro UB q17 hA)
                  | ((with_reducible refine at_wq ?_); refine wpList_store_bk rfl 38 (.tmp 17) (.tmp 149) rfl q17 0 (itC Itm.none) (itC r2) (itC r2) hA.bk (Nat.le_refl 6) rfl info_it (itC_one _) rfl rfl ?_; intro V3 hE kE))
                have HFV3 := Lib.hid (show Below V2.heap.size V2 V3 from fr_set (fr_new bA hA.below) kE (hA.at bA))
                have HPV3 := Lib.hid (HPV2.out.new HFV3.out)
                have H6V3 := Lib.hid (H6V2.out.new HFV3.out)
                have HQV3 := Lib.hid (show V2.heap.size ≤ q17 from hA.at (Below.refl _ _ |>.trans bA))
                have HI13V3 := Lib.hid (HI13V2.out.new HFV3.out)
                have HI15V3 := Lib.hid (HI15V2.out.new HFV3.out)
                have HI17V3 := Lib.hid hE
                clear bA hA hE kE z21 c2
                have z21 := HCW.out _ HPV3.out.lv.below 21 _ rfl
                have c2 := H6V3.out.at_ 2 _ rfl
                go_upto_region 30 with (first
                  | (go_at_call 14; refine (HPV3.out.at x.d.c.key).mono ?_; rintro e1 UA ⟨rfl, bA⟩; unfold atV; rw [Hr2.out, Hf2.out])
                  | ((with_reducible refine at_wq ?_); refine wpList_alloc_bk rfl 38 (itC Itm.none) alloc_it rfl ?_; intro UB q19 hA)
                  | ((with_reducible refine at_wq ?_); refine wpList_store_bk rfl 38 (.tmp 19) (.tmp 157) rfl q19 0 (itC Itm.none) (itC r2) (itC r2) hA.bk (Nat.le_refl 6) rfl info_it (itC_one _) rfl rfl ?_; intro V4 hE kE))
                have HFV4 := Lib.hid (show Below V3.heap.size V3 V4 from fr_set (fr_new bA hA.below) kE (hA.at bA))
                have HPV4 := Lib.hid (HPV3.out.new HFV4.out)
                have H6V4 := Lib.hid (H6V3.out.new HFV4.out)
                have HQV4 := Lib.hid (show V3.heap.size ≤ q19 from hA.at (Below.refl _ _ |>.trans bA))
                have HI13V4 := Lib.hid (HI13V3.out.new HFV4.out)
                have HI15V4 := Lib.hid (HI15V3.out.new HFV4.out)
                have HI17V4 := Lib.hid (HI17V3.out.new HFV4.out)
                have HI19V4 := Lib.hid hE
                clear bA hA hE kE z21 c2
                have z21 := HCW.out _ HPV4.out.lv.below 21 _ rfl
                have c2 := H6V4.out.at_ 2 _ rfl
                obtain ⟨a0, a1, a2, a3, a4, a5⟩ := it_cells HI13V4.out
                obtain ⟨b0, b1, b2, b3, b4, b5⟩ := it_cells HI15V4.out
                obtain ⟨d0, d1, d2, d3, d4, d5⟩ := it_cells HI17V4.out
                obtain ⟨e0, e1, e2, e3, e4, e5⟩ := it_cells HI19V4.out
                have hs1 := it_same r1
                have hs2 := it_same r2
                go_wp2_with (first
                  | (go_at_call 21; refine (HPV4.out.same).mono ?_; rintro e1 V5 ⟨rfl, b5⟩; clear a0 a1 a2 a3 a4 a5 b0 b1 b2 b3 b4 d0 d1 d2 d3 d4 d5 e0 e1 e2 e3 e4 e5 z21 c2; have HF5V := Lib.hid b5))
                go_roundw
                case rel => exact ⟨k + 1, mv1, S1, by omega, by go_num, HPV4.out.new HF5V.out⟩
                case measure => simp [intOf]; omega
          · have hd8 : decide (128 ≤ t) = false := decide_eq_false k128
            as_aux_lemma =>
              go_upto_region 9 with (first
                | ((with_reducible refine at_wq ?_); refine wpList_load_mid rfl 42 (.tmp 36) rfl b (off + k * 27 + 1) rfl (cldC x.d) _ HPT.out.1 Tryd.underlying42 rfl info_hc ?_)
                | ((with_reducible refine at_wq ?_); refine wpList_alloc_bk rfl 42 (cldC cld0) alloc_hc rfl ?_; intro W1 q6 h1)
                | ((with_reducible refine at_wq ?_); refine wpList_store_bk rfl 42 (.tmp 6) (.tmp 37) rfl q6 0 (cldC cld0) (cldC x.d) (cldC x.d) h1.bk (Nat.le_refl 20) rfl info_hc (cldC_one _) rfl rfl ?_; intro W2 h2 k2))
              have HF2 := Lib.hid (show Below wr.heap.size wr W2 from fr_set h1.below k2 (by rw [h1.eq]; exact Nat.le_refl _))
              have HP2 := Lib.hid (HPR.out.new HF2.out)
              have H62 := Lib.hid h2
              have HQ6 := Lib.hid (show q6 = wr.heap.size ∧ q6 < W2.heap.size from ⟨h1.eq, h2.lt⟩)
              have c18 := h2.at_ 18 _ rfl
              clear h1 h2 k2
              go_upto_region 10 with (first
                | ((with_reducible refine at_wq ?_); refine wpList_load_bk rfl 35 (.tmp 40) rfl q6 1 (cldC x.d) (calC x.d.c) H62.out rfl _ Tryd.underlying35 rfl info_ca rfl ?_)
                | (go_at_call 12; refine (Givesw HP2.out.lv.mp HP2.out.lv.ok HY.out.c HY.out.e (HP2.out.lv.tab HT.out)).mono ?_; rintro e1 W3 ⟨rfl, b3⟩; rw [HGA.out, HGB.out])
                | ((with_reducible refine at_wq ?_); refine wpList_alloc_bk rfl 40 (ansC Ans.none) alloc_an rfl ?_; intro W4 q7 h4)
                | ((with_reducible refine at_wq ?_); refine wpList_store_bk rfl 40 (.tmp 7) (.tmp 45) rfl q7 0 (ansC Ans.none) (ansC an) (ansC an) h4.bk (Nat.le_refl 8) rfl info_an (ansC_one _) rfl rfl ?_; intro W5 h5 k5))
              have HF3 := Lib.hid (fr_new HF2.out b3)
              have HF5 := Lib.hid (fr_set (fr_new HF3.out h4.below) k5 (h4.at HF3.out))
              have HQ7 := Lib.hid (show W2.heap.size ≤ q7 ∧ q7 < W5.heap.size from ⟨by have e1 := h4.eq; have e2 := b3.size; omega, h5.lt⟩)
              have HP5 := Lib.hid (HPR.out.new HF5.out)
              have H65 := Lib.hid ((H62.out.new (fr_new b3 h4.below)).keep k5 (by have e1 := HQ6.out; have e2 := HQ7.out; omega))
              have H75 := Lib.hid h5
              clear c18 b3 h4 h5 k5
              have c18 := H65.out.at_ 18 _ rfl
              go_upto_region 11 with (first
                | ((with_reducible refine at_wq ?_); refine wpList_load_bk rfl 35 (.tmp 49) rfl q6 1 (cldC x.d) (calC x.d.c) H65.out rfl _ Tryd.underlying35 rfl info_ca rfl ?_)
                | (go_at_call 13; refine (HP5.out.gives HY.out.c HY.out.e (by omega)).mono ?_; rintro e1 W6 ⟨rfl, b6⟩; rw [HGA.out, HGB.out])
                | ((with_reducible refine at_wq ?_); refine wpList_alloc_bk rfl 40 (ansC Ans.none) alloc_an rfl ?_; intro W7 q9 h7)
                | ((with_reducible refine at_wq ?_); refine wpList_store_bk rfl 40 (.tmp 9) (.tmp 54) rfl q9 0 (ansC Ans.none) (ansC an) (ansC an) h7.bk (Nat.le_refl 8) rfl info_an (ansC_one _) rfl rfl ?_; intro W8 h8 k8))
              have HF6 := Lib.hid (fr_new HF5.out b6)
              have HF8 := Lib.hid (fr_set (fr_new HF6.out h7.below) k8 (h7.at HF6.out))
              have HQ9 := Lib.hid (show W5.heap.size ≤ q9 ∧ q9 < W8.heap.size from ⟨by have e1 := h7.eq; have e2 := b6.size; omega, h8.lt⟩)
              have HS5 := Lib.hid (show W2.heap.size ≤ W5.heap.size from by have e1 := HQ7.out; omega)
              have HP8 := Lib.hid (HPR.out.new HF8.out)
              have H68 := Lib.hid ((H65.out.new (fr_new b6 h7.below)).keep k8 (by have e1 := HQ6.out; have e2 := HQ9.out; have e3 := HS5.out; omega))
              have H78 := Lib.hid ((H75.out.new (fr_new b6 h7.below)).keep k8 (by have e1 := HQ7.out; have e2 := HQ9.out; omega))
              have H98 := Lib.hid h8
              clear c18 b6 h7 h8 k8
              have x0 := HCW.out _ HP8.out.lv.below 0 (.int .u8 t) (by rw [← HKD.out]; rfl)
              rw [Nat.add_zero] at x0
              have x21 := HCW.out _ HP8.out.lv.below 21 _ rfl
              go_wp2_with (first
                | ((with_reducible refine at_wq ?_); refine wpList_load_bk rfl 40 (.tmp 7) rfl q7 0 (ansC an) (ansC an) H78.out rfl _ Tryd.underlying40 rfl info_an rfl ?_)
                | ((with_reducible refine at_wq ?_); refine wpList_load_bk rfl 40 (.tmp 9) rfl q9 0 (ansC an) (ansC an) H98.out rfl _ Tryd.underlying40 rfl info_an rfl ?_)
                | (go_at_call 14; refine (HP8.out.at x.it.k).mono ?_; rintro e1 W9 ⟨rfl, b9⟩; unfold atV; rw [HAY.out, HAB.out])
                | ((with_reducible refine at_wq ?_); refine wpList_alloc_bk rfl 38 (itC Itm.none) alloc_it rfl ?_; intro W10 q11 h10)
                | ((with_reducible refine at_wq ?_); refine wpList_store_bk rfl 38 (.tmp 11) (.tmp 91) rfl q11 0 (itC Itm.none) (itC ay) (itC ay) h10.bk (Nat.le_refl 6) rfl info_it (itC_one _) rfl rfl ?_; intro W11 h11 k11; have HF11 := Lib.hid (show Below W8.heap.size W8 W11 from fr_set (fr_new b9 h10.below) k11 (h10.at b9)); have HP11 := Lib.hid (HP8.out.new HF11.out); have H611 := Lib.hid (H68.out.new HF11.out); have HQ11 := Lib.hid (show W8.heap.size ≤ q11 from h10.at b9); have HI11 := Lib.hid h11; clear b9 h10 h11 k11 x0 x21; have x0 := HCW.out _ HP11.out.lv.below 0 (.int .u8 t) (by rw [← HKD.out]; rfl); rw [Nat.add_zero] at x0; have HPT11 := Lib.hid (RdA.parts (fun j v hj => HCW.out _ HP11.out.lv.below j v hj))))
              obtain ⟨D, hD⟩ : ∃ D, D = ay := ⟨_, rfl⟩
              rw [← hD] at HI11
              have HDS := Lib.hid (show D.k.size ≤ maxLen from by rw [hD, ← HAY.out]; exact look_size HPR.out.lv.ok _)
              clear x0
              clear hD
              obtain ⟨bD, hbD⟩ : ∃ b, (S.drop D).1 = b := ⟨_, rfl⟩
              have HBD := Lib.hid hbD
              obtain ⟨S1, hS1⟩ : ∃ T, (S.drop D).2 = T := ⟨_, rfl⟩
              have HS1 := Lib.hid hS1
              clear hbD hS1
              have HQN := Lib.hid (show ¬ MpB m mv q11 ∧ ¬ MpB m mv q6 ∧ q11 ≠ r ∧ q6 ≠ r from ⟨fun s => by have e1 := HP8.out.lv.mp.lts _ s; have e2 := HQ11.out; omega, fun s => by have e1 := HPR.out.lv.mp.lts _ s; have e2 := HQ6.out; omega, by have e1 := HP8.out.rm.lt; have e2 := HQ11.out; omega, by have e1 := HPR.out.rm.lt; have e2 := HQ6.out; omega⟩)
              have hdr : Below W11.heap.size W11 W11.drew := (Below.refl _ _).drew
              have HPD := Lib.hid (HP11.out.new hdr)
              have HID := Lib.hid (HI11.out.new hdr)
              have H6D := Lib.hid (H611.out.new hdr)
              clear hdr
              refine wp_region_held_drew (S := fun X => Bk X q11 (itC D)) (by kernel_rfl) (HID.out) (fun hHeld => ?_)
              refine wpAnyH_take (i := 0) (oi := ({ dst := some 104, op := Op.move (Operand.tmp 3), type := 25, pos := "law.go:55", after := #[], guard := none })) (v := ?_) rfl (by kernel_rfl) (by kernel_rfl) (by kernel_rfl) (fun _ _ _ h => h) (Or.inl ⟨by rfl, ?_⟩) (by assumption) ?_
              rotate_left 1
              · (intro w9 hSw; (try dsimp only at hSw); go_simp; try with_reducible rfl)
              try simp only [Act.put, List.setIfInBounds_toArray, List.set_cons_zero, List.set_cons_succ]
              refine wpAnyH_take (i := 1) (oi := ({ dst := some 105, op := Op.load 38 (Operand.tmp 11), type := 38, pos := "law.go:55", after := #[], guard := none })) (v := (.agg (itC D).toArray)) rfl (by kernel_rfl) (by kernel_rfl) (by kernel_rfl) (fun _ _ _ h => h) (Or.inl ⟨by rfl, ?_⟩) (by assumption) ?_
              · (intro w9 hSw; (try dsimp only at hSw); exact exec_load_bk 38 (.tmp 11) rfl q11 (itC D) rfl hSw _ Tryd.underlying38 rfl info_it)
              try simp only [Act.put, List.setIfInBounds_toArray, List.set_cons_zero, List.set_cons_succ]
              refine wpAnyH_take (i := 3) (oi := ({ dst := some 107, op := Op.move (Operand.tmp 4), type := 27, pos := "law.go:55", after := #[], guard := none })) (v := ?_) rfl (by kernel_rfl) (by kernel_rfl) (by kernel_rfl) (fun _ _ _ h => h) (Or.inl ⟨by rfl, ?_⟩) (by assumption) ?_
              rotate_left 1
              · (intro w9 hSw; (try dsimp only at hSw); go_simp; try with_reducible rfl)
              try simp only [Act.put, List.setIfInBounds_toArray, List.set_cons_zero, List.set_cons_succ]
              refine wpAnyH_take (i := 4) (oi := ({ dst := some 108, op := Op.load 38 (Operand.tmp 11), type := 38, pos := "law.go:55", after := #[], guard := none })) (v := (.agg (itC D).toArray)) rfl (by kernel_rfl) (by kernel_rfl) (by kernel_rfl) (fun _ _ _ h => h) (Or.inl ⟨by rfl, ?_⟩) (by assumption) ?_
              · (intro w9 hSw; (try dsimp only at hSw); exact exec_load_bk 38 (.tmp 11) rfl q11 (itC D) rfl hSw _ Tryd.underlying38 rfl info_it)
              try simp only [Act.put, List.setIfInBounds_toArray, List.set_cons_zero, List.set_cons_succ]
              refine wpAnyH_ready (rs := [2]) (by kernel_rfl) (by simp) ?_
              refine AllReadyH.cons (o := ({ dst := some 106, op := Op.call { callee := Callee.value (Operand.func 15), args := #[Operand.tmp 104, Operand.tmp 105], argTypes := #[25, 38] }, type := 4, pos := "law.go:55", after := #[{ on := 0, ground := Ground.data }, { on := 1, ground := Ground.data }], guard := none })) rfl (fun K hK => ?_) AllReadyH.nil
              go_simp
              refine (HPD.out.drop HDS.out).mono ?_
              rintro e1 Y1 ⟨rfl, ⟨mv1, hf1⟩, kp1⟩
              rw [HBD.out]
              refine hK.out _ _ (HID.out.keep kp1 HQN.out.1) (fun hHeld => ?_)
              clear hK K
              try simp only [Act.put, List.setIfInBounds_toArray, List.set_cons_zero, List.set_cons_succ]
              refine wpAnyH_ready (rs := [5]) (by kernel_rfl) (by simp) ?_
              refine AllReadyH.cons (o := ({ dst := some 109, op := Op.call { callee := Callee.value (Operand.func 16), args := #[Operand.tmp 107, Operand.tmp 108], argTypes := #[27, 38] }, type := 4, pos := "law.go:55", after := #[{ on := 3, ground := Ground.data }, { on := 4, ground := Ground.data }, { on := 2, ground := Ground.chain }], guard := none })) rfl (fun K hK => ?_) AllReadyH.nil
              go_simp
              refine (hf1.drop (by omega)).mono ?_
              rintro e1 V ⟨rfl, hpv, kp2⟩
              rw [HBD.out]
              refine hK.out _ _ ((HID.out.keep kp1 HQN.out.1).keep kp2 HQN.out.2.2.1) (fun hHeld => ?_)
              clear hK K
              try simp only [Act.put, List.setIfInBounds_toArray, List.set_cons_zero, List.set_cons_succ]
              refine wpAnyH_take (i := 6) (oi := ({ dst := some 110, op := Op.binOp BinOp.neq 4 (Operand.tmp 106) (Operand.tmp 109) 4, type := 4, pos := "law.go:55", after := #[{ on := 2, ground := Ground.data }, { on := 5, ground := Ground.data }], guard := none })) (v := ?_) rfl (by kernel_rfl) (by kernel_rfl) (by kernel_rfl) (fun _ _ _ h => h) (Or.inl ⟨by rfl, ?_⟩) (by assumption) ?_
              rotate_left 1
              · (intro w9 hSw; (try dsimp only at hSw); go_simp; try with_reducible rfl)
              try simp only [Act.put, List.setIfInBounds_toArray, List.set_cons_zero, List.set_cons_succ]
              refine wpAnyH_done (by kernel_rfl) ?_ _
              rw [HS1.out] at hpv
              have HPV := Lib.hid hpv
              have H6V := Lib.hid ((H6D.out.keep kp1 HQN.out.2.1).keep kp2 HQN.out.2.2.2)
              clear hpv kp1 kp2 hf1 hHeld
              as_aux_lemma =>
                obtain ⟨r1, hr1⟩ : ∃ y, (mlook S1.L x.it.k).getD Itm.none = y := ⟨_, rfl⟩
                obtain ⟨f1, hf1⟩ : ∃ b, (mlook S1.L x.it.k).isSome = b := ⟨_, rfl⟩
                obtain ⟨r2, hr2⟩ : ∃ y, (mlook S1.L x.d.c.key).getD Itm.none = y := ⟨_, rfl⟩
                obtain ⟨f2, hf2⟩ : ∃ b, (mlook S1.L x.d.c.key).isSome = b := ⟨_, rfl⟩
                have Hr1 := Lib.hid hr1
                have Hf1 := Lib.hid hf1
                have Hr2 := Lib.hid hr2
                have Hf2 := Lib.hid hf2
                clear hr1 hf1 hr2 hf2
                have z21 := HCW.out _ HPV.out.lv.below 21 _ rfl
                have c2 := H6V.out.at_ 2 _ rfl
                go_upto_region 27 with (first
                  | (go_at_call 20; refine (Atw HPV.out.lv.mp x.it.k HY.out.k).mono ?_; rintro e1 UA ⟨rfl, bA⟩; unfold atV; rw [Hr1.out, Hf1.out])
                  | ((with_reducible refine at_wq ?_); refine wpList_alloc_bk rfl 38 (itC Itm.none) alloc_it rfl ?_; intro UB q13 hA)
                  | ((with_reducible refine at_wq ?_); refine wpList_store_bk rfl 38 (.tmp 13) (.tmp 130) rfl q13 0 (itC Itm.none) (itC r1) (itC r1) hA.bk (Nat.le_refl 6) rfl info_it (itC_one _) rfl rfl ?_; intro V1 hE kE))
                have HFV1 := Lib.hid (show Below V.heap.size V V1 from fr_set (fr_new bA hA.below) kE (hA.at bA))
                have HPV1 := Lib.hid (HPV.out.new HFV1.out)
                have H6V1 := Lib.hid (H6V.out.new HFV1.out)
                have HQV1 := Lib.hid (show V.heap.size ≤ q13 from hA.at (Below.refl _ _ |>.trans bA))
                have HI13V1 := Lib.hid hE
                clear bA hA hE kE z21 c2
                have z21 := HCW.out _ HPV1.out.lv.below 21 _ rfl
                have c2 := H6V1.out.at_ 2 _ rfl
                go_upto_region 28 with (first
                  | (go_at_call 14; refine (HPV1.out.at x.it.k).mono ?_; rintro e1 UA ⟨rfl, bA⟩; unfold atV; rw [Hr1.out, Hf1.out])
                  | ((with_reducible refine at_wq ?_); refine wpList_alloc_bk rfl 38 (itC Itm.none) alloc_it rfl ?_; intro UB q15 hA)
                  | ((with_reducible refine at_wq ?_); refine wpList_store_bk rfl 38 (.tmp 15) (.tmp 141) rfl q15 0 (itC Itm.none) (itC r1) (itC r1) hA.bk (Nat.le_refl 6) rfl info_it (itC_one _) rfl rfl ?_; intro V2 hE kE))
                have HFV2 := Lib.hid (show Below V1.heap.size V1 V2 from fr_set (fr_new bA hA.below) kE (hA.at bA))
                have HPV2 := Lib.hid (HPV1.out.new HFV2.out)
                have H6V2 := Lib.hid (H6V1.out.new HFV2.out)
                have HQV2 := Lib.hid (show V1.heap.size ≤ q15 from hA.at (Below.refl _ _ |>.trans bA))
                have HI13V2 := Lib.hid (HI13V1.out.new HFV2.out)
                have HI15V2 := Lib.hid hE
                clear bA hA hE kE z21 c2
                have z21 := HCW.out _ HPV2.out.lv.below 21 _ rfl
                have c2 := H6V2.out.at_ 2 _ rfl
                go_upto_region 29 with (first
                  | (go_at_call 20; refine (Atw HPV2.out.lv.mp x.d.c.key HY.out.c.key).mono ?_; rintro e1 UA ⟨rfl, bA⟩; unfold atV; rw [Hr2.out, Hf2.out])
                  | ((with_reducible refine at_wq ?_); refine wpList_alloc_bk rfl 38 (itC Itm.none) alloc_it rfl ?_; intro UB q17 hA)
                  | ((with_reducible refine at_wq ?_); refine wpList_store_bk rfl 38 (.tmp 17) (.tmp 149) rfl q17 0 (itC Itm.none) (itC r2) (itC r2) hA.bk (Nat.le_refl 6) rfl info_it (itC_one _) rfl rfl ?_; intro V3 hE kE))
                have HFV3 := Lib.hid (show Below V2.heap.size V2 V3 from fr_set (fr_new bA hA.below) kE (hA.at bA))
                have HPV3 := Lib.hid (HPV2.out.new HFV3.out)
                have H6V3 := Lib.hid (H6V2.out.new HFV3.out)
                have HQV3 := Lib.hid (show V2.heap.size ≤ q17 from hA.at (Below.refl _ _ |>.trans bA))
                have HI13V3 := Lib.hid (HI13V2.out.new HFV3.out)
                have HI15V3 := Lib.hid (HI15V2.out.new HFV3.out)
                have HI17V3 := Lib.hid hE
                clear bA hA hE kE z21 c2
                have z21 := HCW.out _ HPV3.out.lv.below 21 _ rfl
                have c2 := H6V3.out.at_ 2 _ rfl
                go_upto_region 30 with (first
                  | (go_at_call 14; refine (HPV3.out.at x.d.c.key).mono ?_; rintro e1 UA ⟨rfl, bA⟩; unfold atV; rw [Hr2.out, Hf2.out])
                  | ((with_reducible refine at_wq ?_); refine wpList_alloc_bk rfl 38 (itC Itm.none) alloc_it rfl ?_; intro UB q19 hA)
                  | ((with_reducible refine at_wq ?_); refine wpList_store_bk rfl 38 (.tmp 19) (.tmp 157) rfl q19 0 (itC Itm.none) (itC r2) (itC r2) hA.bk (Nat.le_refl 6) rfl info_it (itC_one _) rfl rfl ?_; intro V4 hE kE))
                have HFV4 := Lib.hid (show Below V3.heap.size V3 V4 from fr_set (fr_new bA hA.below) kE (hA.at bA))
                have HPV4 := Lib.hid (HPV3.out.new HFV4.out)
                have H6V4 := Lib.hid (H6V3.out.new HFV4.out)
                have HQV4 := Lib.hid (show V3.heap.size ≤ q19 from hA.at (Below.refl _ _ |>.trans bA))
                have HI13V4 := Lib.hid (HI13V3.out.new HFV4.out)
                have HI15V4 := Lib.hid (HI15V3.out.new HFV4.out)
                have HI17V4 := Lib.hid (HI17V3.out.new HFV4.out)
                have HI19V4 := Lib.hid hE
                clear bA hA hE kE z21 c2
                have z21 := HCW.out _ HPV4.out.lv.below 21 _ rfl
                have c2 := H6V4.out.at_ 2 _ rfl
                obtain ⟨a0, a1, a2, a3, a4, a5⟩ := it_cells HI13V4.out
                obtain ⟨b0, b1, b2, b3, b4, b5⟩ := it_cells HI15V4.out
                obtain ⟨d0, d1, d2, d3, d4, d5⟩ := it_cells HI17V4.out
                obtain ⟨e0, e1, e2, e3, e4, e5⟩ := it_cells HI19V4.out
                have hs1 := it_same r1
                have hs2 := it_same r2
                go_wp2_with (first
                  | (go_at_call 21; refine (HPV4.out.same).mono ?_; rintro e1 V5 ⟨rfl, b5⟩; clear a0 a1 a2 a3 a4 a5 b0 b1 b2 b3 b4 d0 d1 d2 d3 d4 d5 e0 e1 e2 e3 e4 e5 z21 c2; have HF5V := Lib.hid b5))
                go_roundw
                case rel => exact ⟨k + 1, mv1, S1, by omega, by go_num, HPV4.out.new HF5V.out⟩
                case measure => simp [intOf]; omega
        · by_cases k1 : t % 6 = 1
          · have e0 : (t % 6 == 0) = false := beq_eq_false_iff_ne.mpr k0
            have e1 : (t % 6 == 1) = true := beq_iff_eq.mpr k1
            as_aux_lemma =>
              go_upto_region 9 with (first
                | ((with_reducible refine at_wq ?_); refine wpList_load_mid rfl 42 (.tmp 36) rfl b (off + k * 27 + 1) rfl (cldC x.d) _ HPT.out.1 Tryd.underlying42 rfl info_hc ?_)
                | ((with_reducible refine at_wq ?_); refine wpList_alloc_bk rfl 42 (cldC cld0) alloc_hc rfl ?_; intro W1 q6 h1)
                | ((with_reducible refine at_wq ?_); refine wpList_store_bk rfl 42 (.tmp 6) (.tmp 37) rfl q6 0 (cldC cld0) (cldC x.d) (cldC x.d) h1.bk (Nat.le_refl 20) rfl info_hc (cldC_one _) rfl rfl ?_; intro W2 h2 k2))
              have HF2 := Lib.hid (show Below wr.heap.size wr W2 from fr_set h1.below k2 (by rw [h1.eq]; exact Nat.le_refl _))
              have HP2 := Lib.hid (HPR.out.new HF2.out)
              have H62 := Lib.hid h2
              have HQ6 := Lib.hid (show q6 = wr.heap.size ∧ q6 < W2.heap.size from ⟨h1.eq, h2.lt⟩)
              have c18 := h2.at_ 18 _ rfl
              clear h1 h2 k2
              go_upto_region 10 with (first
                | ((with_reducible refine at_wq ?_); refine wpList_load_bk rfl 35 (.tmp 40) rfl q6 1 (cldC x.d) (calC x.d.c) H62.out rfl _ Tryd.underlying35 rfl info_ca rfl ?_)
                | (go_at_call 12; refine (Givesw HP2.out.lv.mp HP2.out.lv.ok HY.out.c HY.out.e (HP2.out.lv.tab HT.out)).mono ?_; rintro e1 W3 ⟨rfl, b3⟩; rw [HGA.out, HGB.out])
                | ((with_reducible refine at_wq ?_); refine wpList_alloc_bk rfl 40 (ansC Ans.none) alloc_an rfl ?_; intro W4 q7 h4)
                | ((with_reducible refine at_wq ?_); refine wpList_store_bk rfl 40 (.tmp 7) (.tmp 45) rfl q7 0 (ansC Ans.none) (ansC an) (ansC an) h4.bk (Nat.le_refl 8) rfl info_an (ansC_one _) rfl rfl ?_; intro W5 h5 k5))
              have HF3 := Lib.hid (fr_new HF2.out b3)
              have HF5 := Lib.hid (fr_set (fr_new HF3.out h4.below) k5 (h4.at HF3.out))
              have HQ7 := Lib.hid (show W2.heap.size ≤ q7 ∧ q7 < W5.heap.size from ⟨by have e1 := h4.eq; have e2 := b3.size; omega, h5.lt⟩)
              have HP5 := Lib.hid (HPR.out.new HF5.out)
              have H65 := Lib.hid ((H62.out.new (fr_new b3 h4.below)).keep k5 (by have e1 := HQ6.out; have e2 := HQ7.out; omega))
              have H75 := Lib.hid h5
              clear c18 b3 h4 h5 k5
              have c18 := H65.out.at_ 18 _ rfl
              go_upto_region 11 with (first
                | ((with_reducible refine at_wq ?_); refine wpList_load_bk rfl 35 (.tmp 49) rfl q6 1 (cldC x.d) (calC x.d.c) H65.out rfl _ Tryd.underlying35 rfl info_ca rfl ?_)
                | (go_at_call 13; refine (HP5.out.gives HY.out.c HY.out.e (by omega)).mono ?_; rintro e1 W6 ⟨rfl, b6⟩; rw [HGA.out, HGB.out])
                | ((with_reducible refine at_wq ?_); refine wpList_alloc_bk rfl 40 (ansC Ans.none) alloc_an rfl ?_; intro W7 q9 h7)
                | ((with_reducible refine at_wq ?_); refine wpList_store_bk rfl 40 (.tmp 9) (.tmp 54) rfl q9 0 (ansC Ans.none) (ansC an) (ansC an) h7.bk (Nat.le_refl 8) rfl info_an (ansC_one _) rfl rfl ?_; intro W8 h8 k8))
              have HF6 := Lib.hid (fr_new HF5.out b6)
              have HF8 := Lib.hid (fr_set (fr_new HF6.out h7.below) k8 (h7.at HF6.out))
              have HQ9 := Lib.hid (show W5.heap.size ≤ q9 ∧ q9 < W8.heap.size from ⟨by have e1 := h7.eq; have e2 := b6.size; omega, h8.lt⟩)
              have HS5 := Lib.hid (show W2.heap.size ≤ W5.heap.size from by have e1 := HQ7.out; omega)
              have HP8 := Lib.hid (HPR.out.new HF8.out)
              have H68 := Lib.hid ((H65.out.new (fr_new b6 h7.below)).keep k8 (by have e1 := HQ6.out; have e2 := HQ9.out; have e3 := HS5.out; omega))
              have H78 := Lib.hid ((H75.out.new (fr_new b6 h7.below)).keep k8 (by have e1 := HQ7.out; have e2 := HQ9.out; omega))
              have H98 := Lib.hid h8
              clear c18 b6 h7 h8 k8
              have x0 := HCW.out _ HP8.out.lv.below 0 (.int .u8 t) (by rw [← HKD.out]; rfl)
              rw [Nat.add_zero] at x0
              have x21 := HCW.out _ HP8.out.lv.below 21 _ rfl
              go_wp2_with (first
                | ((with_reducible refine at_wq ?_); refine wpList_load_bk rfl 40 (.tmp 7) rfl q7 0 (ansC an) (ansC an) H78.out rfl _ Tryd.underlying40 rfl info_an rfl ?_)
                | ((with_reducible refine at_wq ?_); refine wpList_load_bk rfl 40 (.tmp 9) rfl q9 0 (ansC an) (ansC an) H98.out rfl _ Tryd.underlying40 rfl info_an rfl ?_))
              clear x0 x21
              obtain ⟨dd, hdd⟩ : ∃ d : Cld, d = x.d := ⟨_, rfl⟩
              have HDC := Lib.hid (show dd.c = x.d.c ∧ dd.e = x.d.e from by rw [hdd]; exact ⟨rfl, rfl⟩)
              rw [← hdd] at H68
              clear hdd
              obtain ⟨bD, hbD⟩ : ∃ b, (S.fits dd.c dd.e dd.a).1 = b := ⟨_, rfl⟩
              have HBD := Lib.hid hbD
              obtain ⟨S1, hS1⟩ : ∃ T, (S.fits dd.c dd.e dd.a).2 = T := ⟨_, rfl⟩
              have HS1 := Lib.hid hS1
              clear hbD hS1
              have HYC := Lib.hid (show CalOk dd.c ∧ 0 ≤ dd.e ∧ dd.e < 18446744073709551616 from by rw [HDC.out.1, HDC.out.2]; exact ⟨HY.out.c, HY.out.e⟩)
              have HQN := Lib.hid (show ¬ MpB m mv q6 ∧ q6 ≠ r from ⟨fun s => by have e1 := HPR.out.lv.mp.lts _ s; have e2 := HQ6.out; omega, by have e1 := HPR.out.rm.lt; have e2 := HQ6.out; omega⟩)
              have hdr : Below W8.heap.size W8 W8.drew := (Below.refl _ _).drew
              have HPD := Lib.hid (HP8.out.new hdr)
              have H6D := Lib.hid (H68.out.new hdr)
              clear hdr
              refine wp_region_held_drew (S := fun X => Bk X q6 (cldC dd)) (by kernel_rfl) (H6D.out) (fun hHeld => ?_)
              refine wpAnyH_take (i := 0) (oi := ({ dst := some 113, op := Op.move (Operand.tmp 3), type := 25, pos := "law.go:59", after := #[], guard := none })) (v := ?_) rfl (by kernel_rfl) (by kernel_rfl) (by kernel_rfl) (fun _ _ _ h => h) (Or.inl ⟨by rfl, ?_⟩) (by assumption) ?_
              rotate_left 1
              · (intro w9 hSw; (try dsimp only at hSw); go_simp; try with_reducible rfl)
              try simp only [Act.put, List.setIfInBounds_toArray, List.set_cons_zero, List.set_cons_succ]
              refine wpAnyH_take (i := 1) (oi := ({ dst := some 114, op := Op.load 42 (Operand.tmp 6), type := 42, pos := "law.go:59", after := #[], guard := none })) (v := (.agg (cldC dd).toArray)) rfl (by kernel_rfl) (by kernel_rfl) (by kernel_rfl) (fun _ _ _ h => h) (Or.inl ⟨by rfl, ?_⟩) (by assumption) ?_
              · (intro w9 hSw; (try dsimp only at hSw); exact exec_load_bk 42 (.tmp 6) rfl q6 (cldC dd) rfl hSw _ Tryd.underlying42 rfl info_hc)
              try simp only [Act.put, List.setIfInBounds_toArray, List.set_cons_zero, List.set_cons_succ]
              refine wpAnyH_take (i := 3) (oi := ({ dst := some 116, op := Op.move (Operand.tmp 4), type := 27, pos := "law.go:59", after := #[], guard := none })) (v := ?_) rfl (by kernel_rfl) (by kernel_rfl) (by kernel_rfl) (fun _ _ _ h => h) (Or.inl ⟨by rfl, ?_⟩) (by assumption) ?_
              rotate_left 1
              · (intro w9 hSw; (try dsimp only at hSw); go_simp; try with_reducible rfl)
              try simp only [Act.put, List.setIfInBounds_toArray, List.set_cons_zero, List.set_cons_succ]
              refine wpAnyH_take (i := 4) (oi := ({ dst := some 117, op := Op.load 42 (Operand.tmp 6), type := 42, pos := "law.go:59", after := #[], guard := none })) (v := (.agg (cldC dd).toArray)) rfl (by kernel_rfl) (by kernel_rfl) (by kernel_rfl) (fun _ _ _ h => h) (Or.inl ⟨by rfl, ?_⟩) (by assumption) ?_
              · (intro w9 hSw; (try dsimp only at hSw); exact exec_load_bk 42 (.tmp 6) rfl q6 (cldC dd) rfl hSw _ Tryd.underlying42 rfl info_hc)
              try simp only [Act.put, List.setIfInBounds_toArray, List.set_cons_zero, List.set_cons_succ]
              refine wpAnyH_ready (rs := [2]) (by kernel_rfl) (by simp) ?_
              refine AllReadyH.cons (o := ({ dst := some 115, op := Op.call { callee := Callee.value (Operand.func 17), args := #[Operand.tmp 113, Operand.tmp 114], argTypes := #[25, 42] }, type := 4, pos := "law.go:59", after := #[{ on := 0, ground := Ground.data }, { on := 1, ground := Ground.data }], guard := none })) rfl (fun K hK => ?_) AllReadyH.nil
              go_simp
              refine (HPD.out.fits (d := dd) HYC.out.1 HYC.out.2 HT.out (by omega)).mono ?_
              rintro e1 Y1 ⟨rfl, ⟨mv1, hf1⟩, kp1⟩
              rw [HBD.out]
              refine hK.out _ _ (H6D.out.keep kp1 HQN.out.1) (fun hHeld => ?_)
              clear hK K
              try simp only [Act.put, List.setIfInBounds_toArray, List.set_cons_zero, List.set_cons_succ]
              refine wpAnyH_ready (rs := [5]) (by kernel_rfl) (by simp) ?_
              refine AllReadyH.cons (o := ({ dst := some 118, op := Op.call { callee := Callee.value (Operand.func 19), args := #[Operand.tmp 117], argTypes := #[42] }, type := 52, pos := "law.go:59", after := #[{ on := 4, ground := Ground.data }, { on := 2, ground := Ground.chain }], guard := none })) rfl (fun K hK => ?_) AllReadyH.nil
              go_simp
              refine (otherw dd _).mono ?_
              rintro e1 Y2 ⟨rfl, b2⟩
              refine hK.out _ _ ((H6D.out.keep kp1 HQN.out.1).new b2) (fun hHeld => ?_)
              clear hK K
              try simp only [Act.put, List.setIfInBounds_toArray, List.set_cons_zero, List.set_cons_succ]
              refine wpAnyH_ready (rs := [6]) (by kernel_rfl) (by simp) ?_
              refine AllReadyH.cons (o := ({ dst := some 119, op := Op.call { callee := Callee.value (Operand.func 18), args := #[Operand.tmp 116, Operand.tmp 118], argTypes := #[27, 52] }, type := 4, pos := "law.go:59", after := #[{ on := 3, ground := Ground.data }, { on := 5, ground := Ground.data }, { on := 5, ground := Ground.chain }], guard := none })) rfl (fun K hK => ?_) AllReadyH.nil
              go_simp
              refine ((hf1.new b2).fits (d := dd) HYC.out.1 HYC.out.2 (by omega)).mono ?_
              rintro e1 V ⟨rfl, hpv, kp2⟩
              rw [HBD.out]
              refine hK.out _ _ (((H6D.out.keep kp1 HQN.out.1).new b2).keep kp2 HQN.out.2) (fun hHeld => ?_)
              clear hK K
              try simp only [Act.put, List.setIfInBounds_toArray, List.set_cons_zero, List.set_cons_succ]
              refine wpAnyH_take (i := 7) (oi := ({ dst := some 120, op := Op.binOp BinOp.neq 4 (Operand.tmp 115) (Operand.tmp 119) 4, type := 4, pos := "law.go:59", after := #[{ on := 2, ground := Ground.data }, { on := 6, ground := Ground.data }], guard := none })) (v := ?_) rfl (by kernel_rfl) (by kernel_rfl) (by kernel_rfl) (fun _ _ _ h => h) (Or.inl ⟨by rfl, ?_⟩) (by assumption) ?_
              rotate_left 1
              · (intro w9 hSw; (try dsimp only at hSw); go_simp; try with_reducible rfl)
              try simp only [Act.put, List.setIfInBounds_toArray, List.set_cons_zero, List.set_cons_succ]
              refine wpAnyH_done (by kernel_rfl) ?_ _
              rw [HS1.out] at hpv
              have HPV := Lib.hid hpv
              have H6V := Lib.hid (((H6D.out.keep kp1 HQN.out.1).new b2).keep kp2 HQN.out.2)
              clear hpv kp1 kp2 hf1 b2 hHeld
              as_aux_lemma =>
                obtain ⟨r1, hr1⟩ : ∃ y, (mlook S1.L x.it.k).getD Itm.none = y := ⟨_, rfl⟩
                obtain ⟨f1, hf1⟩ : ∃ b, (mlook S1.L x.it.k).isSome = b := ⟨_, rfl⟩
                obtain ⟨r2, hr2⟩ : ∃ y, (mlook S1.L x.d.c.key).getD Itm.none = y := ⟨_, rfl⟩
                obtain ⟨f2, hf2⟩ : ∃ b, (mlook S1.L x.d.c.key).isSome = b := ⟨_, rfl⟩
                have Hr1 := Lib.hid hr1
                have Hf1 := Lib.hid hf1
                have Hr2 := Lib.hid hr2
                have Hf2 := Lib.hid hf2
                clear hr1 hf1 hr2 hf2
                have z21 := HCW.out _ HPV.out.lv.below 21 _ rfl
                have c2 := H6V.out.at_ 2 _ rfl
                rw [HDC.out.1] at c2
                go_upto_region 27 with (first
                  | (go_at_call 20; refine (Atw HPV.out.lv.mp x.it.k HY.out.k).mono ?_; rintro e1 UA ⟨rfl, bA⟩; unfold atV; rw [Hr1.out, Hf1.out])
                  | ((with_reducible refine at_wq ?_); refine wpList_alloc_bk rfl 38 (itC Itm.none) alloc_it rfl ?_; intro UB q13 hA)
                  | ((with_reducible refine at_wq ?_); refine wpList_store_bk rfl 38 (.tmp 13) (.tmp 130) rfl q13 0 (itC Itm.none) (itC r1) (itC r1) hA.bk (Nat.le_refl 6) rfl info_it (itC_one _) rfl rfl ?_; intro V1 hE kE))
                have HFV1 := Lib.hid (show Below V.heap.size V V1 from fr_set (fr_new bA hA.below) kE (hA.at bA))
                have HPV1 := Lib.hid (HPV.out.new HFV1.out)
                have H6V1 := Lib.hid (H6V.out.new HFV1.out)
                have HQV1 := Lib.hid (show V.heap.size ≤ q13 from hA.at (Below.refl _ _ |>.trans bA))
                have HI13V1 := Lib.hid hE
                clear bA hA hE kE z21 c2
                have z21 := HCW.out _ HPV1.out.lv.below 21 _ rfl
                have c2 := H6V1.out.at_ 2 _ rfl
                rw [HDC.out.1] at c2
                go_upto_region 28 with (first
                  | (go_at_call 14; refine (HPV1.out.at x.it.k).mono ?_; rintro e1 UA ⟨rfl, bA⟩; unfold atV; rw [Hr1.out, Hf1.out])
                  | ((with_reducible refine at_wq ?_); refine wpList_alloc_bk rfl 38 (itC Itm.none) alloc_it rfl ?_; intro UB q15 hA)
                  | ((with_reducible refine at_wq ?_); refine wpList_store_bk rfl 38 (.tmp 15) (.tmp 141) rfl q15 0 (itC Itm.none) (itC r1) (itC r1) hA.bk (Nat.le_refl 6) rfl info_it (itC_one _) rfl rfl ?_; intro V2 hE kE))
                have HFV2 := Lib.hid (show Below V1.heap.size V1 V2 from fr_set (fr_new bA hA.below) kE (hA.at bA))
                have HPV2 := Lib.hid (HPV1.out.new HFV2.out)
                have H6V2 := Lib.hid (H6V1.out.new HFV2.out)
                have HQV2 := Lib.hid (show V1.heap.size ≤ q15 from hA.at (Below.refl _ _ |>.trans bA))
                have HI13V2 := Lib.hid (HI13V1.out.new HFV2.out)
                have HI15V2 := Lib.hid hE
                clear bA hA hE kE z21 c2
                have z21 := HCW.out _ HPV2.out.lv.below 21 _ rfl
                have c2 := H6V2.out.at_ 2 _ rfl
                rw [HDC.out.1] at c2
                go_upto_region 29 with (first
                  | (go_at_call 20; refine (Atw HPV2.out.lv.mp x.d.c.key HY.out.c.key).mono ?_; rintro e1 UA ⟨rfl, bA⟩; unfold atV; rw [Hr2.out, Hf2.out])
                  | ((with_reducible refine at_wq ?_); refine wpList_alloc_bk rfl 38 (itC Itm.none) alloc_it rfl ?_; intro UB q17 hA)
                  | ((with_reducible refine at_wq ?_); refine wpList_store_bk rfl 38 (.tmp 17) (.tmp 149) rfl q17 0 (itC Itm.none) (itC r2) (itC r2) hA.bk (Nat.le_refl 6) rfl info_it (itC_one _) rfl rfl ?_; intro V3 hE kE))
                have HFV3 := Lib.hid (show Below V2.heap.size V2 V3 from fr_set (fr_new bA hA.below) kE (hA.at bA))
                have HPV3 := Lib.hid (HPV2.out.new HFV3.out)
                have H6V3 := Lib.hid (H6V2.out.new HFV3.out)
                have HQV3 := Lib.hid (show V2.heap.size ≤ q17 from hA.at (Below.refl _ _ |>.trans bA))
                have HI13V3 := Lib.hid (HI13V2.out.new HFV3.out)
                have HI15V3 := Lib.hid (HI15V2.out.new HFV3.out)
                have HI17V3 := Lib.hid hE
                clear bA hA hE kE z21 c2
                have z21 := HCW.out _ HPV3.out.lv.below 21 _ rfl
                have c2 := H6V3.out.at_ 2 _ rfl
                rw [HDC.out.1] at c2
                go_upto_region 30 with (first
                  | (go_at_call 14; refine (HPV3.out.at x.d.c.key).mono ?_; rintro e1 UA ⟨rfl, bA⟩; unfold atV; rw [Hr2.out, Hf2.out])
                  | ((with_reducible refine at_wq ?_); refine wpList_alloc_bk rfl 38 (itC Itm.none) alloc_it rfl ?_; intro UB q19 hA)
                  | ((with_reducible refine at_wq ?_); refine wpList_store_bk rfl 38 (.tmp 19) (.tmp 157) rfl q19 0 (itC Itm.none) (itC r2) (itC r2) hA.bk (Nat.le_refl 6) rfl info_it (itC_one _) rfl rfl ?_; intro V4 hE kE))
                have HFV4 := Lib.hid (show Below V3.heap.size V3 V4 from fr_set (fr_new bA hA.below) kE (hA.at bA))
                have HPV4 := Lib.hid (HPV3.out.new HFV4.out)
                have H6V4 := Lib.hid (H6V3.out.new HFV4.out)
                have HQV4 := Lib.hid (show V3.heap.size ≤ q19 from hA.at (Below.refl _ _ |>.trans bA))
                have HI13V4 := Lib.hid (HI13V3.out.new HFV4.out)
                have HI15V4 := Lib.hid (HI15V3.out.new HFV4.out)
                have HI17V4 := Lib.hid (HI17V3.out.new HFV4.out)
                have HI19V4 := Lib.hid hE
                clear bA hA hE kE z21 c2
                have z21 := HCW.out _ HPV4.out.lv.below 21 _ rfl
                have c2 := H6V4.out.at_ 2 _ rfl
                obtain ⟨a0, a1, a2, a3, a4, a5⟩ := it_cells HI13V4.out
                obtain ⟨b0, b1, b2, b3, b4, b5⟩ := it_cells HI15V4.out
                obtain ⟨d0, d1, d2, d3, d4, d5⟩ := it_cells HI17V4.out
                obtain ⟨e0, e1, e2, e3, e4, e5⟩ := it_cells HI19V4.out
                have hs1 := it_same r1
                have hs2 := it_same r2
                go_wp2_with (first
                  | (go_at_call 21; refine (HPV4.out.same).mono ?_; rintro e1 V5 ⟨rfl, b5⟩; clear a0 a1 a2 a3 a4 a5 b0 b1 b2 b3 b4 d0 d1 d2 d3 d4 d5 e0 e1 e2 e3 e4 e5 z21 c2; have HF5V := Lib.hid b5))
                go_roundw
                case rel => exact ⟨k + 1, mv1, S1, by omega, by go_num, HPV4.out.new HF5V.out⟩
                case measure => simp [intOf]; omega
          · have e0 : (t % 6 == 0) = false := beq_eq_false_iff_ne.mpr k0
            have e1 : (t % 6 == 1) = false := beq_eq_false_iff_ne.mpr k1
            as_aux_lemma =>
              go_upto_region 9 with (first
                | ((with_reducible refine at_wq ?_); refine wpList_load_mid rfl 42 (.tmp 36) rfl b (off + k * 27 + 1) rfl (cldC x.d) _ HPT.out.1 Tryd.underlying42 rfl info_hc ?_)
                | ((with_reducible refine at_wq ?_); refine wpList_alloc_bk rfl 42 (cldC cld0) alloc_hc rfl ?_; intro W1 q6 h1)
                | ((with_reducible refine at_wq ?_); refine wpList_store_bk rfl 42 (.tmp 6) (.tmp 37) rfl q6 0 (cldC cld0) (cldC x.d) (cldC x.d) h1.bk (Nat.le_refl 20) rfl info_hc (cldC_one _) rfl rfl ?_; intro W2 h2 k2))
              have HF2 := Lib.hid (show Below wr.heap.size wr W2 from fr_set h1.below k2 (by rw [h1.eq]; exact Nat.le_refl _))
              have HP2 := Lib.hid (HPR.out.new HF2.out)
              have H62 := Lib.hid h2
              have HQ6 := Lib.hid (show q6 = wr.heap.size ∧ q6 < W2.heap.size from ⟨h1.eq, h2.lt⟩)
              have c18 := h2.at_ 18 _ rfl
              clear h1 h2 k2
              go_upto_region 10 with (first
                | ((with_reducible refine at_wq ?_); refine wpList_load_bk rfl 35 (.tmp 40) rfl q6 1 (cldC x.d) (calC x.d.c) H62.out rfl _ Tryd.underlying35 rfl info_ca rfl ?_)
                | (go_at_call 12; refine (Givesw HP2.out.lv.mp HP2.out.lv.ok HY.out.c HY.out.e (HP2.out.lv.tab HT.out)).mono ?_; rintro e1 W3 ⟨rfl, b3⟩; rw [HGA.out, HGB.out])
                | ((with_reducible refine at_wq ?_); refine wpList_alloc_bk rfl 40 (ansC Ans.none) alloc_an rfl ?_; intro W4 q7 h4)
                | ((with_reducible refine at_wq ?_); refine wpList_store_bk rfl 40 (.tmp 7) (.tmp 45) rfl q7 0 (ansC Ans.none) (ansC an) (ansC an) h4.bk (Nat.le_refl 8) rfl info_an (ansC_one _) rfl rfl ?_; intro W5 h5 k5))
              have HF3 := Lib.hid (fr_new HF2.out b3)
              have HF5 := Lib.hid (fr_set (fr_new HF3.out h4.below) k5 (h4.at HF3.out))
              have HQ7 := Lib.hid (show W2.heap.size ≤ q7 ∧ q7 < W5.heap.size from ⟨by have e1 := h4.eq; have e2 := b3.size; omega, h5.lt⟩)
              have HP5 := Lib.hid (HPR.out.new HF5.out)
              have H65 := Lib.hid ((H62.out.new (fr_new b3 h4.below)).keep k5 (by have e1 := HQ6.out; have e2 := HQ7.out; omega))
              have H75 := Lib.hid h5
              clear c18 b3 h4 h5 k5
              have c18 := H65.out.at_ 18 _ rfl
              go_upto_region 11 with (first
                | ((with_reducible refine at_wq ?_); refine wpList_load_bk rfl 35 (.tmp 49) rfl q6 1 (cldC x.d) (calC x.d.c) H65.out rfl _ Tryd.underlying35 rfl info_ca rfl ?_)
                | (go_at_call 13; refine (HP5.out.gives HY.out.c HY.out.e (by omega)).mono ?_; rintro e1 W6 ⟨rfl, b6⟩; rw [HGA.out, HGB.out])
                | ((with_reducible refine at_wq ?_); refine wpList_alloc_bk rfl 40 (ansC Ans.none) alloc_an rfl ?_; intro W7 q9 h7)
                | ((with_reducible refine at_wq ?_); refine wpList_store_bk rfl 40 (.tmp 9) (.tmp 54) rfl q9 0 (ansC Ans.none) (ansC an) (ansC an) h7.bk (Nat.le_refl 8) rfl info_an (ansC_one _) rfl rfl ?_; intro W8 h8 k8))
              have HF6 := Lib.hid (fr_new HF5.out b6)
              have HF8 := Lib.hid (fr_set (fr_new HF6.out h7.below) k8 (h7.at HF6.out))
              have HQ9 := Lib.hid (show W5.heap.size ≤ q9 ∧ q9 < W8.heap.size from ⟨by have e1 := h7.eq; have e2 := b6.size; omega, h8.lt⟩)
              have HS5 := Lib.hid (show W2.heap.size ≤ W5.heap.size from by have e1 := HQ7.out; omega)
              have HP8 := Lib.hid (HPR.out.new HF8.out)
              have H68 := Lib.hid ((H65.out.new (fr_new b6 h7.below)).keep k8 (by have e1 := HQ6.out; have e2 := HQ9.out; have e3 := HS5.out; omega))
              have H78 := Lib.hid ((H75.out.new (fr_new b6 h7.below)).keep k8 (by have e1 := HQ7.out; have e2 := HQ9.out; omega))
              have H98 := Lib.hid h8
              clear c18 b6 h7 h8 k8
              have x0 := HCW.out _ HP8.out.lv.below 0 (.int .u8 t) (by rw [← HKD.out]; rfl)
              rw [Nat.add_zero] at x0
              have x21 := HCW.out _ HP8.out.lv.below 21 _ rfl
              go_wp2_with (first
                | ((with_reducible refine at_wq ?_); refine wpList_load_bk rfl 40 (.tmp 7) rfl q7 0 (ansC an) (ansC an) H78.out rfl _ Tryd.underlying40 rfl info_an rfl ?_)
                | ((with_reducible refine at_wq ?_); refine wpList_load_bk rfl 40 (.tmp 9) rfl q9 0 (ansC an) (ansC an) H98.out rfl _ Tryd.underlying40 rfl info_an rfl ?_)
                | ((with_reducible refine at_wq ?_); refine wpList_store_bk rfl 40 (.tmp 71) (.tmp 70) rfl q6 10 (cldC x.d) (ansC an) (cldC { x.d with a := an }) H68.out (by show 10 + 8 ≤ 20; decide) rfl info_an (ansC_one _) rfl rfl ?_; intro W11 h11 k11; have HF11 := Lib.hid (show Below wr.heap.size wr W11 from fr_set HF8.out k11 (by rw [HQ6.out.1]; exact Nat.le_refl _)); have HP11 := Lib.hid (HPR.out.new HF11.out); have H611 := Lib.hid h11; clear h11 k11 x0 x21))
              obtain ⟨dd, hdd⟩ : ∃ d : Cld, d = { x.d with a := an } := ⟨_, rfl⟩
              have HDC := Lib.hid (show dd.c = x.d.c ∧ dd.e = x.d.e from by rw [hdd]; exact ⟨rfl, rfl⟩)
              rw [← hdd] at H611
              clear hdd
              obtain ⟨bD, hbD⟩ : ∃ b, (S.fits dd.c dd.e dd.a).1 = b := ⟨_, rfl⟩
              have HBD := Lib.hid hbD
              obtain ⟨S1, hS1⟩ : ∃ T, (S.fits dd.c dd.e dd.a).2 = T := ⟨_, rfl⟩
              have HS1 := Lib.hid hS1
              clear hbD hS1
              have HYC := Lib.hid (show CalOk dd.c ∧ 0 ≤ dd.e ∧ dd.e < 18446744073709551616 from by rw [HDC.out.1, HDC.out.2]; exact ⟨HY.out.c, HY.out.e⟩)
              have HQN := Lib.hid (show ¬ MpB m mv q6 ∧ q6 ≠ r from ⟨fun s => by have e1 := HPR.out.lv.mp.lts _ s; have e2 := HQ6.out; omega, by have e1 := HPR.out.rm.lt; have e2 := HQ6.out; omega⟩)
              have hdr : Below W11.heap.size W11 W11.drew := (Below.refl _ _).drew
              have HPD := Lib.hid (HP11.out.new hdr)
              have H6D := Lib.hid (H611.out.new hdr)
              clear hdr
              refine wp_region_held_drew (S := fun X => Bk X q6 (cldC dd)) (by kernel_rfl) (H6D.out) (fun hHeld => ?_)
              refine wpAnyH_take (i := 0) (oi := ({ dst := some 72, op := Op.move (Operand.tmp 3), type := 25, pos := "law.go:64", after := #[], guard := none })) (v := ?_) rfl (by kernel_rfl) (by kernel_rfl) (by kernel_rfl) (fun _ _ _ h => h) (Or.inl ⟨by rfl, ?_⟩) (by assumption) ?_
              rotate_left 1
              · (intro w9 hSw; (try dsimp only at hSw); go_simp; try with_reducible rfl)
              try simp only [Act.put, List.setIfInBounds_toArray, List.set_cons_zero, List.set_cons_succ]
              refine wpAnyH_take (i := 1) (oi := ({ dst := some 73, op := Op.load 42 (Operand.tmp 6), type := 42, pos := "law.go:64", after := #[], guard := none })) (v := (.agg (cldC dd).toArray)) rfl (by kernel_rfl) (by kernel_rfl) (by kernel_rfl) (fun _ _ _ h => h) (Or.inl ⟨by rfl, ?_⟩) (by assumption) ?_
              · (intro w9 hSw; (try dsimp only at hSw); exact exec_load_bk 42 (.tmp 6) rfl q6 (cldC dd) rfl hSw _ Tryd.underlying42 rfl info_hc)
              try simp only [Act.put, List.setIfInBounds_toArray, List.set_cons_zero, List.set_cons_succ]
              refine wpAnyH_take (i := 3) (oi := ({ dst := some 75, op := Op.move (Operand.tmp 4), type := 27, pos := "law.go:64", after := #[], guard := none })) (v := ?_) rfl (by kernel_rfl) (by kernel_rfl) (by kernel_rfl) (fun _ _ _ h => h) (Or.inl ⟨by rfl, ?_⟩) (by assumption) ?_
              rotate_left 1
              · (intro w9 hSw; (try dsimp only at hSw); go_simp; try with_reducible rfl)
              try simp only [Act.put, List.setIfInBounds_toArray, List.set_cons_zero, List.set_cons_succ]
              refine wpAnyH_take (i := 4) (oi := ({ dst := some 76, op := Op.load 42 (Operand.tmp 6), type := 42, pos := "law.go:64", after := #[], guard := none })) (v := (.agg (cldC dd).toArray)) rfl (by kernel_rfl) (by kernel_rfl) (by kernel_rfl) (fun _ _ _ h => h) (Or.inl ⟨by rfl, ?_⟩) (by assumption) ?_
              · (intro w9 hSw; (try dsimp only at hSw); exact exec_load_bk 42 (.tmp 6) rfl q6 (cldC dd) rfl hSw _ Tryd.underlying42 rfl info_hc)
              try simp only [Act.put, List.setIfInBounds_toArray, List.set_cons_zero, List.set_cons_succ]
              refine wpAnyH_ready (rs := [2]) (by kernel_rfl) (by simp) ?_
              refine AllReadyH.cons (o := ({ dst := some 74, op := Op.call { callee := Callee.value (Operand.func 17), args := #[Operand.tmp 72, Operand.tmp 73], argTypes := #[25, 42] }, type := 4, pos := "law.go:64", after := #[{ on := 0, ground := Ground.data }, { on := 1, ground := Ground.data }], guard := none })) rfl (fun K hK => ?_) AllReadyH.nil
              go_simp
              refine (HPD.out.fits (d := dd) HYC.out.1 HYC.out.2 HT.out (by omega)).mono ?_
              rintro e1 Y1 ⟨rfl, ⟨mv1, hf1⟩, kp1⟩
              rw [HBD.out]
              refine hK.out _ _ (H6D.out.keep kp1 HQN.out.1) (fun hHeld => ?_)
              clear hK K
              try simp only [Act.put, List.setIfInBounds_toArray, List.set_cons_zero, List.set_cons_succ]
              refine wpAnyH_ready (rs := [5]) (by kernel_rfl) (by simp) ?_
              refine AllReadyH.cons (o := ({ dst := some 77, op := Op.call { callee := Callee.value (Operand.func 19), args := #[Operand.tmp 76], argTypes := #[42] }, type := 52, pos := "law.go:64", after := #[{ on := 4, ground := Ground.data }, { on := 2, ground := Ground.chain }], guard := none })) rfl (fun K hK => ?_) AllReadyH.nil
              go_simp
              refine (otherw dd _).mono ?_
              rintro e1 Y2 ⟨rfl, b2⟩
              refine hK.out _ _ ((H6D.out.keep kp1 HQN.out.1).new b2) (fun hHeld => ?_)
              clear hK K
              try simp only [Act.put, List.setIfInBounds_toArray, List.set_cons_zero, List.set_cons_succ]
              refine wpAnyH_ready (rs := [6]) (by kernel_rfl) (by simp) ?_
              refine AllReadyH.cons (o := ({ dst := some 78, op := Op.call { callee := Callee.value (Operand.func 18), args := #[Operand.tmp 75, Operand.tmp 77], argTypes := #[27, 52] }, type := 4, pos := "law.go:64", after := #[{ on := 3, ground := Ground.data }, { on := 5, ground := Ground.data }, { on := 5, ground := Ground.chain }], guard := none })) rfl (fun K hK => ?_) AllReadyH.nil
              go_simp
              refine ((hf1.new b2).fits (d := dd) HYC.out.1 HYC.out.2 (by omega)).mono ?_
              rintro e1 V ⟨rfl, hpv, kp2⟩
              rw [HBD.out]
              refine hK.out _ _ (((H6D.out.keep kp1 HQN.out.1).new b2).keep kp2 HQN.out.2) (fun hHeld => ?_)
              clear hK K
              try simp only [Act.put, List.setIfInBounds_toArray, List.set_cons_zero, List.set_cons_succ]
              refine wpAnyH_take (i := 7) (oi := ({ dst := some 79, op := Op.binOp BinOp.neq 4 (Operand.tmp 74) (Operand.tmp 78) 4, type := 4, pos := "law.go:64", after := #[{ on := 2, ground := Ground.data }, { on := 6, ground := Ground.data }], guard := none })) (v := ?_) rfl (by kernel_rfl) (by kernel_rfl) (by kernel_rfl) (fun _ _ _ h => h) (Or.inl ⟨by rfl, ?_⟩) (by assumption) ?_
              rotate_left 1
              · (intro w9 hSw; (try dsimp only at hSw); go_simp; try with_reducible rfl)
              try simp only [Act.put, List.setIfInBounds_toArray, List.set_cons_zero, List.set_cons_succ]
              refine wpAnyH_done (by kernel_rfl) ?_ _
              rw [HS1.out] at hpv
              have HPV := Lib.hid hpv
              have H6V := Lib.hid (((H6D.out.keep kp1 HQN.out.1).new b2).keep kp2 HQN.out.2)
              clear hpv kp1 kp2 hf1 b2 hHeld
              as_aux_lemma =>
                obtain ⟨r1, hr1⟩ : ∃ y, (mlook S1.L x.it.k).getD Itm.none = y := ⟨_, rfl⟩
                obtain ⟨f1, hf1⟩ : ∃ b, (mlook S1.L x.it.k).isSome = b := ⟨_, rfl⟩
                obtain ⟨r2, hr2⟩ : ∃ y, (mlook S1.L x.d.c.key).getD Itm.none = y := ⟨_, rfl⟩
                obtain ⟨f2, hf2⟩ : ∃ b, (mlook S1.L x.d.c.key).isSome = b := ⟨_, rfl⟩
                have Hr1 := Lib.hid hr1
                have Hf1 := Lib.hid hf1
                have Hr2 := Lib.hid hr2
                have Hf2 := Lib.hid hf2
                clear hr1 hf1 hr2 hf2
                have z21 := HCW.out _ HPV.out.lv.below 21 _ rfl
                have c2 := H6V.out.at_ 2 _ rfl
                rw [HDC.out.1] at c2
                go_upto_region 27 with (first
                  | (go_at_call 20; refine (Atw HPV.out.lv.mp x.it.k HY.out.k).mono ?_; rintro e1 UA ⟨rfl, bA⟩; unfold atV; rw [Hr1.out, Hf1.out])
                  | ((with_reducible refine at_wq ?_); refine wpList_alloc_bk rfl 38 (itC Itm.none) alloc_it rfl ?_; intro UB q13 hA)
                  | ((with_reducible refine at_wq ?_); refine wpList_store_bk rfl 38 (.tmp 13) (.tmp 130) rfl q13 0 (itC Itm.none) (itC r1) (itC r1) hA.bk (Nat.le_refl 6) rfl info_it (itC_one _) rfl rfl ?_; intro V1 hE kE))
                have HFV1 := Lib.hid (show Below V.heap.size V V1 from fr_set (fr_new bA hA.below) kE (hA.at bA))
                have HPV1 := Lib.hid (HPV.out.new HFV1.out)
                have H6V1 := Lib.hid (H6V.out.new HFV1.out)
                have HQV1 := Lib.hid (show V.heap.size ≤ q13 from hA.at (Below.refl _ _ |>.trans bA))
                have HI13V1 := Lib.hid hE
                clear bA hA hE kE z21 c2
                have z21 := HCW.out _ HPV1.out.lv.below 21 _ rfl
                have c2 := H6V1.out.at_ 2 _ rfl
                rw [HDC.out.1] at c2
                go_upto_region 28 with (first
                  | (go_at_call 14; refine (HPV1.out.at x.it.k).mono ?_; rintro e1 UA ⟨rfl, bA⟩; unfold atV; rw [Hr1.out, Hf1.out])
                  | ((with_reducible refine at_wq ?_); refine wpList_alloc_bk rfl 38 (itC Itm.none) alloc_it rfl ?_; intro UB q15 hA)
                  | ((with_reducible refine at_wq ?_); refine wpList_store_bk rfl 38 (.tmp 15) (.tmp 141) rfl q15 0 (itC Itm.none) (itC r1) (itC r1) hA.bk (Nat.le_refl 6) rfl info_it (itC_one _) rfl rfl ?_; intro V2 hE kE))
                have HFV2 := Lib.hid (show Below V1.heap.size V1 V2 from fr_set (fr_new bA hA.below) kE (hA.at bA))
                have HPV2 := Lib.hid (HPV1.out.new HFV2.out)
                have H6V2 := Lib.hid (H6V1.out.new HFV2.out)
                have HQV2 := Lib.hid (show V1.heap.size ≤ q15 from hA.at (Below.refl _ _ |>.trans bA))
                have HI13V2 := Lib.hid (HI13V1.out.new HFV2.out)
                have HI15V2 := Lib.hid hE
                clear bA hA hE kE z21 c2
                have z21 := HCW.out _ HPV2.out.lv.below 21 _ rfl
                have c2 := H6V2.out.at_ 2 _ rfl
                rw [HDC.out.1] at c2
                go_upto_region 29 with (first
                  | (go_at_call 20; refine (Atw HPV2.out.lv.mp x.d.c.key HY.out.c.key).mono ?_; rintro e1 UA ⟨rfl, bA⟩; unfold atV; rw [Hr2.out, Hf2.out])
                  | ((with_reducible refine at_wq ?_); refine wpList_alloc_bk rfl 38 (itC Itm.none) alloc_it rfl ?_; intro UB q17 hA)
                  | ((with_reducible refine at_wq ?_); refine wpList_store_bk rfl 38 (.tmp 17) (.tmp 149) rfl q17 0 (itC Itm.none) (itC r2) (itC r2) hA.bk (Nat.le_refl 6) rfl info_it (itC_one _) rfl rfl ?_; intro V3 hE kE))
                have HFV3 := Lib.hid (show Below V2.heap.size V2 V3 from fr_set (fr_new bA hA.below) kE (hA.at bA))
                have HPV3 := Lib.hid (HPV2.out.new HFV3.out)
                have H6V3 := Lib.hid (H6V2.out.new HFV3.out)
                have HQV3 := Lib.hid (show V2.heap.size ≤ q17 from hA.at (Below.refl _ _ |>.trans bA))
                have HI13V3 := Lib.hid (HI13V2.out.new HFV3.out)
                have HI15V3 := Lib.hid (HI15V2.out.new HFV3.out)
                have HI17V3 := Lib.hid hE
                clear bA hA hE kE z21 c2
                have z21 := HCW.out _ HPV3.out.lv.below 21 _ rfl
                have c2 := H6V3.out.at_ 2 _ rfl
                rw [HDC.out.1] at c2
                go_upto_region 30 with (first
                  | (go_at_call 14; refine (HPV3.out.at x.d.c.key).mono ?_; rintro e1 UA ⟨rfl, bA⟩; unfold atV; rw [Hr2.out, Hf2.out])
                  | ((with_reducible refine at_wq ?_); refine wpList_alloc_bk rfl 38 (itC Itm.none) alloc_it rfl ?_; intro UB q19 hA)
                  | ((with_reducible refine at_wq ?_); refine wpList_store_bk rfl 38 (.tmp 19) (.tmp 157) rfl q19 0 (itC Itm.none) (itC r2) (itC r2) hA.bk (Nat.le_refl 6) rfl info_it (itC_one _) rfl rfl ?_; intro V4 hE kE))
                have HFV4 := Lib.hid (show Below V3.heap.size V3 V4 from fr_set (fr_new bA hA.below) kE (hA.at bA))
                have HPV4 := Lib.hid (HPV3.out.new HFV4.out)
                have H6V4 := Lib.hid (H6V3.out.new HFV4.out)
                have HQV4 := Lib.hid (show V3.heap.size ≤ q19 from hA.at (Below.refl _ _ |>.trans bA))
                have HI13V4 := Lib.hid (HI13V3.out.new HFV4.out)
                have HI15V4 := Lib.hid (HI15V3.out.new HFV4.out)
                have HI17V4 := Lib.hid (HI17V3.out.new HFV4.out)
                have HI19V4 := Lib.hid hE
                clear bA hA hE kE z21 c2
                have z21 := HCW.out _ HPV4.out.lv.below 21 _ rfl
                have c2 := H6V4.out.at_ 2 _ rfl
                obtain ⟨a0, a1, a2, a3, a4, a5⟩ := it_cells HI13V4.out
                obtain ⟨b0, b1, b2, b3, b4, b5⟩ := it_cells HI15V4.out
                obtain ⟨d0, d1, d2, d3, d4, d5⟩ := it_cells HI17V4.out
                obtain ⟨e0, e1, e2, e3, e4, e5⟩ := it_cells HI19V4.out
                have hs1 := it_same r1
                have hs2 := it_same r2
                go_wp2_with (first
                  | (go_at_call 21; refine (HPV4.out.same).mono ?_; rintro e1 V5 ⟨rfl, b5⟩; clear a0 a1 a2 a3 a4 a5 b0 b1 b2 b3 b4 d0 d1 d2 d3 d4 d5 e0 e1 e2 e3 e4 e5 z21 c2; have HF5V := Lib.hid b5))
                go_roundw
                case rel => exact ⟨k + 1, mv1, S1, by omega, by go_num, HPV4.out.new HF5V.out⟩
                case measure => simp [intOf]; omega
      · have hd : decide (k < l0) = false := decide_eq_false hlt
        go_wp2_with (go_at_call 10; refine (lives36 _ (HPR.out.lv.tab HT.out)).mono ?_; rintro e1 WL ⟨rfl, bl⟩)
        go_ret
        exact ⟨rfl, fr_new HPR.out.lv.below bl⟩
end Go.Proofs.YtmjklkcjinfmaaaDoor
