/- MapsFlush. -/
import Derived.Test.YtmjklkcjinfmaaaDoorMaW
namespace Go.Proofs.YtmjklkcjinfmaaaDoor
open Go.RowKit Go.Maps
set_option linter.unusedVariables false
def calFl (n : Int) : Cal := ⟨11, ⟨#[]⟩, ⟨#[]⟩, 0, n, 0, 0⟩
theorem fl_does {S : Mst} {x : Int} (h : Rn S x) (n : Int) (hg : genf x < 65535) : S.does (calFl n) x = (Ans.of 10, ⟨S.L, flushf x n, S.i⟩) := by
  unfold Mst.does Mst.gives
  rw [if_pos ⟨h.bhd.comes h.ok.e, .inl rfl⟩]
  have hf : flushes x = true := by unfold flushes; simpa using hg
  have hv : S.verb (calFl n) x = some ⟨Ans.of 10, ⟨S.L, flushf x n, S.i⟩, false⟩ := by
    unfold Mst.verb
    simp only [calFl]
    rw [hf]
    rfl
  rw [hv]
theorem fl_get {L : List Itm} {e i y : Int} (hd : ∀ z ∈ L, aliveI z y = false) (k : ByteArray) : (⟨L, e, i⟩ : Mst).gives (calN 1 k ⟨#[]⟩) y = none ∨ (gAns ⟨L, e, i⟩ (calN 1 k ⟨#[]⟩) y).kind = 12 := by
  unfold gAns
  cases h : (⟨L, e, i⟩ : Mst).gives (calN 1 k ⟨#[]⟩) y with
  | none => exact .inl rfl
  | some G =>
    right
    have hv := (gives_verb h).2.2
    have ht : (⟨L, e, i⟩ : Mst).there (calN 1 k ⟨#[]⟩) y = none := by
      cases ht : (⟨L, e, i⟩ : Mst).there (calN 1 k ⟨#[]⟩) y with
      | none => rfl
      | some z =>
        obtain ⟨h1, h2⟩ := there_look ht
        rw [hd z (look_mem h1)] at h2
        cases h2
    unfold Mst.verb at hv
    rw [ht] at hv
    simp only [calN] at hv
    injection hv with hv
    subst hv
    rfl
theorem fl_dead {S : Mst} {x : Int} (h : Rn S x) {y : Int} (hy : genf y = genf x + 1) : ∀ z ∈ S.L, aliveI z y = false := by
  intro z hz
  have h1 := h.gens z hz
  have h2 := h.bhd.gen
  unfold aliveI alivef
  have : (genf y == z.gen) = false := beq_eq_false_iff_ne.mpr (by omega)
  rw [this]
  rfl
theorem set_does {S : Mst} {y : Int} {k : ByteArray} (hc : comes S.e y = true) (hk : okB k = true) : S.does (calN 3 k ⟨#[]⟩) y = (⟨1, u64 (S.i + 1), Itm.none⟩, ⟨put S.L ⟨k, ⟨#[]⟩, 0, u64 (S.i + 1), -1, genf y⟩, y, u64 (S.i + 1)⟩) := by
  unfold Mst.does Mst.gives
  rw [if_pos ⟨hc, .inr hk⟩]
  rfl
theorem get_does {L : List Itm} {y i : Int} {k : ByteArray} {id : Int} (hy : 0 ≤ y ∧ y < 18446744073709551616) (hk : okB k = true) : ((⟨put L ⟨k, ⟨#[]⟩, 0, id, -1, genf y⟩, y, i⟩ : Mst).does (calN 1 k ⟨#[]⟩) y).1.kind = 11 := by
  have hc : comes y y = true := (Bhd.refl y).comes hy
  have hl : mlook (put L ⟨k, ⟨#[]⟩, 0, id, -1, genf y⟩) k = some ⟨k, ⟨#[]⟩, 0, id, -1, genf y⟩ := look_put L ⟨k, ⟨#[]⟩, 0, id, -1, genf y⟩
  have ha : aliveI ⟨k, ⟨#[]⟩, 0, id, -1, genf y⟩ y = true := by simp [aliveI, alivef]
  unfold Mst.does Mst.gives
  rw [if_pos ⟨hc, .inr hk⟩]
  have ht : (⟨put L ⟨k, ⟨#[]⟩, 0, id, -1, genf y⟩, y, i⟩ : Mst).there (calN 1 k ⟨#[]⟩) y = some ⟨k, ⟨#[]⟩, 0, id, -1, genf y⟩ := by
    unfold Mst.there
    simp only [calN]
    rw [hl]
    simp [Option.filter, ha]
  unfold Mst.verb
  rw [ht]
  rfl
section
variable {a : Option Addr} {n cp : Nat} {L : List Stp} {t : Int} {k : ByteArray} {w : World}
set_option maxHeartbeats 8000000 in
set_option maxRecDepth 100000 in
theorem fl_early (hl : L.length = n) (hn : n ≤ cp) (hcp : cp ≤ maxLen) (hR : RdS w a L) (hK : ∀ x ∈ L, StpOk x) (hk : k.size ≤ maxLen) (htab : Lib.TabIs Tryd.prog w "internal/strconv.uint64pow10" .u64 Lib.pow10Tab) (hb : longB L = true ∨ (longB L = false ∧ 300 < k.size) ∨ (longB L = false ∧ ¬ 300 < k.size ∧ okB k = false)) :
    Calls Tryd.prog 7 #[.slice a n cp, .int .u8 t, .string k] w fun e w' => e = .returned (.bool true) ∧ Below w.heap.size w w' := by
  have HT := Lib.hid htab
  have HL1 := Lib.hid (longw a n cp L w hl hn hcp hR hK)
  have HKS := Lib.hid hk
  obtain ⟨b, hbl⟩ : ∃ b, longB L = b := ⟨_, rfl⟩
  have HB := Lib.hid hbl
  rw [hbl] at hb
  clear hl hR hK htab hbl hk hn hcp
  rcases hb with rfl | ⟨rfl, h3⟩ | ⟨rfl, h3, h4⟩
  · go_enter Tryd.func7, Tryd.ntmps7
    go_wp2_with (first
      | (go_at_call 25; refine HL1.out.mono ?_; rintro e V1 ⟨rfl, f1⟩; rw [HB.out])
      | (go_at_call 10; refine (lives36 _ (tab_below HT.out f1)).mono ?_; rintro e WL ⟨rfl, bl⟩))
    go_ret
    exact ⟨rfl, fr_new f1 bl⟩
  · have hd : decide (300 < (k.size : Int)) = true := decide_eq_true (by omega)
    clear h3
    go_enter Tryd.func7, Tryd.ntmps7
    go_wp2_with (first
      | (go_at_call 25; refine HL1.out.mono ?_; rintro e V1 ⟨rfl, f1⟩; rw [HB.out])
      | (go_at_call 10; refine (lives36 _ (tab_below HT.out f1)).mono ?_; rintro e WL ⟨rfl, bl⟩))
    go_ret
    exact ⟨rfl, fr_new f1 bl⟩
  · have hd : decide (300 < (k.size : Int)) = false := decide_eq_false (by omega)
    clear h3
    go_enter Tryd.func7, Tryd.ntmps7
    go_wp2_with (first
      | (go_at_call 25; refine HL1.out.mono ?_; rintro e V1 ⟨rfl, f1⟩; rw [HB.out])
      | (go_at_call 27; refine (okcw _ _ HKS.out).mono ?_; rintro e V2 ⟨rfl, rfl⟩; rw [h4])
      | (go_at_call 10; refine (lives36 _ (tab_below HT.out f1)).mono ?_; rintro e WL ⟨rfl, bl⟩))
    go_ret
    exact ⟨rfl, fr_new f1 bl⟩
set_option maxHeartbeats 8000000 in
set_option maxRecDepth 100000 in
theorem fl_main (hl : L.length = n) (hn : n ≤ cp) (hcp : cp ≤ maxLen) (hR : RdS w a L) (hK : ∀ x ∈ L, StpOk x) (ht : 0 ≤ t ∧ t ≤ 255) (hk : k.size ≤ maxLen) (htab : Lib.TabIs Tryd.prog w "internal/strconv.uint64pow10" .u64 Lib.pow10Tab) (hb1 : longB L = false) (h300 : ¬ 300 < k.size) (hok : okB k = true) :
    Calls Tryd.prog 7 #[.slice a n cp, .int .u8 t, .string k] w fun e w' => e = .returned (.bool true) ∧ Below w.heap.size w w' := by
  have HT := Lib.hid htab
  have HR := Lib.hid hR
  have HK := Lib.hid hK
  have HL := Lib.hid hl
  have HN := Lib.hid hn
  have HCP := Lib.hid hcp
  have HL1 := Lib.hid (longw a n cp L w hl hn hcp hR hK)
  have HKS := Lib.hid hk
  have HB1 := Lib.hid hb1
  have HOK := Lib.hid hok
  have h100 := longB_no hb1
  rw [hl] at h100
  have hd : decide (300 < (k.size : Int)) = false := decide_eq_false (by omega)
  have hcp2 := hcp
  unfold maxLen at hcp2
  clear hl hR hK htab hk hcp hb1 h300 hok
  go_enter Tryd.func7, Tryd.ntmps7
  go_wp2_with (first
    | (go_at_call 25; refine HL1.out.mono ?_; rintro e V1 ⟨rfl, f1⟩; have F1 := Lib.hid f1; clear f1; rw [HB1.out])
    | (go_at_call 27; refine (okcw _ _ HKS.out).mono ?_; rintro e V2 ⟨rfl, rfl⟩; rw [HOK.out])
    | (go_at_call 11; refine (Lv.start _).mono ?_; rintro e V3 ⟨m, rfl, l0⟩; have HT2 := Lib.hid (tab_below HT.out F1.out); have HL0 := Lib.hid l0; clear l0)
    | (go_at_call 26; refine (runw a n cp L V1 V3 m HL.out HN.out HCP.out (HR.out.below F1.out (Nat.le_refl _)) HK.out (by omega) HL0.out HT2.out).mono ?_; rintro e V4 ⟨mv, S, x, rfl, lv, rn⟩; have K4 := Lib.hid lv; have HRN := Lib.hid rn; clear lv rn))
  have hx := HRN.out.range
  have HX := Lib.hid hx
  obtain ⟨⟨p1, p2⟩, _, ⟨p3, p4⟩⟩ := ep_range x
  obtain ⟨g, hg⟩ : ∃ g, genf x = g := ⟨_, rfl⟩
  obtain ⟨nw, hnw⟩ : ∃ g, nowf x = g := ⟨_, rfl⟩
  rw [hg] at p3 p4
  rw [hnw] at p1 p2
  have HG := Lib.hid hg
  have HNW := Lib.hid hnw
  clear hx hg hnw hd
  refine (genw _ _ HX.out.1 HX.out.2).mono ?_
  rintro e V5 ⟨rfl, b5⟩
  rw [HG.out]
  by_cases hg5 : g = 65535
  · have q1 : (g == 65535) = true := by simpa using hg5
    go_wp2_with (go_at_call 10; refine (lives36 _ (K4.out.new b5 |>.tab HT2.out)).mono ?_; rintro e WL ⟨rfl, bl⟩)
    go_ret
    exact ⟨rfl, fr_new F1.out (fr_new (K4.out.new b5).below bl)⟩
  have q1 : (g == 65535) = false := beq_eq_false_iff_ne.mpr hg5
  by_cases hn5 : 16777185 < nw
  · have q2 : decide (16777185 < nw) = true := decide_eq_true hn5
    go_wp2_with (first
      | (go_at_call 32; refine (noww _ _ HX.out.1 HX.out.2).mono ?_; rintro e V6 ⟨rfl, b6⟩; rw [HNW.out])
      | (go_at_call 10; refine (lives36 _ ((K4.out.new (fr_new b5 b6)).tab HT2.out)).mono ?_; rintro e WL ⟨rfl, bl⟩))
    go_ret
    exact ⟨rfl, fr_new F1.out (fr_new (K4.out.new (fr_new b5 b6)).below bl)⟩
  have q2 : decide (16777185 < nw) = false := decide_eq_false hn5
  obtain ⟨N, hN⟩ : ∃ N : Nat, t % 21 = N := ⟨(t % 21).toNat, by omega⟩
  have hN20 : N ≤ 20 := by omega
  have HFD := Lib.hid (fl_does HRN.out (N : Int) (by rw [HG.out]; omega))
  have HDUE : Hid (genf (tickN N (flushf x N)) = genf x + 1) := Lib.hid (flush_due N (by rw [HG.out]; omega) (by rw [HNW.out]; omega) hN20)
  have HOF : Hid (CalOk (calFl N)) := Lib.hid (cal_ok (by decide) (by decide) (by decide) (by decide) (by omega) (by decide))
  have hrg := flushf_range x (N : Int) HX.out.1 HX.out.2
  obtain ⟨z, hz⟩ : ∃ z, flushf x (N : Int) = z := ⟨_, rfl⟩
  rw [hz] at HFD HDUE hrg
  have HRG := Lib.hid hrg
  have hfa : ∀ W, (Instr.field 40 (.agg (ansC (Ans.of 10)).toArray) 0).run Tryd.prog W = .ok (.int .u8 10) W := fun W => by kernel_rfl
  clear hz hrg hg5 hn5 p1 p2 p3 p4
  go_wp2_with (first
    | (go_at_call 32; refine (noww _ _ HX.out.1 HX.out.2).mono ?_; rintro e V6 ⟨rfl, b6⟩; rw [HNW.out]; have K6 := Lib.hid (K4.out.new (fr_new b5 b6)); clear b6)
    | (have _ := K6; go_at_call 22; refine (Countw K6.out.mp).mono ?_; rintro e WC ⟨rfl, rfl⟩)
    | (go_at_call 28; refine (K6.out.does (c := calFl N) (x := x) HOF.out HX.out HT2.out (by omega)).mono ?_; rintro e V7 ⟨rfl, mv2, l, -⟩; rw [HFD.out] at l ⊢; have K7 := Lib.hid l; clear l K6)
    | (go_at_call 23; refine (Epochw K7.out.mp).mono ?_; rintro e WE ⟨rfl, rfl⟩))
  have hfd := HFD.out
  clear hfa q1 q2 b5
  go_loopw [8, 11] (fun e i wr => ∃ j : Nat, j ≤ N ∧ e = .int .u64 (tickN j z) ∧ i = .int .i64 j ∧ Below V7.heap.size V7 wr) (fun _ i _ => N - (intOf i).toNat)
  case atStart => exact ⟨0, by omega, rfl, rfl, Below.refl _ _⟩
  case round =>
    obtain ⟨j, hj, rfl, rfl, hnx⟩ := hrel
    have hz := tickN_range HRG.out j
    by_cases hjr : j < N
    · go_wp2_with (go_at_call 29; refine (tickw _ _ hz.1 hz.2).mono ?_; rintro e W5 ⟨rfl, b5⟩)
      go_roundw
      case rel => exact ⟨j + 1, by omega, rfl, by go_num, fr_new hnx b5⟩
      case measure => simp [intOf]; omega
    · have hjd : decide ((j : Int) < N) = false := decide_eq_false (by omega)
      obtain rfl : j = N := by omega
      have HY := Lib.hid hz
      have DEAD := Lib.hid (fl_dead HRN.out HDUE.out)
      have HCM := Lib.hid (show comes z (tickN j z) = true from (show Bhd z (tickN j z) from ⟨j, rfl⟩).comes HRG.out)
      have K8 := Lib.hid (K7.out.new hnx)
      obtain ⟨y, hy⟩ : ∃ y, tickN j z = y := ⟨_, rfl⟩
      rw [hy] at HY DEAD HCM ⊢
      have HSD := Lib.hid (set_does (S := ⟨S.L, z, S.i⟩) (k := k) HCM.out HOK.out)
      have HGD := Lib.hid (get_does (L := S.L) (y := y) (i := _root_.Go.Proofs.YtmjklkcjinfmaaaDoor.u64 (S.i + 1)) (k := k) (id := _root_.Go.Proofs.YtmjklkcjinfmaaaDoor.u64 (S.i + 1)) HY.out HOK.out)
      have OS : Hid (CalOk (calN 3 k ⟨#[]⟩)) := Lib.hid (calN_ok 3 (by decide) _ _ HKS.out (by decide))
      have OG : Hid (CalOk (calN 1 k ⟨#[]⟩)) := Lib.hid (calN_ok 1 (by decide) _ _ HKS.out (by decide))
      clear hz hnx hy hj hjr hfd
      go_wp2_with fail
      go_loopw [12] (fun i wr => ∃ kk : Nat, kk ≤ n ∧ i = .int .i64 kk ∧ Lv V1 wr m mv2 ⟨S.L, z, S.i⟩ (n + 1)) (fun i _ => n - (intOf i).toNat)
      case atStart => exact ⟨0, by omega, rfl, K8.out⟩
      case round =>
        obtain ⟨kk, hkk, rfl, hlv⟩ := hrel
        have HLV := Lib.hid hlv
        by_cases hlt : kk < n
        · obtain ⟨b, off, s, rfl, hb, hx, hcell⟩ := ((HR.out.below F1.out (Nat.le_refl _)).below hlv.below (Nat.le_refl _)).at (i := kk) (by rw [HL.out]; exact hlt)
          have x1 := hcell 1 _ rfl
          have ok := (HK.out s (List.mem_of_getElem? hx)).1.key
          have OK : Hid (CalOk (calN 1 s.c.key ⟨#[]⟩)) := Lib.hid (calN_ok 1 (by decide) _ _ ok (by decide))
          have hfg := fl_get (L := S.L) (e := z) (i := S.i) DEAD.out s.c.key
          obtain ⟨is, his⟩ : ∃ b, ((⟨S.L, z, S.i⟩ : Mst).gives (calN 1 s.c.key ⟨#[]⟩) y).isSome = b := ⟨_, rfl⟩
          obtain ⟨g, hg⟩ : ∃ b, gAns ⟨S.L, z, S.i⟩ (calN 1 s.c.key ⟨#[]⟩) y = b := ⟨_, rfl⟩
          have h12 : is = true → (g.kind != 12) = false := by
            intro e
            rcases hfg with h | h
            · rw [h, e] at his; cases his
            · rw [hg] at h; simp [h]
          have HIS := Lib.hid (And.intro his hg)
          clear hfg his hg hcell ok hx hlv hb
          cases is with
          | false =>
            clear h12
            go_wp2_with (first
              | (go_at_call 12; refine (Givesw (c := calN 1 s.c.key ⟨#[]⟩) (x := y) HLV.out.mp HLV.out.ok OK.out HY.out (HLV.out.tab HT2.out)).mono ?_; rintro e V8 ⟨rfl, b8⟩; rw [HIS.out.1, HIS.out.2])
              | ((with_reducible refine at_wq ?_); refine wpList_alloc_bk rfl 40 (ansC Ans.none) alloc_an rfl ?_; intro W9 q9 h9)
              | ((with_reducible refine at_wq ?_); refine wpList_store_bk rfl 40 (.tmp 13) (.tmp 79) rfl q9 0 (ansC Ans.none) (ansC g) (ansC g) h9.bk (Nat.le_refl 8) rfl info_an (ansC_one _) rfl rfl ?_; intro W10 h10 k10))
            go_roundw
            case rel => exact ⟨kk + 1, by omega, by go_num, (((HLV.out.new b8).new h9.below).st k10 ((HLV.out.new b8).fresh h9) (h9.at (HLV.out.new b8).below))⟩
            case measure => simp [intOf]; omega
          | true =>
            have h12' := h12 rfl
            clear h12
            go_wp2_with (first
              | (go_at_call 12; refine (Givesw (c := calN 1 s.c.key ⟨#[]⟩) (x := y) HLV.out.mp HLV.out.ok OK.out HY.out (HLV.out.tab HT2.out)).mono ?_; rintro e V8 ⟨rfl, b8⟩; rw [HIS.out.1, HIS.out.2])
              | ((with_reducible refine at_wq ?_); refine wpList_alloc_bk rfl 40 (ansC Ans.none) alloc_an rfl ?_; intro W9 q9 h9)
              | ((with_reducible refine at_wq ?_); refine wpList_store_bk rfl 40 (.tmp 13) (.tmp 79) rfl q9 0 (ansC Ans.none) (ansC g) (ansC g) h9.bk (Nat.le_refl 8) rfl info_an (ansC_one _) rfl rfl ?_; intro W10 h10 k10; have g0 := h10.at_ 0 _ rfl))
            go_roundw
            case rel => exact ⟨kk + 1, by omega, by go_num, (((HLV.out.new b8).new h9.below).st k10 ((HLV.out.new b8).fresh h9) (h9.at (HLV.out.new b8).below))⟩
            case measure => simp [intOf]; omega
        · have hkd : decide (kk < n) = false := decide_eq_false hlt
          obtain ⟨D, hD⟩ : ∃ D, (⟨put S.L ⟨k, ⟨#[]⟩, 0, _root_.Go.Proofs.YtmjklkcjinfmaaaDoor.u64 (S.i + 1), -1, genf y⟩, y, _root_.Go.Proofs.YtmjklkcjinfmaaaDoor.u64 (S.i + 1)⟩ : Mst).does (calN 1 k ⟨#[]⟩) y = D := ⟨_, rfl⟩
          have h11 := HGD.out
          rw [hD] at h11
          obtain ⟨ga, T⟩ := D
          have HD := Lib.hid hD
          have hk11 : (ga.kind == 11) = true := by simpa using h11
          have hf1 : ∀ W, (Instr.field 40 (.agg (ansC ⟨1, _root_.Go.Proofs.YtmjklkcjinfmaaaDoor.u64 (S.i + 1), Itm.none⟩).toArray) 0).run Tryd.prog W = .ok (.int .u8 1) W := fun W => by kernel_rfl
          have hf2 : ∀ W, (Instr.field 40 (.agg (ansC ga).toArray) 0).run Tryd.prog W = .ok (.int .u8 ga.kind) W := fun W => by kernel_rfl
          clear hD h11 hlv
          go_wp2_with (first
            | (go_at_call 22; refine (Countw HLV.out.mp).mono ?_; rintro e WC ⟨rfl, rfl⟩)
            | (have _ := OS; go_at_call 28; refine (HLV.out.does (c := calN 3 k ⟨#[]⟩) (x := y) OS.out HY.out HT2.out (by omega)).mono ?_; rintro e V9 ⟨rfl, mv3, l, -⟩; rw [HSD.out] at l ⊢; have K9 := Lib.hid l; clear l OS)
            | (go_at_call 28; refine (K9.out.does (c := calN 1 k ⟨#[]⟩) (x := y) OG.out HY.out HT2.out (by omega)).mono ?_; rintro e V10 ⟨rfl, mv4, l, -⟩; rw [HD.out] at l ⊢; have K10 := Lib.hid l; clear l)
            | (go_at_call 10; refine (lives36 _ (K10.out.tab HT2.out)).mono ?_; rintro e WL ⟨rfl, bl⟩))
          go_ret
          exact ⟨rfl, fr_new F1.out (fr_new K10.out.below bl)⟩
end
theorem walk_MapsFlush (a0 : Option Addr) (l0 c0 : Nat) (a1 : Int) (a2 : ByteArray) (w : World) (w0 : Reads Tryd.prog w 61 (.slice a0 l0 c0)) (w1 : (Lit.int .u8 a1).wf = true) (w2 : a2.size ≤ maxLen) (htab : Lib.TabIs Tryd.prog w "internal/strconv.uint64pow10" .u64 Lib.pow10Tab) :
    Calls Tryd.prog 7 #[.slice a0 l0 c0, .int .u8 a1, .string a2] w fun e w' => e = .returned (.bool true) ∧ Below w.heap.size w w' := by
  obtain ⟨L, hl, hn, hcp, hR, hK⟩ := open_steps w0
  cases hb1 : longB L with
  | true => exact fl_early hl hn hcp hR hK w2 htab (.inl hb1)
  | false =>
    by_cases h3 : 300 < a2.size
    · exact fl_early hl hn hcp hR hK w2 htab (.inr (.inl ⟨hb1, h3⟩))
    · cases hok : okB a2 with
      | false => exact fl_early hl hn hcp hR hK w2 htab (.inr (.inr ⟨hb1, h3, hok⟩))
      | true => exact fl_main hl hn hcp hR hK (bounds_u8 w1) w2 htab hb1 h3 hok
end Go.Proofs.YtmjklkcjinfmaaaDoor
