/- The chapter's maps: what a call gives: changes, flushes, nothing. -/
import Derived.Test.YtmjklkcjinfmaaaDoorGMs
namespace Go.Proofs.YtmjklkcjinfmaaaDoor
open Go.RowKit Go.Maps
set_option linter.unusedVariables false
section
variable {w : World} {r : Nat} {a : Option Addr} {n cp : Nat} {e i : Int} {L : List Itm} {B : Nat} {v : Int} {key vl : ByteArray} {fl ex id by_ : Int} {x : Int} {y : Itm}
set_option maxHeartbeats 8000000 in
set_option maxRecDepth 100000 in
theorem rg_chgN (hr : Bk w r (mapR a n cp e i)) (hl : RL w B a n cp L) (hn : n < 1000000) (he : 0 ≤ e ∧ e < 18446744073709551616) (hx : 0 ≤ x ∧ x < 18446744073709551616) (hk : key.size ≤ maxLen) (hv : v = 7 ∨ v = 8 ∨ v = 9 ∨ v = 10) (hcm : comes e x = true) (hok : okB key = true) (hlk : mlook L key = none)  : Calls Tryd.prog 37 #[.pointer (some ⟨r, 0, none⟩), .agg (calC (⟨v, key, vl, fl, ex, id, by_⟩ : Cal)).toArray, .int .u64 x] w (rgvP w a (some (Mst.stay ⟨L, e, i⟩ x 4))) := by
  have HR := Lib.hid hr
  have HL := Lib.hid hl
  have HN := Lib.hid hn
  have HE := Lib.hid he
  have HX := Lib.hid hx
  have HK := Lib.hid hk
  have HCM := Lib.hid hcm
  have HLK := Lib.hid hlk
  have HOK := Lib.hid (show ((lookF key.data.toList).1 == 0) = true from hok)
  clear hr hl hn he hx hk hcm hlk hok
  rcases hv with rfl | rfl | rfl | rfl
  all_goals
    go_enter Tryd.func37, Tryd.ntmps37
    go_wp2_with (first
      | ((with_reducible refine at_wq ?_); refine wpList_box_bk rfl 35 (.tmp 1) rfl (calC (⟨_, key, vl, fl, ex, id, by_⟩ : Cal)) rfl ?_; intro W1 q4 h1)
      | ((with_reducible refine at_wq ?_); refine wpList_alloc_bk rfl 87 gvnZ alloc_gvn rfl ?_; intro W2 q6 h2; have HF2 := Lib.hid (fr_new h1.below h2.below); have HC2 := Lib.hid (h1.bk.new h2.below); have HG2 := Lib.hid h2.bk; have HQ2 := Lib.hid (show w.heap.size ≤ q4 ∧ w.heap.size ≤ q6 ∧ q4 ≠ q6 ∧ q4 < W2.heap.size ∧ q6 < W2.heap.size from ⟨by have e1 := h1.eq; omega, h2.at h1.below, by have e1 := h1.bk.lt; have e2 := h2.eq; omega, by have e1 := h1.bk.lt; have e2 := h2.below.size; omega, h2.bk.lt⟩); obtain ⟨y0, y1, y2, y3, y4, y5, y6⟩ := call_cells HC2.out; dsimp only at y0 y1 y2 y3 y4 y5 y6; clear h1 h2)
      | (go_at_call 49; refine (rComesw (HR.out.new HF2.out) x HE.out HX.out).mono ?_; rintro e1 Y ⟨rfl, rfl⟩; rw [HCM.out])
      | (go_at_call 50; refine (refokw key _ HK.out).mono ?_; rintro e1 Y ⟨rfl, rfl⟩; rw [HOK.out])
      | (go_at_call 14; refine (rAtw (HR.out.new HF2.out) (HL.out.new HF2.out) key).mono ?_; rintro e1 W3 ⟨rfl, b3⟩; unfold atV; rw [HLK.out]; simp only [Option.getD_none, Option.isSome_none]; have HF3 := Lib.hid (fr_new HF2.out b3); have HC3 := Lib.hid (HC2.out.new b3); have HG3 := Lib.hid (HG2.out.new b3); have HS3 := Lib.hid b3.size; clear b3 y0 y1 y2 y3 y4 y5 y6)
      | ((with_reducible refine at_wq ?_); refine wpList_alloc_bk rfl 38 (itC Itm.none) alloc_it rfl ?_; intro W4 q8 h4)
      | ((with_reducible refine at_wq ?_); refine wpList_store_bk rfl 38 (.tmp 8) (.tmp 35) rfl q8 0 (itC Itm.none) (itC Itm.none) (itC Itm.none) h4.bk (Nat.le_refl 6) rfl info_it (itC_one _) rfl rfl ?_; intro W5 h5 k5; have HQ := Lib.hid (show q8 ≠ q4 ∧ q8 ≠ q6 ∧ w.heap.size ≤ q8 from ⟨by have e1 := h4.eq; have e2 := HQ2.out; have e3 := HS3.out; omega, by have e1 := h4.eq; have e2 := HQ2.out; have e3 := HS3.out; omega, h4.at HF3.out⟩); have HF5 := Lib.hid (fr_set (fr_new HF3.out h4.below) k5 (h4.at HF3.out)); have HC5 := Lib.hid ((HC3.out.new h4.below).keep k5 (fun e => HQ.out.1 e.symm)); have HG5 := Lib.hid ((HG3.out.new h4.below).keep k5 (fun e => HQ.out.2.1 e.symm)); have HI5 := Lib.hid h5; obtain ⟨a0, a1, a2, a3, a4, a5⟩ := it_cells h5; clear h4 h5 k5))
    have HRV := Lib.hid (HR.out.new HF5.out)
    have hB : Below W5.heap.size W5 W5.drew := (Below.refl _ _).drew
    have hB0 := hB
    have KEEP : Hid (∀ X, Below W5.heap.size W5 X → X.cell? ⟨r, 0, none⟩ = some (.slice a n cp) ∧ X.cell? ⟨r, 2, none⟩ = some (.int .u64 i)) := Lib.hid fun X hb => by
      obtain ⟨m0, m1, m2⟩ := map_cells (HRV.out.new hb)
      exact ⟨m0, m2⟩
    refine wp_region_held_drew (S := fun X => X.cell? ⟨r, 0, none⟩ = some (.slice a n cp) ∧ X.cell? ⟨r, 2, none⟩ = some (.int .u64 i)) (by kernel_rfl) (KEEP.out _ hB) (fun hHeld => ?_)
    refine wpAnyH_take (i := 0) (oi := ({ dst := some 43, op := Op.move (Operand.tmp 0), type := 27, pos := "ref.go:83", after := #[], guard := none })) (v := ?_) rfl (by kernel_rfl) (by kernel_rfl) (by kernel_rfl) (fun _ _ _ h => h) (Or.inl ⟨by rfl, ?_⟩) (by assumption) ?_
    rotate_left 1
    · (intro w9 hSw; (try dsimp only at hSw); go_simp; try with_reducible rfl)
    try simp only [Act.put, List.setIfInBounds_toArray, List.set_cons_zero, List.set_cons_succ]
    refine wpAnyH_take (i := 1) (oi := ({ dst := some 44, op := Op.nilCheck (Operand.tmp 43), type := 0, pos := "ref.go:83", after := #[{ on := 0, ground := Ground.data }], guard := none })) (v := ?_) rfl (by kernel_rfl) (by kernel_rfl) (by kernel_rfl) (fun _ _ _ h => h) (Or.inl ⟨by rfl, ?_⟩) (by assumption) ?_
    rotate_left 1
    · (intro w9 hSw; (try dsimp only at hSw); go_simp; try with_reducible rfl)
    try simp only [Act.put, List.setIfInBounds_toArray, List.set_cons_zero, List.set_cons_succ]
    refine wpAnyH_take (i := 2) (oi := ({ dst := some 45, op := Op.fieldAddr 31 (Operand.tmp 44) 0, type := 0, pos := "ref.go:83", after := #[{ on := 1, ground := Ground.data }], guard := none })) (v := ?_) rfl (by kernel_rfl) (by kernel_rfl) (by kernel_rfl) (fun _ _ _ h => h) (Or.inl ⟨by rfl, ?_⟩) (by assumption) ?_
    rotate_left 1
    · (intro w9 hSw; (try dsimp only at hSw); go_simp; try with_reducible rfl)
    try simp only [Act.put, List.setIfInBounds_toArray, List.set_cons_zero, List.set_cons_succ]
    refine wpAnyH_take (i := 3) (oi := ({ dst := some 46, op := Op.load 28 (Operand.tmp 45), type := 28, pos := "ref.go:83", after := #[{ on := 2, ground := Ground.data }], guard := none })) (v := ?_) rfl (by kernel_rfl) (by kernel_rfl) (by kernel_rfl) (fun _ _ _ h => h) (Or.inl ⟨by rfl, ?_⟩) (by assumption) ?_
    rotate_left 1
    · (intro w9 hSw; (try dsimp only at hSw); go_simp; try with_reducible rfl)
    try simp only [Act.put, List.setIfInBounds_toArray, List.set_cons_zero, List.set_cons_succ]
    refine wpAnyH_take (i := 4) (oi := ({ dst := some 47, op := Op.move (Operand.tmp 2), type := 29, pos := "ref.go:83", after := #[], guard := none })) (v := ?_) rfl (by kernel_rfl) (by kernel_rfl) (by kernel_rfl) (fun _ _ _ h => h) (Or.inl ⟨by rfl, ?_⟩) (by assumption) ?_
    rotate_left 1
    · (intro w9 hSw; (try dsimp only at hSw); go_simp; try with_reducible rfl)
    try simp only [Act.put, List.setIfInBounds_toArray, List.set_cons_zero, List.set_cons_succ]
    refine wpAnyH_take (i := 5) (oi := ({ dst := some 48, op := Op.move (Operand.tmp 0), type := 27, pos := "ref.go:83", after := #[], guard := none })) (v := ?_) rfl (by kernel_rfl) (by kernel_rfl) (by kernel_rfl) (fun _ _ _ h => h) (Or.inl ⟨by rfl, ?_⟩) (by assumption) ?_
    rotate_left 1
    · (intro w9 hSw; (try dsimp only at hSw); go_simp; try with_reducible rfl)
    try simp only [Act.put, List.setIfInBounds_toArray, List.set_cons_zero, List.set_cons_succ]
    refine wpAnyH_take (i := 6) (oi := ({ dst := some 49, op := Op.nilCheck (Operand.tmp 48), type := 0, pos := "ref.go:83", after := #[{ on := 5, ground := Ground.data }], guard := none })) (v := ?_) rfl (by kernel_rfl) (by kernel_rfl) (by kernel_rfl) (fun _ _ _ h => h) (Or.inl ⟨by rfl, ?_⟩) (by assumption) ?_
    rotate_left 1
    · (intro w9 hSw; (try dsimp only at hSw); go_simp; try with_reducible rfl)
    try simp only [Act.put, List.setIfInBounds_toArray, List.set_cons_zero, List.set_cons_succ]
    refine wpAnyH_take (i := 7) (oi := ({ dst := some 50, op := Op.fieldAddr 31 (Operand.tmp 49) 2, type := 0, pos := "ref.go:83", after := #[{ on := 6, ground := Ground.data }], guard := none })) (v := ?_) rfl (by kernel_rfl) (by kernel_rfl) (by kernel_rfl) (fun _ _ _ h => h) (Or.inl ⟨by rfl, ?_⟩) (by assumption) ?_
    rotate_left 1
    · (intro w9 hSw; (try dsimp only at hSw); go_simp; try with_reducible rfl)
    try simp only [Act.put, List.setIfInBounds_toArray, List.set_cons_zero, List.set_cons_succ]
    refine wpAnyH_take (i := 8) (oi := ({ dst := some 51, op := Op.load 29 (Operand.tmp 50), type := 29, pos := "ref.go:83", after := #[{ on := 7, ground := Ground.data }], guard := none })) (v := ?_) rfl (by kernel_rfl) (by kernel_rfl) (by kernel_rfl) (fun _ _ _ h => h) (Or.inl ⟨by rfl, ?_⟩) (by assumption) ?_
    rotate_left 1
    · (intro w9 hSw; (try dsimp only at hSw); go_simp; try with_reducible rfl)
    try simp only [Act.put, List.setIfInBounds_toArray, List.set_cons_zero, List.set_cons_succ]
    refine wpAnyH_take (i := 9) (oi := ({ dst := some 52, op := Op.build 31 #[(0, Operand.tmp 46), (1, Operand.tmp 47), (2, Operand.tmp 51)], type := 31, pos := "ref.go:83", after := #[{ on := 3, ground := Ground.data }, { on := 4, ground := Ground.data }, { on := 8, ground := Ground.data }], guard := none })) (v := ?_) rfl (by kernel_rfl) (by kernel_rfl) (by kernel_rfl) (fun _ _ _ h => h) (Or.inl ⟨by rfl, ?_⟩) (by assumption) ?_
    rotate_left 1
    · (intro w9 hSw; (try dsimp only at hSw); go_simp; try with_reducible rfl)
    try simp only [Act.put, List.setIfInBounds_toArray, List.set_cons_zero, List.set_cons_succ]
    refine wpAnyH_ready (rs := [10]) (by kernel_rfl) (by simp) ?_
    refine AllReadyH.cons (o := ({ dst := some 11, op := Op.alloc 31, type := 0, pos := "ref.go:83", after := #[], guard := none })) rfl (fun K hK => ?_) AllReadyH.nil
    refine step_alloc_bk rfl 31 (mapR none 0 0 0 0) alloc_rm rfl ?_
    intro W7 q11 h7
    replace hB := fr_new hB h7.below
    refine hK.out _ _ (KEEP.out _ hB) (fun hHeld => ?_)
    clear hK K
    try simp only [Act.put, List.setIfInBounds_toArray, List.set_cons_zero, List.set_cons_succ]
    refine wpAnyH_ready (rs := [11]) (by kernel_rfl) (by simp) ?_
    refine AllReadyH.cons (o := ({ dst := none, op := Op.store 31 (Operand.tmp 11) (Operand.tmp 52), type := 0, pos := "ref.go:83", after := #[{ on := 10, ground := Ground.data }, { on := 9, ground := Ground.data }, { on := 0, ground := Ground.phase }, { on := 1, ground := Ground.phase }, { on := 2, ground := Ground.phase }, { on := 3, ground := Ground.phase }, { on := 4, ground := Ground.phase }, { on := 5, ground := Ground.phase }, { on := 6, ground := Ground.phase }, { on := 7, ground := Ground.phase }, { on := 8, ground := Ground.phase }, { on := 9, ground := Ground.phase }, { on := 10, ground := Ground.phase }], guard := none })) rfl (fun K hK => ?_) AllReadyH.nil
    refine step_store_bk rfl 31 (.tmp 11) (.tmp 52) rfl q11 0 (mapR none 0 0 0 0) (mapR a n cp x i) (mapR a n cp x i) h7.bk (Nat.le_refl 3) rfl info_rm (mapR_one _ _ _ _ _) rfl rfl ?_
    intro W8 h8 k8
    replace hB := fr_set hB k8 (h7.at hB0)
    refine hK.out _ _ (KEEP.out _ hB) (fun hHeld => ?_)
    clear hK K
    try simp only [Act.put]
    refine wpAnyH_done (by kernel_rfl) ?_ _
    have HF8 := Lib.hid (fr_new HF5.out hB)
    have HC8 := Lib.hid (HC5.out.new hB)
    have HG8 := Lib.hid (HG5.out.new hB)
    have HI8 := Lib.hid (HI5.out.new hB)
    have HR8 := Lib.hid (HR.out.new HF8.out)
    have HL8 := Lib.hid (HL.out.new HF8.out)
    obtain ⟨y0, y1, y2, y3, y4, y5, y6⟩ := call_cells HC8.out; dsimp only at y0 y1 y2 y3 y4 y5 y6
    obtain ⟨a0, a1, a2, a3, a4, a5⟩ := it_cells HI8.out
    obtain ⟨m0, m1, m2⟩ := map_cells h8
    clear hB hB0 h7 h8 k8 hHeld
    have HS8 := Lib.hid (show q6 < W8.heap.size from HG8.out.lt)
    go_wp2_with (first
      | (go_at_call 52; refine (rsaysw 4 a n cp x i _).mono ?_; rintro e1 W9 ⟨rfl, b9⟩; clear y0 y1 y2 y3 y4 y5 y6 a0 a1 a2 a3 a4 a5 m0 m1 m2)
      | ((with_reducible refine at_wq ?_); refine wpList_store_bk rfl 87 (.tmp 6) (.tmp 138) rfl q6 0 gvnZ (gvnC (Ans.of 4) a n cp x i false) (gvnC (Ans.of 4) a n cp x i false) (HG8.out.new b9) (Nat.le_refl 12) rfl info_gvn (gvnC_one _ _ _ _ _ _ _) rfl rfl ?_; intro W11 h11 k11))
    refine bodyPost_ret (results_two rfl _ h11 rfl rfl _ Tryd.underlying87 rfl info_gvn) rfl ⟨a, n, cp, rfl, ((HL.out.new (fr_new HF8.out b9)).base (Nat.zero_le _)).keep k11 (fun g o s e e1 => by have e2 := (HL.out.blk e).2; have e3 := HQ2.out; omega), onA_self _ _, fr_set (fr_new HF8.out b9) k11 HQ2.out.2.1⟩
set_option maxHeartbeats 8000000 in
set_option maxRecDepth 100000 in
theorem rg_chgD (hr : Bk w r (mapR a n cp e i)) (hl : RL w B a n cp L) (hn : n < 1000000) (he : 0 ≤ e ∧ e < 18446744073709551616) (hx : 0 ≤ x ∧ x < 18446744073709551616) (hk : key.size ≤ maxLen) (hv : v = 7 ∨ v = 8 ∨ v = 9 ∨ v = 10) (hcm : comes e x = true) (hok : okB key = true) (hlk : mlook L key = some y) (hal : alivef y.gen y.dies x = false)  : Calls Tryd.prog 37 #[.pointer (some ⟨r, 0, none⟩), .agg (calC (⟨v, key, vl, fl, ex, id, by_⟩ : Cal)).toArray, .int .u64 x] w (rgvP w a (some (Mst.stay ⟨L, e, i⟩ x 4))) := by
  have HR := Lib.hid hr
  have HL := Lib.hid hl
  have HN := Lib.hid hn
  have HE := Lib.hid he
  have HX := Lib.hid hx
  have HK := Lib.hid hk
  have HCM := Lib.hid hcm
  have HLK := Lib.hid hlk
  have HOK := Lib.hid (show ((lookF key.data.toList).1 == 0) = true from hok)
  have HAL := Lib.hid hal
  clear hr hl hn he hx hk hcm hlk hok hal
  rcases hv with rfl | rfl | rfl | rfl
  all_goals
    go_enter Tryd.func37, Tryd.ntmps37
    go_wp2_with (first
      | ((with_reducible refine at_wq ?_); refine wpList_box_bk rfl 35 (.tmp 1) rfl (calC (⟨_, key, vl, fl, ex, id, by_⟩ : Cal)) rfl ?_; intro W1 q4 h1)
      | ((with_reducible refine at_wq ?_); refine wpList_alloc_bk rfl 87 gvnZ alloc_gvn rfl ?_; intro W2 q6 h2; have HF2 := Lib.hid (fr_new h1.below h2.below); have HC2 := Lib.hid (h1.bk.new h2.below); have HG2 := Lib.hid h2.bk; have HQ2 := Lib.hid (show w.heap.size ≤ q4 ∧ w.heap.size ≤ q6 ∧ q4 ≠ q6 ∧ q4 < W2.heap.size ∧ q6 < W2.heap.size from ⟨by have e1 := h1.eq; omega, h2.at h1.below, by have e1 := h1.bk.lt; have e2 := h2.eq; omega, by have e1 := h1.bk.lt; have e2 := h2.below.size; omega, h2.bk.lt⟩); obtain ⟨y0, y1, y2, y3, y4, y5, y6⟩ := call_cells HC2.out; dsimp only at y0 y1 y2 y3 y4 y5 y6; clear h1 h2)
      | (go_at_call 49; refine (rComesw (HR.out.new HF2.out) x HE.out HX.out).mono ?_; rintro e1 Y ⟨rfl, rfl⟩; rw [HCM.out])
      | (go_at_call 50; refine (refokw key _ HK.out).mono ?_; rintro e1 Y ⟨rfl, rfl⟩; rw [HOK.out])
      | (go_at_call 14; refine (rAtw (HR.out.new HF2.out) (HL.out.new HF2.out) key).mono ?_; rintro e1 W3 ⟨rfl, b3⟩; unfold atV; rw [HLK.out]; simp only [Option.getD_some, Option.isSome_some]; have HF3 := Lib.hid (fr_new HF2.out b3); have HC3 := Lib.hid (HC2.out.new b3); have HG3 := Lib.hid (HG2.out.new b3); have HS3 := Lib.hid b3.size; clear b3 y0 y1 y2 y3 y4 y5 y6)
      | ((with_reducible refine at_wq ?_); refine wpList_alloc_bk rfl 38 (itC Itm.none) alloc_it rfl ?_; intro W4 q8 h4)
      | ((with_reducible refine at_wq ?_); refine wpList_store_bk rfl 38 (.tmp 8) (.tmp 35) rfl q8 0 (itC Itm.none) (itC y) (itC y) h4.bk (Nat.le_refl 6) rfl info_it (itC_one _) rfl rfl ?_; intro W5 h5 k5; have HQ := Lib.hid (show q8 ≠ q4 ∧ q8 ≠ q6 ∧ w.heap.size ≤ q8 from ⟨by have e1 := h4.eq; have e2 := HQ2.out; have e3 := HS3.out; omega, by have e1 := h4.eq; have e2 := HQ2.out; have e3 := HS3.out; omega, h4.at HF3.out⟩); have HF5 := Lib.hid (fr_set (fr_new HF3.out h4.below) k5 (h4.at HF3.out)); have HC5 := Lib.hid ((HC3.out.new h4.below).keep k5 (fun e => HQ.out.1 e.symm)); have HG5 := Lib.hid ((HG3.out.new h4.below).keep k5 (fun e => HQ.out.2.1 e.symm)); have HI5 := Lib.hid h5; obtain ⟨a0, a1, a2, a3, a4, a5⟩ := it_cells h5; clear h4 h5 k5)
      | (go_at_call 51; refine (ralive _ _ _ _ _ _ x _ HX.out.1 HX.out.2).mono ?_; rintro e1 W6 ⟨rfl, b6⟩; rw [HAL.out]; have HF6 := Lib.hid (fr_new HF5.out b6); have HC6 := Lib.hid (HC5.out.new b6); have HG6 := Lib.hid (HG5.out.new b6); have HI6 := Lib.hid (HI5.out.new b6); clear b6 a0 a1 a2 a3 a4 a5))
    have HRV := Lib.hid (HR.out.new HF6.out)
    have hB : Below W6.heap.size W6 W6.drew := (Below.refl _ _).drew
    have hB0 := hB
    have KEEP : Hid (∀ X, Below W6.heap.size W6 X → X.cell? ⟨r, 0, none⟩ = some (.slice a n cp) ∧ X.cell? ⟨r, 2, none⟩ = some (.int .u64 i)) := Lib.hid fun X hb => by
      obtain ⟨m0, m1, m2⟩ := map_cells (HRV.out.new hb)
      exact ⟨m0, m2⟩
    refine wp_region_held_drew (S := fun X => X.cell? ⟨r, 0, none⟩ = some (.slice a n cp) ∧ X.cell? ⟨r, 2, none⟩ = some (.int .u64 i)) (by kernel_rfl) (KEEP.out _ hB) (fun hHeld => ?_)
    refine wpAnyH_take (i := 0) (oi := ({ dst := some 43, op := Op.move (Operand.tmp 0), type := 27, pos := "ref.go:83", after := #[], guard := none })) (v := ?_) rfl (by kernel_rfl) (by kernel_rfl) (by kernel_rfl) (fun _ _ _ h => h) (Or.inl ⟨by rfl, ?_⟩) (by assumption) ?_
    rotate_left 1
    · (intro w9 hSw; (try dsimp only at hSw); go_simp; try with_reducible rfl)
    try simp only [Act.put, List.setIfInBounds_toArray, List.set_cons_zero, List.set_cons_succ]
    refine wpAnyH_take (i := 1) (oi := ({ dst := some 44, op := Op.nilCheck (Operand.tmp 43), type := 0, pos := "ref.go:83", after := #[{ on := 0, ground := Ground.data }], guard := none })) (v := ?_) rfl (by kernel_rfl) (by kernel_rfl) (by kernel_rfl) (fun _ _ _ h => h) (Or.inl ⟨by rfl, ?_⟩) (by assumption) ?_
    rotate_left 1
    · (intro w9 hSw; (try dsimp only at hSw); go_simp; try with_reducible rfl)
    try simp only [Act.put, List.setIfInBounds_toArray, List.set_cons_zero, List.set_cons_succ]
    refine wpAnyH_take (i := 2) (oi := ({ dst := some 45, op := Op.fieldAddr 31 (Operand.tmp 44) 0, type := 0, pos := "ref.go:83", after := #[{ on := 1, ground := Ground.data }], guard := none })) (v := ?_) rfl (by kernel_rfl) (by kernel_rfl) (by kernel_rfl) (fun _ _ _ h => h) (Or.inl ⟨by rfl, ?_⟩) (by assumption) ?_
    rotate_left 1
    · (intro w9 hSw; (try dsimp only at hSw); go_simp; try with_reducible rfl)
    try simp only [Act.put, List.setIfInBounds_toArray, List.set_cons_zero, List.set_cons_succ]
    refine wpAnyH_take (i := 3) (oi := ({ dst := some 46, op := Op.load 28 (Operand.tmp 45), type := 28, pos := "ref.go:83", after := #[{ on := 2, ground := Ground.data }], guard := none })) (v := ?_) rfl (by kernel_rfl) (by kernel_rfl) (by kernel_rfl) (fun _ _ _ h => h) (Or.inl ⟨by rfl, ?_⟩) (by assumption) ?_
    rotate_left 1
    · (intro w9 hSw; (try dsimp only at hSw); go_simp; try with_reducible rfl)
    try simp only [Act.put, List.setIfInBounds_toArray, List.set_cons_zero, List.set_cons_succ]
    refine wpAnyH_take (i := 4) (oi := ({ dst := some 47, op := Op.move (Operand.tmp 2), type := 29, pos := "ref.go:83", after := #[], guard := none })) (v := ?_) rfl (by kernel_rfl) (by kernel_rfl) (by kernel_rfl) (fun _ _ _ h => h) (Or.inl ⟨by rfl, ?_⟩) (by assumption) ?_
    rotate_left 1
    · (intro w9 hSw; (try dsimp only at hSw); go_simp; try with_reducible rfl)
    try simp only [Act.put, List.setIfInBounds_toArray, List.set_cons_zero, List.set_cons_succ]
    refine wpAnyH_take (i := 5) (oi := ({ dst := some 48, op := Op.move (Operand.tmp 0), type := 27, pos := "ref.go:83", after := #[], guard := none })) (v := ?_) rfl (by kernel_rfl) (by kernel_rfl) (by kernel_rfl) (fun _ _ _ h => h) (Or.inl ⟨by rfl, ?_⟩) (by assumption) ?_
    rotate_left 1
    · (intro w9 hSw; (try dsimp only at hSw); go_simp; try with_reducible rfl)
    try simp only [Act.put, List.setIfInBounds_toArray, List.set_cons_zero, List.set_cons_succ]
    refine wpAnyH_take (i := 6) (oi := ({ dst := some 49, op := Op.nilCheck (Operand.tmp 48), type := 0, pos := "ref.go:83", after := #[{ on := 5, ground := Ground.data }], guard := none })) (v := ?_) rfl (by kernel_rfl) (by kernel_rfl) (by kernel_rfl) (fun _ _ _ h => h) (Or.inl ⟨by rfl, ?_⟩) (by assumption) ?_
    rotate_left 1
    · (intro w9 hSw; (try dsimp only at hSw); go_simp; try with_reducible rfl)
    try simp only [Act.put, List.setIfInBounds_toArray, List.set_cons_zero, List.set_cons_succ]
    refine wpAnyH_take (i := 7) (oi := ({ dst := some 50, op := Op.fieldAddr 31 (Operand.tmp 49) 2, type := 0, pos := "ref.go:83", after := #[{ on := 6, ground := Ground.data }], guard := none })) (v := ?_) rfl (by kernel_rfl) (by kernel_rfl) (by kernel_rfl) (fun _ _ _ h => h) (Or.inl ⟨by rfl, ?_⟩) (by assumption) ?_
    rotate_left 1
    · (intro w9 hSw; (try dsimp only at hSw); go_simp; try with_reducible rfl)
    try simp only [Act.put, List.setIfInBounds_toArray, List.set_cons_zero, List.set_cons_succ]
    refine wpAnyH_take (i := 8) (oi := ({ dst := some 51, op := Op.load 29 (Operand.tmp 50), type := 29, pos := "ref.go:83", after := #[{ on := 7, ground := Ground.data }], guard := none })) (v := ?_) rfl (by kernel_rfl) (by kernel_rfl) (by kernel_rfl) (fun _ _ _ h => h) (Or.inl ⟨by rfl, ?_⟩) (by assumption) ?_
    rotate_left 1
    · (intro w9 hSw; (try dsimp only at hSw); go_simp; try with_reducible rfl)
    try simp only [Act.put, List.setIfInBounds_toArray, List.set_cons_zero, List.set_cons_succ]
    refine wpAnyH_take (i := 9) (oi := ({ dst := some 52, op := Op.build 31 #[(0, Operand.tmp 46), (1, Operand.tmp 47), (2, Operand.tmp 51)], type := 31, pos := "ref.go:83", after := #[{ on := 3, ground := Ground.data }, { on := 4, ground := Ground.data }, { on := 8, ground := Ground.data }], guard := none })) (v := ?_) rfl (by kernel_rfl) (by kernel_rfl) (by kernel_rfl) (fun _ _ _ h => h) (Or.inl ⟨by rfl, ?_⟩) (by assumption) ?_
    rotate_left 1
    · (intro w9 hSw; (try dsimp only at hSw); go_simp; try with_reducible rfl)
    try simp only [Act.put, List.setIfInBounds_toArray, List.set_cons_zero, List.set_cons_succ]
    refine wpAnyH_ready (rs := [10]) (by kernel_rfl) (by simp) ?_
    refine AllReadyH.cons (o := ({ dst := some 11, op := Op.alloc 31, type := 0, pos := "ref.go:83", after := #[], guard := none })) rfl (fun K hK => ?_) AllReadyH.nil
    refine step_alloc_bk rfl 31 (mapR none 0 0 0 0) alloc_rm rfl ?_
    intro W7 q11 h7
    replace hB := fr_new hB h7.below
    refine hK.out _ _ (KEEP.out _ hB) (fun hHeld => ?_)
    clear hK K
    try simp only [Act.put, List.setIfInBounds_toArray, List.set_cons_zero, List.set_cons_succ]
    refine wpAnyH_ready (rs := [11]) (by kernel_rfl) (by simp) ?_
    refine AllReadyH.cons (o := ({ dst := none, op := Op.store 31 (Operand.tmp 11) (Operand.tmp 52), type := 0, pos := "ref.go:83", after := #[{ on := 10, ground := Ground.data }, { on := 9, ground := Ground.data }, { on := 0, ground := Ground.phase }, { on := 1, ground := Ground.phase }, { on := 2, ground := Ground.phase }, { on := 3, ground := Ground.phase }, { on := 4, ground := Ground.phase }, { on := 5, ground := Ground.phase }, { on := 6, ground := Ground.phase }, { on := 7, ground := Ground.phase }, { on := 8, ground := Ground.phase }, { on := 9, ground := Ground.phase }, { on := 10, ground := Ground.phase }], guard := none })) rfl (fun K hK => ?_) AllReadyH.nil
    refine step_store_bk rfl 31 (.tmp 11) (.tmp 52) rfl q11 0 (mapR none 0 0 0 0) (mapR a n cp x i) (mapR a n cp x i) h7.bk (Nat.le_refl 3) rfl info_rm (mapR_one _ _ _ _ _) rfl rfl ?_
    intro W8 h8 k8
    replace hB := fr_set hB k8 (h7.at hB0)
    refine hK.out _ _ (KEEP.out _ hB) (fun hHeld => ?_)
    clear hK K
    try simp only [Act.put]
    refine wpAnyH_done (by kernel_rfl) ?_ _
    have HF8 := Lib.hid (fr_new HF6.out hB)
    have HC8 := Lib.hid (HC6.out.new hB)
    have HG8 := Lib.hid (HG6.out.new hB)
    have HI8 := Lib.hid (HI6.out.new hB)
    have HR8 := Lib.hid (HR.out.new HF8.out)
    have HL8 := Lib.hid (HL.out.new HF8.out)
    obtain ⟨y0, y1, y2, y3, y4, y5, y6⟩ := call_cells HC8.out; dsimp only at y0 y1 y2 y3 y4 y5 y6
    obtain ⟨a0, a1, a2, a3, a4, a5⟩ := it_cells HI8.out
    obtain ⟨m0, m1, m2⟩ := map_cells h8
    clear hB hB0 h7 h8 k8 hHeld
    have HS8 := Lib.hid (show q6 < W8.heap.size from HG8.out.lt)
    go_wp2_with (first
      | (go_at_call 52; refine (rsaysw 4 a n cp x i _).mono ?_; rintro e1 W9 ⟨rfl, b9⟩; clear y0 y1 y2 y3 y4 y5 y6 a0 a1 a2 a3 a4 a5 m0 m1 m2)
      | ((with_reducible refine at_wq ?_); refine wpList_store_bk rfl 87 (.tmp 6) (.tmp 138) rfl q6 0 gvnZ (gvnC (Ans.of 4) a n cp x i false) (gvnC (Ans.of 4) a n cp x i false) (HG8.out.new b9) (Nat.le_refl 12) rfl info_gvn (gvnC_one _ _ _ _ _ _ _) rfl rfl ?_; intro W11 h11 k11))
    refine bodyPost_ret (results_two rfl _ h11 rfl rfl _ Tryd.underlying87 rfl info_gvn) rfl ⟨a, n, cp, rfl, ((HL.out.new (fr_new HF8.out b9)).base (Nat.zero_le _)).keep k11 (fun g o s e e1 => by have e2 := (HL.out.blk e).2; have e3 := HQ2.out; omega), onA_self _ _, fr_set (fr_new HF8.out b9) k11 HQ2.out.2.1⟩
set_option maxHeartbeats 8000000 in
set_option maxRecDepth 100000 in
theorem rg_chgA (hr : Bk w r (mapR a n cp e i)) (hl : RL w B a n cp L) (hn : n < 1000000) (he : 0 ≤ e ∧ e < 18446744073709551616) (hx : 0 ≤ x ∧ x < 18446744073709551616) (hk : key.size ≤ maxLen) (hv : v = 7 ∨ v = 8 ∨ v = 9 ∨ v = 10) {g : Gv} (hch : ∀ W, Below w.heap.size w W → Calls Tryd.prog 54 #[.pointer (some ⟨r, 0, none⟩), .agg (calC (⟨v, key, vl, fl, ex, id, by_⟩ : Cal)).toArray, .int .u64 x, .agg (itC y).toArray] W (GnP W a g)) (hcm : comes e x = true) (hok : okB key = true) (hlk : mlook L key = some y) (hal : alivef y.gen y.dies x = true)  : Calls Tryd.prog 37 #[.pointer (some ⟨r, 0, none⟩), .agg (calC (⟨v, key, vl, fl, ex, id, by_⟩ : Cal)).toArray, .int .u64 x] w (rgvP w a (some g)) := by
  have HR := Lib.hid hr
  have HL := Lib.hid hl
  have HN := Lib.hid hn
  have HE := Lib.hid he
  have HX := Lib.hid hx
  have HK := Lib.hid hk
  have HCM := Lib.hid hcm
  have HLK := Lib.hid hlk
  have HOK := Lib.hid (show ((lookF key.data.toList).1 == 0) = true from hok)
  have HAL := Lib.hid hal
  have HCH := Lib.hid hch
  clear hr hl hn he hx hk hcm hlk hok hal hch
  rcases hv with rfl | rfl | rfl | rfl
  all_goals
    go_enter Tryd.func37, Tryd.ntmps37
    go_wp2_with (first
      | ((with_reducible refine at_wq ?_); refine wpList_box_bk rfl 35 (.tmp 1) rfl (calC (⟨_, key, vl, fl, ex, id, by_⟩ : Cal)) rfl ?_; intro W1 q4 h1)
      | ((with_reducible refine at_wq ?_); refine wpList_alloc_bk rfl 87 gvnZ alloc_gvn rfl ?_; intro W2 q6 h2; have HF2 := Lib.hid (fr_new h1.below h2.below); have HC2 := Lib.hid (h1.bk.new h2.below); have HG2 := Lib.hid h2.bk; have HQ2 := Lib.hid (show w.heap.size ≤ q4 ∧ w.heap.size ≤ q6 ∧ q4 ≠ q6 ∧ q4 < W2.heap.size ∧ q6 < W2.heap.size from ⟨by have e1 := h1.eq; omega, h2.at h1.below, by have e1 := h1.bk.lt; have e2 := h2.eq; omega, by have e1 := h1.bk.lt; have e2 := h2.below.size; omega, h2.bk.lt⟩); obtain ⟨y0, y1, y2, y3, y4, y5, y6⟩ := call_cells HC2.out; dsimp only at y0 y1 y2 y3 y4 y5 y6; clear h1 h2)
      | (go_at_call 49; refine (rComesw (HR.out.new HF2.out) x HE.out HX.out).mono ?_; rintro e1 Y ⟨rfl, rfl⟩; rw [HCM.out])
      | (go_at_call 50; refine (refokw key _ HK.out).mono ?_; rintro e1 Y ⟨rfl, rfl⟩; rw [HOK.out])
      | (go_at_call 14; refine (rAtw (HR.out.new HF2.out) (HL.out.new HF2.out) key).mono ?_; rintro e1 W3 ⟨rfl, b3⟩; unfold atV; rw [HLK.out]; simp only [Option.getD_some, Option.isSome_some]; have HF3 := Lib.hid (fr_new HF2.out b3); have HC3 := Lib.hid (HC2.out.new b3); have HG3 := Lib.hid (HG2.out.new b3); have HS3 := Lib.hid b3.size; clear b3 y0 y1 y2 y3 y4 y5 y6)
      | ((with_reducible refine at_wq ?_); refine wpList_alloc_bk rfl 38 (itC Itm.none) alloc_it rfl ?_; intro W4 q8 h4)
      | ((with_reducible refine at_wq ?_); refine wpList_store_bk rfl 38 (.tmp 8) (.tmp 35) rfl q8 0 (itC Itm.none) (itC y) (itC y) h4.bk (Nat.le_refl 6) rfl info_it (itC_one _) rfl rfl ?_; intro W5 h5 k5; have HQ := Lib.hid (show q8 ≠ q4 ∧ q8 ≠ q6 ∧ w.heap.size ≤ q8 from ⟨by have e1 := h4.eq; have e2 := HQ2.out; have e3 := HS3.out; omega, by have e1 := h4.eq; have e2 := HQ2.out; have e3 := HS3.out; omega, h4.at HF3.out⟩); have HF5 := Lib.hid (fr_set (fr_new HF3.out h4.below) k5 (h4.at HF3.out)); have HC5 := Lib.hid ((HC3.out.new h4.below).keep k5 (fun e => HQ.out.1 e.symm)); have HG5 := Lib.hid ((HG3.out.new h4.below).keep k5 (fun e => HQ.out.2.1 e.symm)); have HI5 := Lib.hid h5; obtain ⟨a0, a1, a2, a3, a4, a5⟩ := it_cells h5; clear h4 h5 k5)
      | (go_at_call 51; refine (ralive _ _ _ _ _ _ x _ HX.out.1 HX.out.2).mono ?_; rintro e1 W6 ⟨rfl, b6⟩; rw [HAL.out]; have HF6 := Lib.hid (fr_new HF5.out b6); have HC6 := Lib.hid (HC5.out.new b6); have HG6 := Lib.hid (HG5.out.new b6); have HI6 := Lib.hid (HI5.out.new b6); clear b6 a0 a1 a2 a3 a4 a5))
    have HRV := Lib.hid (HR.out.new HF6.out)
    have hB : Below W6.heap.size W6 W6.drew := (Below.refl _ _).drew
    have hB0 := hB
    have KEEP : Hid (∀ X, Below W6.heap.size W6 X → X.cell? ⟨r, 0, none⟩ = some (.slice a n cp) ∧ X.cell? ⟨r, 2, none⟩ = some (.int .u64 i)) := Lib.hid fun X hb => by
      obtain ⟨m0, m1, m2⟩ := map_cells (HRV.out.new hb)
      exact ⟨m0, m2⟩
    refine wp_region_held_drew (S := fun X => X.cell? ⟨r, 0, none⟩ = some (.slice a n cp) ∧ X.cell? ⟨r, 2, none⟩ = some (.int .u64 i)) (by kernel_rfl) (KEEP.out _ hB) (fun hHeld => ?_)
    refine wpAnyH_take (i := 0) (oi := ({ dst := some 43, op := Op.move (Operand.tmp 0), type := 27, pos := "ref.go:83", after := #[], guard := none })) (v := ?_) rfl (by kernel_rfl) (by kernel_rfl) (by kernel_rfl) (fun _ _ _ h => h) (Or.inl ⟨by rfl, ?_⟩) (by assumption) ?_
    rotate_left 1
    · (intro w9 hSw; (try dsimp only at hSw); go_simp; try with_reducible rfl)
    try simp only [Act.put, List.setIfInBounds_toArray, List.set_cons_zero, List.set_cons_succ]
    refine wpAnyH_take (i := 1) (oi := ({ dst := some 44, op := Op.nilCheck (Operand.tmp 43), type := 0, pos := "ref.go:83", after := #[{ on := 0, ground := Ground.data }], guard := none })) (v := ?_) rfl (by kernel_rfl) (by kernel_rfl) (by kernel_rfl) (fun _ _ _ h => h) (Or.inl ⟨by rfl, ?_⟩) (by assumption) ?_
    rotate_left 1
    · (intro w9 hSw; (try dsimp only at hSw); go_simp; try with_reducible rfl)
    try simp only [Act.put, List.setIfInBounds_toArray, List.set_cons_zero, List.set_cons_succ]
    refine wpAnyH_take (i := 2) (oi := ({ dst := some 45, op := Op.fieldAddr 31 (Operand.tmp 44) 0, type := 0, pos := "ref.go:83", after := #[{ on := 1, ground := Ground.data }], guard := none })) (v := ?_) rfl (by kernel_rfl) (by kernel_rfl) (by kernel_rfl) (fun _ _ _ h => h) (Or.inl ⟨by rfl, ?_⟩) (by assumption) ?_
    rotate_left 1
    · (intro w9 hSw; (try dsimp only at hSw); go_simp; try with_reducible rfl)
    try simp only [Act.put, List.setIfInBounds_toArray, List.set_cons_zero, List.set_cons_succ]
    refine wpAnyH_take (i := 3) (oi := ({ dst := some 46, op := Op.load 28 (Operand.tmp 45), type := 28, pos := "ref.go:83", after := #[{ on := 2, ground := Ground.data }], guard := none })) (v := ?_) rfl (by kernel_rfl) (by kernel_rfl) (by kernel_rfl) (fun _ _ _ h => h) (Or.inl ⟨by rfl, ?_⟩) (by assumption) ?_
    rotate_left 1
    · (intro w9 hSw; (try dsimp only at hSw); go_simp; try with_reducible rfl)
    try simp only [Act.put, List.setIfInBounds_toArray, List.set_cons_zero, List.set_cons_succ]
    refine wpAnyH_take (i := 4) (oi := ({ dst := some 47, op := Op.move (Operand.tmp 2), type := 29, pos := "ref.go:83", after := #[], guard := none })) (v := ?_) rfl (by kernel_rfl) (by kernel_rfl) (by kernel_rfl) (fun _ _ _ h => h) (Or.inl ⟨by rfl, ?_⟩) (by assumption) ?_
    rotate_left 1
    · (intro w9 hSw; (try dsimp only at hSw); go_simp; try with_reducible rfl)
    try simp only [Act.put, List.setIfInBounds_toArray, List.set_cons_zero, List.set_cons_succ]
    refine wpAnyH_take (i := 5) (oi := ({ dst := some 48, op := Op.move (Operand.tmp 0), type := 27, pos := "ref.go:83", after := #[], guard := none })) (v := ?_) rfl (by kernel_rfl) (by kernel_rfl) (by kernel_rfl) (fun _ _ _ h => h) (Or.inl ⟨by rfl, ?_⟩) (by assumption) ?_
    rotate_left 1
    · (intro w9 hSw; (try dsimp only at hSw); go_simp; try with_reducible rfl)
    try simp only [Act.put, List.setIfInBounds_toArray, List.set_cons_zero, List.set_cons_succ]
    refine wpAnyH_take (i := 6) (oi := ({ dst := some 49, op := Op.nilCheck (Operand.tmp 48), type := 0, pos := "ref.go:83", after := #[{ on := 5, ground := Ground.data }], guard := none })) (v := ?_) rfl (by kernel_rfl) (by kernel_rfl) (by kernel_rfl) (fun _ _ _ h => h) (Or.inl ⟨by rfl, ?_⟩) (by assumption) ?_
    rotate_left 1
    · (intro w9 hSw; (try dsimp only at hSw); go_simp; try with_reducible rfl)
    try simp only [Act.put, List.setIfInBounds_toArray, List.set_cons_zero, List.set_cons_succ]
    refine wpAnyH_take (i := 7) (oi := ({ dst := some 50, op := Op.fieldAddr 31 (Operand.tmp 49) 2, type := 0, pos := "ref.go:83", after := #[{ on := 6, ground := Ground.data }], guard := none })) (v := ?_) rfl (by kernel_rfl) (by kernel_rfl) (by kernel_rfl) (fun _ _ _ h => h) (Or.inl ⟨by rfl, ?_⟩) (by assumption) ?_
    rotate_left 1
    · (intro w9 hSw; (try dsimp only at hSw); go_simp; try with_reducible rfl)
    try simp only [Act.put, List.setIfInBounds_toArray, List.set_cons_zero, List.set_cons_succ]
    refine wpAnyH_take (i := 8) (oi := ({ dst := some 51, op := Op.load 29 (Operand.tmp 50), type := 29, pos := "ref.go:83", after := #[{ on := 7, ground := Ground.data }], guard := none })) (v := ?_) rfl (by kernel_rfl) (by kernel_rfl) (by kernel_rfl) (fun _ _ _ h => h) (Or.inl ⟨by rfl, ?_⟩) (by assumption) ?_
    rotate_left 1
    · (intro w9 hSw; (try dsimp only at hSw); go_simp; try with_reducible rfl)
    try simp only [Act.put, List.setIfInBounds_toArray, List.set_cons_zero, List.set_cons_succ]
    refine wpAnyH_take (i := 9) (oi := ({ dst := some 52, op := Op.build 31 #[(0, Operand.tmp 46), (1, Operand.tmp 47), (2, Operand.tmp 51)], type := 31, pos := "ref.go:83", after := #[{ on := 3, ground := Ground.data }, { on := 4, ground := Ground.data }, { on := 8, ground := Ground.data }], guard := none })) (v := ?_) rfl (by kernel_rfl) (by kernel_rfl) (by kernel_rfl) (fun _ _ _ h => h) (Or.inl ⟨by rfl, ?_⟩) (by assumption) ?_
    rotate_left 1
    · (intro w9 hSw; (try dsimp only at hSw); go_simp; try with_reducible rfl)
    try simp only [Act.put, List.setIfInBounds_toArray, List.set_cons_zero, List.set_cons_succ]
    refine wpAnyH_ready (rs := [10]) (by kernel_rfl) (by simp) ?_
    refine AllReadyH.cons (o := ({ dst := some 11, op := Op.alloc 31, type := 0, pos := "ref.go:83", after := #[], guard := none })) rfl (fun K hK => ?_) AllReadyH.nil
    refine step_alloc_bk rfl 31 (mapR none 0 0 0 0) alloc_rm rfl ?_
    intro W7 q11 h7
    replace hB := fr_new hB h7.below
    refine hK.out _ _ (KEEP.out _ hB) (fun hHeld => ?_)
    clear hK K
    try simp only [Act.put, List.setIfInBounds_toArray, List.set_cons_zero, List.set_cons_succ]
    refine wpAnyH_ready (rs := [11]) (by kernel_rfl) (by simp) ?_
    refine AllReadyH.cons (o := ({ dst := none, op := Op.store 31 (Operand.tmp 11) (Operand.tmp 52), type := 0, pos := "ref.go:83", after := #[{ on := 10, ground := Ground.data }, { on := 9, ground := Ground.data }, { on := 0, ground := Ground.phase }, { on := 1, ground := Ground.phase }, { on := 2, ground := Ground.phase }, { on := 3, ground := Ground.phase }, { on := 4, ground := Ground.phase }, { on := 5, ground := Ground.phase }, { on := 6, ground := Ground.phase }, { on := 7, ground := Ground.phase }, { on := 8, ground := Ground.phase }, { on := 9, ground := Ground.phase }, { on := 10, ground := Ground.phase }], guard := none })) rfl (fun K hK => ?_) AllReadyH.nil
    refine step_store_bk rfl 31 (.tmp 11) (.tmp 52) rfl q11 0 (mapR none 0 0 0 0) (mapR a n cp x i) (mapR a n cp x i) h7.bk (Nat.le_refl 3) rfl info_rm (mapR_one _ _ _ _ _) rfl rfl ?_
    intro W8 h8 k8
    replace hB := fr_set hB k8 (h7.at hB0)
    refine hK.out _ _ (KEEP.out _ hB) (fun hHeld => ?_)
    clear hK K
    try simp only [Act.put]
    refine wpAnyH_done (by kernel_rfl) ?_ _
    have HF8 := Lib.hid (fr_new HF6.out hB)
    have HC8 := Lib.hid (HC6.out.new hB)
    have HG8 := Lib.hid (HG6.out.new hB)
    have HI8 := Lib.hid (HI6.out.new hB)
    have HR8 := Lib.hid (HR.out.new HF8.out)
    have HL8 := Lib.hid (HL.out.new HF8.out)
    obtain ⟨y0, y1, y2, y3, y4, y5, y6⟩ := call_cells HC8.out; dsimp only at y0 y1 y2 y3 y4 y5 y6
    obtain ⟨a0, a1, a2, a3, a4, a5⟩ := it_cells HI8.out
    obtain ⟨m0, m1, m2⟩ := map_cells h8
    clear hB hB0 h7 h8 k8 hHeld
    have HS8 := Lib.hid (show q6 < W8.heap.size from HG8.out.lt)
    go_wp2_with (first
      | (go_at_call 54; refine (HCH.out W8 HF8.out).mono ?_; rintro e1 W9 ⟨a9, n9, c9, rfl, l9, o9, b9⟩; clear y0 y1 y2 y3 y4 y5 y6 a0 a1 a2 a3 a4 a5 m0 m1 m2)
      | ((with_reducible refine at_wq ?_); refine wpList_store_bk rfl 87 (.tmp 6) (.tmp 144) rfl q6 0 gvnZ (gvnC g.a a9 n9 c9 g.S.e g.S.i g.refused) (gvnC g.a a9 n9 c9 g.S.e g.S.i g.refused) (HG8.out.new b9) (Nat.le_refl 12) rfl info_gvn (gvnC_one _ _ _ _ _ _ _) rfl rfl ?_; intro W11 h11 k11))
    refine bodyPost_ret (results_two rfl _ h11 rfl rfl _ Tryd.underlying87 rfl info_gvn) rfl ⟨a9, n9, c9, rfl, l9.keep k11 (fun g o s e e1 => by rcases o9 g o s e with h | h; (have e2 := HS8.out; have e3 := HQ2.out; omega); (have e2 := (HL.out.blk (h ▸ e)).2; have e3 := HQ2.out; omega)), fun g o s e => by (rcases o9 g o s e with h | h; exact .inl (by have e2 := HS8.out; have e3 := HF8.out.size; omega); exact .inr h), fr_set (fr_new HF8.out b9) k11 HQ2.out.2.1⟩
set_option maxHeartbeats 8000000 in
set_option maxRecDepth 100000 in
theorem rg_flYN (hr : Bk w r (mapR a n cp e i)) (hl : RL w B a n cp L) (hn : n < 1000000) (he : 0 ≤ e ∧ e < 18446744073709551616) (hx : 0 ≤ x ∧ x < 18446744073709551616) (hk : key.size ≤ maxLen) (hv : v = 11) (hfl : flushes x = true) (hcm : comes e x = true) (hlk : mlook L key = none)  : Calls Tryd.prog 37 #[.pointer (some ⟨r, 0, none⟩), .agg (calC (⟨v, key, vl, fl, ex, id, by_⟩ : Cal)).toArray, .int .u64 x] w (rgvP w a (some ⟨Ans.of 10, ⟨L, flushf x ex, i⟩, false⟩)) := by
  have HR := Lib.hid hr
  have HL := Lib.hid hl
  have HN := Lib.hid hn
  have HE := Lib.hid he
  have HX := Lib.hid hx
  have HK := Lib.hid hk
  have HCM := Lib.hid hcm
  have HLK := Lib.hid hlk
  have HFL := Lib.hid hfl
  obtain ⟨FW, hfw⟩ : ∃ f, flushf x ex = f := ⟨_, rfl⟩
  rw [hfw]
  have HFW := Lib.hid hfw
  clear hr hl hn he hx hk hcm hlk hfl hfw
  subst hv
  go_enter Tryd.func37, Tryd.ntmps37
  go_wp2_with (first
    | ((with_reducible refine at_wq ?_); refine wpList_box_bk rfl 35 (.tmp 1) rfl (calC (⟨11, key, vl, fl, ex, id, by_⟩ : Cal)) rfl ?_; intro W1 q4 h1)
    | ((with_reducible refine at_wq ?_); refine wpList_alloc_bk rfl 87 gvnZ alloc_gvn rfl ?_; intro W2 q6 h2; have HF2 := Lib.hid (fr_new h1.below h2.below); have HC2 := Lib.hid (h1.bk.new h2.below); have HG2 := Lib.hid h2.bk; have HQ2 := Lib.hid (show w.heap.size ≤ q4 ∧ w.heap.size ≤ q6 ∧ q4 ≠ q6 ∧ q4 < W2.heap.size ∧ q6 < W2.heap.size from ⟨by have e1 := h1.eq; omega, h2.at h1.below, by have e1 := h1.bk.lt; have e2 := h2.eq; omega, by have e1 := h1.bk.lt; have e2 := h2.below.size; omega, h2.bk.lt⟩); obtain ⟨y0, y1, y2, y3, y4, y5, y6⟩ := call_cells HC2.out; dsimp only at y0 y1 y2 y3 y4 y5 y6; clear h1 h2)
    | (go_at_call 49; refine (rComesw (HR.out.new HF2.out) x HE.out HX.out).mono ?_; rintro e1 Y ⟨rfl, rfl⟩; rw [HCM.out])
    | (go_at_call 14; refine (rAtw (HR.out.new HF2.out) (HL.out.new HF2.out) key).mono ?_; rintro e1 W3 ⟨rfl, b3⟩; unfold atV; rw [HLK.out]; simp only [Option.getD_none, Option.isSome_none]; have HF3 := Lib.hid (fr_new HF2.out b3); have HC3 := Lib.hid (HC2.out.new b3); have HG3 := Lib.hid (HG2.out.new b3); have HS3 := Lib.hid b3.size; clear b3 y0 y1 y2 y3 y4 y5 y6)
    | ((with_reducible refine at_wq ?_); refine wpList_alloc_bk rfl 38 (itC Itm.none) alloc_it rfl ?_; intro W4 q8 h4)
    | ((with_reducible refine at_wq ?_); refine wpList_store_bk rfl 38 (.tmp 8) (.tmp 35) rfl q8 0 (itC Itm.none) (itC Itm.none) (itC Itm.none) h4.bk (Nat.le_refl 6) rfl info_it (itC_one _) rfl rfl ?_; intro W5 h5 k5; have HQ := Lib.hid (show q8 ≠ q4 ∧ q8 ≠ q6 ∧ w.heap.size ≤ q8 from ⟨by have e1 := h4.eq; have e2 := HQ2.out; have e3 := HS3.out; omega, by have e1 := h4.eq; have e2 := HQ2.out; have e3 := HS3.out; omega, h4.at HF3.out⟩); have HF5 := Lib.hid (fr_set (fr_new HF3.out h4.below) k5 (h4.at HF3.out)); have HC5 := Lib.hid ((HC3.out.new h4.below).keep k5 (fun e => HQ.out.1 e.symm)); have HG5 := Lib.hid ((HG3.out.new h4.below).keep k5 (fun e => HQ.out.2.1 e.symm)); have HI5 := Lib.hid h5; obtain ⟨a0, a1, a2, a3, a4, a5⟩ := it_cells h5; clear h4 h5 k5))
  have HRV := Lib.hid (HR.out.new HF5.out)
  have hB : Below W5.heap.size W5 W5.drew := (Below.refl _ _).drew
  have hB0 := hB
  have KEEP : Hid (∀ X, Below W5.heap.size W5 X → X.cell? ⟨r, 0, none⟩ = some (.slice a n cp) ∧ X.cell? ⟨r, 2, none⟩ = some (.int .u64 i)) := Lib.hid fun X hb => by
    obtain ⟨m0, m1, m2⟩ := map_cells (HRV.out.new hb)
    exact ⟨m0, m2⟩
  refine wp_region_held_drew (S := fun X => X.cell? ⟨r, 0, none⟩ = some (.slice a n cp) ∧ X.cell? ⟨r, 2, none⟩ = some (.int .u64 i)) (by kernel_rfl) (KEEP.out _ hB) (fun hHeld => ?_)
  refine wpAnyH_take (i := 0) (oi := ({ dst := some 43, op := Op.move (Operand.tmp 0), type := 27, pos := "ref.go:83", after := #[], guard := none })) (v := ?_) rfl (by kernel_rfl) (by kernel_rfl) (by kernel_rfl) (fun _ _ _ h => h) (Or.inl ⟨by rfl, ?_⟩) (by assumption) ?_
  rotate_left 1
  · (intro w9 hSw; (try dsimp only at hSw); go_simp; try with_reducible rfl)
  try simp only [Act.put, List.setIfInBounds_toArray, List.set_cons_zero, List.set_cons_succ]
  refine wpAnyH_take (i := 1) (oi := ({ dst := some 44, op := Op.nilCheck (Operand.tmp 43), type := 0, pos := "ref.go:83", after := #[{ on := 0, ground := Ground.data }], guard := none })) (v := ?_) rfl (by kernel_rfl) (by kernel_rfl) (by kernel_rfl) (fun _ _ _ h => h) (Or.inl ⟨by rfl, ?_⟩) (by assumption) ?_
  rotate_left 1
  · (intro w9 hSw; (try dsimp only at hSw); go_simp; try with_reducible rfl)
  try simp only [Act.put, List.setIfInBounds_toArray, List.set_cons_zero, List.set_cons_succ]
  refine wpAnyH_take (i := 2) (oi := ({ dst := some 45, op := Op.fieldAddr 31 (Operand.tmp 44) 0, type := 0, pos := "ref.go:83", after := #[{ on := 1, ground := Ground.data }], guard := none })) (v := ?_) rfl (by kernel_rfl) (by kernel_rfl) (by kernel_rfl) (fun _ _ _ h => h) (Or.inl ⟨by rfl, ?_⟩) (by assumption) ?_
  rotate_left 1
  · (intro w9 hSw; (try dsimp only at hSw); go_simp; try with_reducible rfl)
  try simp only [Act.put, List.setIfInBounds_toArray, List.set_cons_zero, List.set_cons_succ]
  refine wpAnyH_take (i := 3) (oi := ({ dst := some 46, op := Op.load 28 (Operand.tmp 45), type := 28, pos := "ref.go:83", after := #[{ on := 2, ground := Ground.data }], guard := none })) (v := ?_) rfl (by kernel_rfl) (by kernel_rfl) (by kernel_rfl) (fun _ _ _ h => h) (Or.inl ⟨by rfl, ?_⟩) (by assumption) ?_
  rotate_left 1
  · (intro w9 hSw; (try dsimp only at hSw); go_simp; try with_reducible rfl)
  try simp only [Act.put, List.setIfInBounds_toArray, List.set_cons_zero, List.set_cons_succ]
  refine wpAnyH_take (i := 4) (oi := ({ dst := some 47, op := Op.move (Operand.tmp 2), type := 29, pos := "ref.go:83", after := #[], guard := none })) (v := ?_) rfl (by kernel_rfl) (by kernel_rfl) (by kernel_rfl) (fun _ _ _ h => h) (Or.inl ⟨by rfl, ?_⟩) (by assumption) ?_
  rotate_left 1
  · (intro w9 hSw; (try dsimp only at hSw); go_simp; try with_reducible rfl)
  try simp only [Act.put, List.setIfInBounds_toArray, List.set_cons_zero, List.set_cons_succ]
  refine wpAnyH_take (i := 5) (oi := ({ dst := some 48, op := Op.move (Operand.tmp 0), type := 27, pos := "ref.go:83", after := #[], guard := none })) (v := ?_) rfl (by kernel_rfl) (by kernel_rfl) (by kernel_rfl) (fun _ _ _ h => h) (Or.inl ⟨by rfl, ?_⟩) (by assumption) ?_
  rotate_left 1
  · (intro w9 hSw; (try dsimp only at hSw); go_simp; try with_reducible rfl)
  try simp only [Act.put, List.setIfInBounds_toArray, List.set_cons_zero, List.set_cons_succ]
  refine wpAnyH_take (i := 6) (oi := ({ dst := some 49, op := Op.nilCheck (Operand.tmp 48), type := 0, pos := "ref.go:83", after := #[{ on := 5, ground := Ground.data }], guard := none })) (v := ?_) rfl (by kernel_rfl) (by kernel_rfl) (by kernel_rfl) (fun _ _ _ h => h) (Or.inl ⟨by rfl, ?_⟩) (by assumption) ?_
  rotate_left 1
  · (intro w9 hSw; (try dsimp only at hSw); go_simp; try with_reducible rfl)
  try simp only [Act.put, List.setIfInBounds_toArray, List.set_cons_zero, List.set_cons_succ]
  refine wpAnyH_take (i := 7) (oi := ({ dst := some 50, op := Op.fieldAddr 31 (Operand.tmp 49) 2, type := 0, pos := "ref.go:83", after := #[{ on := 6, ground := Ground.data }], guard := none })) (v := ?_) rfl (by kernel_rfl) (by kernel_rfl) (by kernel_rfl) (fun _ _ _ h => h) (Or.inl ⟨by rfl, ?_⟩) (by assumption) ?_
  rotate_left 1
  · (intro w9 hSw; (try dsimp only at hSw); go_simp; try with_reducible rfl)
  try simp only [Act.put, List.setIfInBounds_toArray, List.set_cons_zero, List.set_cons_succ]
  refine wpAnyH_take (i := 8) (oi := ({ dst := some 51, op := Op.load 29 (Operand.tmp 50), type := 29, pos := "ref.go:83", after := #[{ on := 7, ground := Ground.data }], guard := none })) (v := ?_) rfl (by kernel_rfl) (by kernel_rfl) (by kernel_rfl) (fun _ _ _ h => h) (Or.inl ⟨by rfl, ?_⟩) (by assumption) ?_
  rotate_left 1
  · (intro w9 hSw; (try dsimp only at hSw); go_simp; try with_reducible rfl)
  try simp only [Act.put, List.setIfInBounds_toArray, List.set_cons_zero, List.set_cons_succ]
  refine wpAnyH_take (i := 9) (oi := ({ dst := some 52, op := Op.build 31 #[(0, Operand.tmp 46), (1, Operand.tmp 47), (2, Operand.tmp 51)], type := 31, pos := "ref.go:83", after := #[{ on := 3, ground := Ground.data }, { on := 4, ground := Ground.data }, { on := 8, ground := Ground.data }], guard := none })) (v := ?_) rfl (by kernel_rfl) (by kernel_rfl) (by kernel_rfl) (fun _ _ _ h => h) (Or.inl ⟨by rfl, ?_⟩) (by assumption) ?_
  rotate_left 1
  · (intro w9 hSw; (try dsimp only at hSw); go_simp; try with_reducible rfl)
  try simp only [Act.put, List.setIfInBounds_toArray, List.set_cons_zero, List.set_cons_succ]
  refine wpAnyH_ready (rs := [10]) (by kernel_rfl) (by simp) ?_
  refine AllReadyH.cons (o := ({ dst := some 11, op := Op.alloc 31, type := 0, pos := "ref.go:83", after := #[], guard := none })) rfl (fun K hK => ?_) AllReadyH.nil
  refine step_alloc_bk rfl 31 (mapR none 0 0 0 0) alloc_rm rfl ?_
  intro W7 q11 h7
  replace hB := fr_new hB h7.below
  refine hK.out _ _ (KEEP.out _ hB) (fun hHeld => ?_)
  clear hK K
  try simp only [Act.put, List.setIfInBounds_toArray, List.set_cons_zero, List.set_cons_succ]
  refine wpAnyH_ready (rs := [11]) (by kernel_rfl) (by simp) ?_
  refine AllReadyH.cons (o := ({ dst := none, op := Op.store 31 (Operand.tmp 11) (Operand.tmp 52), type := 0, pos := "ref.go:83", after := #[{ on := 10, ground := Ground.data }, { on := 9, ground := Ground.data }, { on := 0, ground := Ground.phase }, { on := 1, ground := Ground.phase }, { on := 2, ground := Ground.phase }, { on := 3, ground := Ground.phase }, { on := 4, ground := Ground.phase }, { on := 5, ground := Ground.phase }, { on := 6, ground := Ground.phase }, { on := 7, ground := Ground.phase }, { on := 8, ground := Ground.phase }, { on := 9, ground := Ground.phase }, { on := 10, ground := Ground.phase }], guard := none })) rfl (fun K hK => ?_) AllReadyH.nil
  refine step_store_bk rfl 31 (.tmp 11) (.tmp 52) rfl q11 0 (mapR none 0 0 0 0) (mapR a n cp x i) (mapR a n cp x i) h7.bk (Nat.le_refl 3) rfl info_rm (mapR_one _ _ _ _ _) rfl rfl ?_
  intro W8 h8 k8
  replace hB := fr_set hB k8 (h7.at hB0)
  refine hK.out _ _ (KEEP.out _ hB) (fun hHeld => ?_)
  clear hK K
  try simp only [Act.put]
  refine wpAnyH_done (by kernel_rfl) ?_ _
  have HF8 := Lib.hid (fr_new HF5.out hB)
  have HC8 := Lib.hid (HC5.out.new hB)
  have HG8 := Lib.hid (HG5.out.new hB)
  have HI8 := Lib.hid (HI5.out.new hB)
  have HR8 := Lib.hid (HR.out.new HF8.out)
  have HL8 := Lib.hid (HL.out.new HF8.out)
  obtain ⟨y0, y1, y2, y3, y4, y5, y6⟩ := call_cells HC8.out; dsimp only at y0 y1 y2 y3 y4 y5 y6
  obtain ⟨a0, a1, a2, a3, a4, a5⟩ := it_cells HI8.out
  obtain ⟨m0, m1, m2⟩ := map_cells h8
  clear hB hB0 h7 h8 k8 hHeld
  have HS8 := Lib.hid (show q6 < W8.heap.size from HG8.out.lt)
  go_wp2_with (first
    | (go_at_call 53; refine (rflush x ex _ HX.out.1 HX.out.2).mono ?_; rintro e1 Y ⟨rfl, rfl⟩; rw [HFL.out, HFW.out]))
  have hB : Below W8.heap.size W8 W8.drew := (Below.refl _ _).drew
  have KEEP2 : Hid (∀ X, Keeps (fun k => k = q6 ∨ W8.heap.size ≤ k) W8 X → X.cell? ⟨r, 0, none⟩ = some (.slice a n cp) ∧ X.cell? ⟨r, 2, none⟩ = some (.int .u64 i)) := Lib.hid fun X hb => by
    obtain ⟨m0, m1, m2⟩ := map_cells (HR8.out.keep hb (by have e1 := HQ2.out; have e2 := HR8.out.lt; have e3 := HR.out.lt; omega))
    exact ⟨m0, m2⟩
  clear y0 y1 y2 y3 y4 y5 y6 a0 a1 a2 a3 a4 a5 m0 m1 m2
  refine wp_region_held_drew (S := fun X => X.cell? ⟨r, 0, none⟩ = some (.slice a n cp) ∧ X.cell? ⟨r, 2, none⟩ = some (.int .u64 i)) (by kernel_rfl) (KEEP2.out _ (kq hB)) (fun hHeld => ?_)
  refine wpAnyH_take (i := 0) (oi := ({ dst := some 117, op := Op.build 40 #[(0, Operand.const (Value.int IntKind.u8 10))], type := 40, pos := "ref.go:111", after := #[], guard := none })) (v := ?_) rfl (by kernel_rfl) (by kernel_rfl) (by kernel_rfl) (fun _ _ _ h => h) (Or.inl ⟨by rfl, ?_⟩) (by assumption) ?_
  rotate_left 1
  · (intro w9 hSw; (try dsimp only at hSw); go_simp; try with_reducible rfl)
  try simp only [Act.put, List.setIfInBounds_toArray, List.set_cons_zero, List.set_cons_succ]
  refine wpAnyH_take (i := 1) (oi := ({ dst := some 118, op := Op.move (Operand.tmp 0), type := 27, pos := "ref.go:111", after := #[], guard := none })) (v := ?_) rfl (by kernel_rfl) (by kernel_rfl) (by kernel_rfl) (fun _ _ _ h => h) (Or.inl ⟨by rfl, ?_⟩) (by assumption) ?_
  rotate_left 1
  · (intro w9 hSw; (try dsimp only at hSw); go_simp; try with_reducible rfl)
  try simp only [Act.put, List.setIfInBounds_toArray, List.set_cons_zero, List.set_cons_succ]
  refine wpAnyH_take (i := 2) (oi := ({ dst := some 119, op := Op.nilCheck (Operand.tmp 118), type := 0, pos := "ref.go:111", after := #[{ on := 1, ground := Ground.data }], guard := none })) (v := ?_) rfl (by kernel_rfl) (by kernel_rfl) (by kernel_rfl) (fun _ _ _ h => h) (Or.inl ⟨by rfl, ?_⟩) (by assumption) ?_
  rotate_left 1
  · (intro w9 hSw; (try dsimp only at hSw); go_simp; try with_reducible rfl)
  try simp only [Act.put, List.setIfInBounds_toArray, List.set_cons_zero, List.set_cons_succ]
  refine wpAnyH_take (i := 3) (oi := ({ dst := some 120, op := Op.fieldAddr 31 (Operand.tmp 119) 0, type := 0, pos := "ref.go:111", after := #[{ on := 2, ground := Ground.data }], guard := none })) (v := ?_) rfl (by kernel_rfl) (by kernel_rfl) (by kernel_rfl) (fun _ _ _ h => h) (Or.inl ⟨by rfl, ?_⟩) (by assumption) ?_
  rotate_left 1
  · (intro w9 hSw; (try dsimp only at hSw); go_simp; try with_reducible rfl)
  try simp only [Act.put, List.setIfInBounds_toArray, List.set_cons_zero, List.set_cons_succ]
  refine wpAnyH_take (i := 4) (oi := ({ dst := some 121, op := Op.load 28 (Operand.tmp 120), type := 28, pos := "ref.go:111", after := #[{ on := 3, ground := Ground.data }], guard := none })) (v := ?_) rfl (by kernel_rfl) (by kernel_rfl) (by kernel_rfl) (fun _ _ _ h => h) (Or.inl ⟨by rfl, ?_⟩) (by assumption) ?_
  rotate_left 1
  · (intro w9 hSw; (try dsimp only at hSw); go_simp; try with_reducible rfl)
  try simp only [Act.put, List.setIfInBounds_toArray, List.set_cons_zero, List.set_cons_succ]
  refine wpAnyH_take (i := 5) (oi := ({ dst := some 122, op := Op.move (Operand.tmp 12), type := 29, pos := "ref.go:111", after := #[], guard := none })) (v := ?_) rfl (by kernel_rfl) (by kernel_rfl) (by kernel_rfl) (fun _ _ _ h => h) (Or.inl ⟨by rfl, ?_⟩) (by assumption) ?_
  rotate_left 1
  · (intro w9 hSw; (try dsimp only at hSw); go_simp; try with_reducible rfl)
  try simp only [Act.put, List.setIfInBounds_toArray, List.set_cons_zero, List.set_cons_succ]
  refine wpAnyH_take (i := 6) (oi := ({ dst := some 123, op := Op.move (Operand.tmp 0), type := 27, pos := "ref.go:111", after := #[], guard := none })) (v := ?_) rfl (by kernel_rfl) (by kernel_rfl) (by kernel_rfl) (fun _ _ _ h => h) (Or.inl ⟨by rfl, ?_⟩) (by assumption) ?_
  rotate_left 1
  · (intro w9 hSw; (try dsimp only at hSw); go_simp; try with_reducible rfl)
  try simp only [Act.put, List.setIfInBounds_toArray, List.set_cons_zero, List.set_cons_succ]
  refine wpAnyH_take (i := 7) (oi := ({ dst := some 124, op := Op.nilCheck (Operand.tmp 123), type := 0, pos := "ref.go:111", after := #[{ on := 6, ground := Ground.data }], guard := none })) (v := ?_) rfl (by kernel_rfl) (by kernel_rfl) (by kernel_rfl) (fun _ _ _ h => h) (Or.inl ⟨by rfl, ?_⟩) (by assumption) ?_
  rotate_left 1
  · (intro w9 hSw; (try dsimp only at hSw); go_simp; try with_reducible rfl)
  try simp only [Act.put, List.setIfInBounds_toArray, List.set_cons_zero, List.set_cons_succ]
  refine wpAnyH_take (i := 8) (oi := ({ dst := some 125, op := Op.fieldAddr 31 (Operand.tmp 124) 2, type := 0, pos := "ref.go:111", after := #[{ on := 7, ground := Ground.data }], guard := none })) (v := ?_) rfl (by kernel_rfl) (by kernel_rfl) (by kernel_rfl) (fun _ _ _ h => h) (Or.inl ⟨by rfl, ?_⟩) (by assumption) ?_
  rotate_left 1
  · (intro w9 hSw; (try dsimp only at hSw); go_simp; try with_reducible rfl)
  try simp only [Act.put, List.setIfInBounds_toArray, List.set_cons_zero, List.set_cons_succ]
  refine wpAnyH_take (i := 9) (oi := ({ dst := some 126, op := Op.load 29 (Operand.tmp 125), type := 29, pos := "ref.go:111", after := #[{ on := 8, ground := Ground.data }], guard := none })) (v := ?_) rfl (by kernel_rfl) (by kernel_rfl) (by kernel_rfl) (fun _ _ _ h => h) (Or.inl ⟨by rfl, ?_⟩) (by assumption) ?_
  rotate_left 1
  · (intro w9 hSw; (try dsimp only at hSw); go_simp; try with_reducible rfl)
  try simp only [Act.put, List.setIfInBounds_toArray, List.set_cons_zero, List.set_cons_succ]
  refine wpAnyH_take (i := 10) (oi := ({ dst := some 127, op := Op.build 31 #[(0, Operand.tmp 121), (1, Operand.tmp 122), (2, Operand.tmp 126)], type := 31, pos := "ref.go:111", after := #[{ on := 4, ground := Ground.data }, { on := 5, ground := Ground.data }, { on := 9, ground := Ground.data }], guard := none })) (v := ?_) rfl (by kernel_rfl) (by kernel_rfl) (by kernel_rfl) (fun _ _ _ h => h) (Or.inl ⟨by rfl, ?_⟩) (by assumption) ?_
  rotate_left 1
  · (intro w9 hSw; (try dsimp only at hSw); go_simp; try with_reducible rfl)
  try simp only [Act.put, List.setIfInBounds_toArray, List.set_cons_zero, List.set_cons_succ]
  refine wpAnyH_take (i := 11) (oi := ({ dst := some 128, op := Op.build 87 #[(0, Operand.tmp 117), (1, Operand.tmp 127)], type := 87, pos := "ref.go:111", after := #[{ on := 0, ground := Ground.data }, { on := 10, ground := Ground.data }], guard := none })) (v := ?_) rfl (by kernel_rfl) (by kernel_rfl) (by kernel_rfl) (fun _ _ _ h => h) (Or.inl ⟨by rfl, ?_⟩) (by assumption) ?_
  rotate_left 1
  · (intro w9 hSw; (try dsimp only at hSw); go_simp; try with_reducible rfl)
  try simp only [Act.put, List.setIfInBounds_toArray, List.set_cons_zero, List.set_cons_succ]
  refine wpAnyH_ready (rs := [12]) (by kernel_rfl) (by simp) ?_
  refine AllReadyH.cons (o := ({ dst := none, op := Op.store 87 (Operand.tmp 6) (Operand.tmp 128), type := 0, pos := "ref.go:111", after := #[{ on := 11, ground := Ground.data }, { on := 0, ground := Ground.phase }, { on := 1, ground := Ground.phase }, { on := 2, ground := Ground.phase }, { on := 3, ground := Ground.phase }, { on := 4, ground := Ground.phase }, { on := 5, ground := Ground.phase }, { on := 6, ground := Ground.phase }, { on := 7, ground := Ground.phase }, { on := 8, ground := Ground.phase }, { on := 9, ground := Ground.phase }, { on := 10, ground := Ground.phase }, { on := 11, ground := Ground.phase }], guard := none })) rfl (fun K hK => ?_) AllReadyH.nil
  refine step_store_bk rfl 87 (.tmp 6) (.tmp 128) rfl q6 0 gvnZ (gvnC (Ans.of 10) a n cp FW i false) (gvnC (Ans.of 10) a n cp FW i false) (HG8.out.new hB) (Nat.le_refl 12) rfl info_gvn (gvnC_one _ _ _ _ _ _ _) rfl rfl ?_
  intro W11 h11 k11
  refine hK.out _ _ (KEEP2.out _ ((kq hB).trans k11 (fun j hj s => .inl s))) (fun hHeld => ?_)
  clear hK K
  try simp only [Act.put]
  refine wpAnyH_take (i := 13) (oi := ({ dst := some 7, op := Op.assign (Operand.const (Value.bool true)), type := 4, pos := "ref.go:111", after := #[{ on := 12, ground := Ground.chain }, { on := 0, ground := Ground.phase }, { on := 1, ground := Ground.phase }, { on := 2, ground := Ground.phase }, { on := 3, ground := Ground.phase }, { on := 4, ground := Ground.phase }, { on := 5, ground := Ground.phase }, { on := 6, ground := Ground.phase }, { on := 7, ground := Ground.phase }, { on := 8, ground := Ground.phase }, { on := 9, ground := Ground.phase }, { on := 10, ground := Ground.phase }, { on := 11, ground := Ground.phase }, { on := 12, ground := Ground.phase }], guard := none })) (v := ?_) rfl (by kernel_rfl) (by kernel_rfl) (by kernel_rfl) (fun _ _ _ h => h) (Or.inl ⟨by rfl, ?_⟩) (by assumption) ?_
  rotate_left 1
  · (intro w9 hSw; (try dsimp only at hSw); go_simp; try with_reducible rfl)
  try simp only [Act.put, List.setIfInBounds_toArray, List.set_cons_zero, List.set_cons_succ]
  refine wpAnyH_done (by kernel_rfl) ?_ _
  go_wp2_with fail
  refine bodyPost_ret (results_two rfl _ h11 rfl rfl _ Tryd.underlying87 rfl info_gvn) rfl ⟨a, n, cp, rfl, ((HL.out.new (fr_new HF8.out hB)).base (Nat.zero_le _)).keep k11 (fun g o s e e1 => by have e2 := (HL.out.blk e).2; have e3 := HQ2.out; omega), onA_self _ _, fr_set (fr_new HF8.out hB) k11 HQ2.out.2.1⟩
set_option maxHeartbeats 8000000 in
set_option maxRecDepth 100000 in
theorem rg_flNN (hr : Bk w r (mapR a n cp e i)) (hl : RL w B a n cp L) (hn : n < 1000000) (he : 0 ≤ e ∧ e < 18446744073709551616) (hx : 0 ≤ x ∧ x < 18446744073709551616) (hk : key.size ≤ maxLen) (hv : v = 11) (hfl : flushes x = false) (hcm : comes e x = true) (hlk : mlook L key = none)  : Calls Tryd.prog 37 #[.pointer (some ⟨r, 0, none⟩), .agg (calC (⟨v, key, vl, fl, ex, id, by_⟩ : Cal)).toArray, .int .u64 x] w (rgvP w a (some (Mst.stay ⟨L, e, i⟩ x 5))) := by
  have HR := Lib.hid hr
  have HL := Lib.hid hl
  have HN := Lib.hid hn
  have HE := Lib.hid he
  have HX := Lib.hid hx
  have HK := Lib.hid hk
  have HCM := Lib.hid hcm
  have HLK := Lib.hid hlk
  have HFL := Lib.hid hfl
  clear hr hl hn he hx hk hcm hlk hfl
  subst hv
  go_enter Tryd.func37, Tryd.ntmps37
  go_wp2_with (first
    | ((with_reducible refine at_wq ?_); refine wpList_box_bk rfl 35 (.tmp 1) rfl (calC (⟨11, key, vl, fl, ex, id, by_⟩ : Cal)) rfl ?_; intro W1 q4 h1)
    | ((with_reducible refine at_wq ?_); refine wpList_alloc_bk rfl 87 gvnZ alloc_gvn rfl ?_; intro W2 q6 h2; have HF2 := Lib.hid (fr_new h1.below h2.below); have HC2 := Lib.hid (h1.bk.new h2.below); have HG2 := Lib.hid h2.bk; have HQ2 := Lib.hid (show w.heap.size ≤ q4 ∧ w.heap.size ≤ q6 ∧ q4 ≠ q6 ∧ q4 < W2.heap.size ∧ q6 < W2.heap.size from ⟨by have e1 := h1.eq; omega, h2.at h1.below, by have e1 := h1.bk.lt; have e2 := h2.eq; omega, by have e1 := h1.bk.lt; have e2 := h2.below.size; omega, h2.bk.lt⟩); obtain ⟨y0, y1, y2, y3, y4, y5, y6⟩ := call_cells HC2.out; dsimp only at y0 y1 y2 y3 y4 y5 y6; clear h1 h2)
    | (go_at_call 49; refine (rComesw (HR.out.new HF2.out) x HE.out HX.out).mono ?_; rintro e1 Y ⟨rfl, rfl⟩; rw [HCM.out])
    | (go_at_call 14; refine (rAtw (HR.out.new HF2.out) (HL.out.new HF2.out) key).mono ?_; rintro e1 W3 ⟨rfl, b3⟩; unfold atV; rw [HLK.out]; simp only [Option.getD_none, Option.isSome_none]; have HF3 := Lib.hid (fr_new HF2.out b3); have HC3 := Lib.hid (HC2.out.new b3); have HG3 := Lib.hid (HG2.out.new b3); have HS3 := Lib.hid b3.size; clear b3 y0 y1 y2 y3 y4 y5 y6)
    | ((with_reducible refine at_wq ?_); refine wpList_alloc_bk rfl 38 (itC Itm.none) alloc_it rfl ?_; intro W4 q8 h4)
    | ((with_reducible refine at_wq ?_); refine wpList_store_bk rfl 38 (.tmp 8) (.tmp 35) rfl q8 0 (itC Itm.none) (itC Itm.none) (itC Itm.none) h4.bk (Nat.le_refl 6) rfl info_it (itC_one _) rfl rfl ?_; intro W5 h5 k5; have HQ := Lib.hid (show q8 ≠ q4 ∧ q8 ≠ q6 ∧ w.heap.size ≤ q8 from ⟨by have e1 := h4.eq; have e2 := HQ2.out; have e3 := HS3.out; omega, by have e1 := h4.eq; have e2 := HQ2.out; have e3 := HS3.out; omega, h4.at HF3.out⟩); have HF5 := Lib.hid (fr_set (fr_new HF3.out h4.below) k5 (h4.at HF3.out)); have HC5 := Lib.hid ((HC3.out.new h4.below).keep k5 (fun e => HQ.out.1 e.symm)); have HG5 := Lib.hid ((HG3.out.new h4.below).keep k5 (fun e => HQ.out.2.1 e.symm)); have HI5 := Lib.hid h5; obtain ⟨a0, a1, a2, a3, a4, a5⟩ := it_cells h5; clear h4 h5 k5))
  have HRV := Lib.hid (HR.out.new HF5.out)
  have hB : Below W5.heap.size W5 W5.drew := (Below.refl _ _).drew
  have hB0 := hB
  have KEEP : Hid (∀ X, Below W5.heap.size W5 X → X.cell? ⟨r, 0, none⟩ = some (.slice a n cp) ∧ X.cell? ⟨r, 2, none⟩ = some (.int .u64 i)) := Lib.hid fun X hb => by
    obtain ⟨m0, m1, m2⟩ := map_cells (HRV.out.new hb)
    exact ⟨m0, m2⟩
  refine wp_region_held_drew (S := fun X => X.cell? ⟨r, 0, none⟩ = some (.slice a n cp) ∧ X.cell? ⟨r, 2, none⟩ = some (.int .u64 i)) (by kernel_rfl) (KEEP.out _ hB) (fun hHeld => ?_)
  refine wpAnyH_take (i := 0) (oi := ({ dst := some 43, op := Op.move (Operand.tmp 0), type := 27, pos := "ref.go:83", after := #[], guard := none })) (v := ?_) rfl (by kernel_rfl) (by kernel_rfl) (by kernel_rfl) (fun _ _ _ h => h) (Or.inl ⟨by rfl, ?_⟩) (by assumption) ?_
  rotate_left 1
  · (intro w9 hSw; (try dsimp only at hSw); go_simp; try with_reducible rfl)
  try simp only [Act.put, List.setIfInBounds_toArray, List.set_cons_zero, List.set_cons_succ]
  refine wpAnyH_take (i := 1) (oi := ({ dst := some 44, op := Op.nilCheck (Operand.tmp 43), type := 0, pos := "ref.go:83", after := #[{ on := 0, ground := Ground.data }], guard := none })) (v := ?_) rfl (by kernel_rfl) (by kernel_rfl) (by kernel_rfl) (fun _ _ _ h => h) (Or.inl ⟨by rfl, ?_⟩) (by assumption) ?_
  rotate_left 1
  · (intro w9 hSw; (try dsimp only at hSw); go_simp; try with_reducible rfl)
  try simp only [Act.put, List.setIfInBounds_toArray, List.set_cons_zero, List.set_cons_succ]
  refine wpAnyH_take (i := 2) (oi := ({ dst := some 45, op := Op.fieldAddr 31 (Operand.tmp 44) 0, type := 0, pos := "ref.go:83", after := #[{ on := 1, ground := Ground.data }], guard := none })) (v := ?_) rfl (by kernel_rfl) (by kernel_rfl) (by kernel_rfl) (fun _ _ _ h => h) (Or.inl ⟨by rfl, ?_⟩) (by assumption) ?_
  rotate_left 1
  · (intro w9 hSw; (try dsimp only at hSw); go_simp; try with_reducible rfl)
  try simp only [Act.put, List.setIfInBounds_toArray, List.set_cons_zero, List.set_cons_succ]
  refine wpAnyH_take (i := 3) (oi := ({ dst := some 46, op := Op.load 28 (Operand.tmp 45), type := 28, pos := "ref.go:83", after := #[{ on := 2, ground := Ground.data }], guard := none })) (v := ?_) rfl (by kernel_rfl) (by kernel_rfl) (by kernel_rfl) (fun _ _ _ h => h) (Or.inl ⟨by rfl, ?_⟩) (by assumption) ?_
  rotate_left 1
  · (intro w9 hSw; (try dsimp only at hSw); go_simp; try with_reducible rfl)
  try simp only [Act.put, List.setIfInBounds_toArray, List.set_cons_zero, List.set_cons_succ]
  refine wpAnyH_take (i := 4) (oi := ({ dst := some 47, op := Op.move (Operand.tmp 2), type := 29, pos := "ref.go:83", after := #[], guard := none })) (v := ?_) rfl (by kernel_rfl) (by kernel_rfl) (by kernel_rfl) (fun _ _ _ h => h) (Or.inl ⟨by rfl, ?_⟩) (by assumption) ?_
  rotate_left 1
  · (intro w9 hSw; (try dsimp only at hSw); go_simp; try with_reducible rfl)
  try simp only [Act.put, List.setIfInBounds_toArray, List.set_cons_zero, List.set_cons_succ]
  refine wpAnyH_take (i := 5) (oi := ({ dst := some 48, op := Op.move (Operand.tmp 0), type := 27, pos := "ref.go:83", after := #[], guard := none })) (v := ?_) rfl (by kernel_rfl) (by kernel_rfl) (by kernel_rfl) (fun _ _ _ h => h) (Or.inl ⟨by rfl, ?_⟩) (by assumption) ?_
  rotate_left 1
  · (intro w9 hSw; (try dsimp only at hSw); go_simp; try with_reducible rfl)
  try simp only [Act.put, List.setIfInBounds_toArray, List.set_cons_zero, List.set_cons_succ]
  refine wpAnyH_take (i := 6) (oi := ({ dst := some 49, op := Op.nilCheck (Operand.tmp 48), type := 0, pos := "ref.go:83", after := #[{ on := 5, ground := Ground.data }], guard := none })) (v := ?_) rfl (by kernel_rfl) (by kernel_rfl) (by kernel_rfl) (fun _ _ _ h => h) (Or.inl ⟨by rfl, ?_⟩) (by assumption) ?_
  rotate_left 1
  · (intro w9 hSw; (try dsimp only at hSw); go_simp; try with_reducible rfl)
  try simp only [Act.put, List.setIfInBounds_toArray, List.set_cons_zero, List.set_cons_succ]
  refine wpAnyH_take (i := 7) (oi := ({ dst := some 50, op := Op.fieldAddr 31 (Operand.tmp 49) 2, type := 0, pos := "ref.go:83", after := #[{ on := 6, ground := Ground.data }], guard := none })) (v := ?_) rfl (by kernel_rfl) (by kernel_rfl) (by kernel_rfl) (fun _ _ _ h => h) (Or.inl ⟨by rfl, ?_⟩) (by assumption) ?_
  rotate_left 1
  · (intro w9 hSw; (try dsimp only at hSw); go_simp; try with_reducible rfl)
  try simp only [Act.put, List.setIfInBounds_toArray, List.set_cons_zero, List.set_cons_succ]
  refine wpAnyH_take (i := 8) (oi := ({ dst := some 51, op := Op.load 29 (Operand.tmp 50), type := 29, pos := "ref.go:83", after := #[{ on := 7, ground := Ground.data }], guard := none })) (v := ?_) rfl (by kernel_rfl) (by kernel_rfl) (by kernel_rfl) (fun _ _ _ h => h) (Or.inl ⟨by rfl, ?_⟩) (by assumption) ?_
  rotate_left 1
  · (intro w9 hSw; (try dsimp only at hSw); go_simp; try with_reducible rfl)
  try simp only [Act.put, List.setIfInBounds_toArray, List.set_cons_zero, List.set_cons_succ]
  refine wpAnyH_take (i := 9) (oi := ({ dst := some 52, op := Op.build 31 #[(0, Operand.tmp 46), (1, Operand.tmp 47), (2, Operand.tmp 51)], type := 31, pos := "ref.go:83", after := #[{ on := 3, ground := Ground.data }, { on := 4, ground := Ground.data }, { on := 8, ground := Ground.data }], guard := none })) (v := ?_) rfl (by kernel_rfl) (by kernel_rfl) (by kernel_rfl) (fun _ _ _ h => h) (Or.inl ⟨by rfl, ?_⟩) (by assumption) ?_
  rotate_left 1
  · (intro w9 hSw; (try dsimp only at hSw); go_simp; try with_reducible rfl)
  try simp only [Act.put, List.setIfInBounds_toArray, List.set_cons_zero, List.set_cons_succ]
  refine wpAnyH_ready (rs := [10]) (by kernel_rfl) (by simp) ?_
  refine AllReadyH.cons (o := ({ dst := some 11, op := Op.alloc 31, type := 0, pos := "ref.go:83", after := #[], guard := none })) rfl (fun K hK => ?_) AllReadyH.nil
  refine step_alloc_bk rfl 31 (mapR none 0 0 0 0) alloc_rm rfl ?_
  intro W7 q11 h7
  replace hB := fr_new hB h7.below
  refine hK.out _ _ (KEEP.out _ hB) (fun hHeld => ?_)
  clear hK K
  try simp only [Act.put, List.setIfInBounds_toArray, List.set_cons_zero, List.set_cons_succ]
  refine wpAnyH_ready (rs := [11]) (by kernel_rfl) (by simp) ?_
  refine AllReadyH.cons (o := ({ dst := none, op := Op.store 31 (Operand.tmp 11) (Operand.tmp 52), type := 0, pos := "ref.go:83", after := #[{ on := 10, ground := Ground.data }, { on := 9, ground := Ground.data }, { on := 0, ground := Ground.phase }, { on := 1, ground := Ground.phase }, { on := 2, ground := Ground.phase }, { on := 3, ground := Ground.phase }, { on := 4, ground := Ground.phase }, { on := 5, ground := Ground.phase }, { on := 6, ground := Ground.phase }, { on := 7, ground := Ground.phase }, { on := 8, ground := Ground.phase }, { on := 9, ground := Ground.phase }, { on := 10, ground := Ground.phase }], guard := none })) rfl (fun K hK => ?_) AllReadyH.nil
  refine step_store_bk rfl 31 (.tmp 11) (.tmp 52) rfl q11 0 (mapR none 0 0 0 0) (mapR a n cp x i) (mapR a n cp x i) h7.bk (Nat.le_refl 3) rfl info_rm (mapR_one _ _ _ _ _) rfl rfl ?_
  intro W8 h8 k8
  replace hB := fr_set hB k8 (h7.at hB0)
  refine hK.out _ _ (KEEP.out _ hB) (fun hHeld => ?_)
  clear hK K
  try simp only [Act.put]
  refine wpAnyH_done (by kernel_rfl) ?_ _
  have HF8 := Lib.hid (fr_new HF5.out hB)
  have HC8 := Lib.hid (HC5.out.new hB)
  have HG8 := Lib.hid (HG5.out.new hB)
  have HI8 := Lib.hid (HI5.out.new hB)
  have HR8 := Lib.hid (HR.out.new HF8.out)
  have HL8 := Lib.hid (HL.out.new HF8.out)
  obtain ⟨y0, y1, y2, y3, y4, y5, y6⟩ := call_cells HC8.out; dsimp only at y0 y1 y2 y3 y4 y5 y6
  obtain ⟨a0, a1, a2, a3, a4, a5⟩ := it_cells HI8.out
  obtain ⟨m0, m1, m2⟩ := map_cells h8
  clear hB hB0 h7 h8 k8 hHeld
  have HS8 := Lib.hid (show q6 < W8.heap.size from HG8.out.lt)
  go_wp2_with (first
    | (go_at_call 53; refine (rflush x ex _ HX.out.1 HX.out.2).mono ?_; rintro e1 Y ⟨rfl, rfl⟩; rw [HFL.out])
    | (go_at_call 52; refine (rsaysw 5 a n cp x i _).mono ?_; rintro e1 W9 ⟨rfl, b9⟩; clear y0 y1 y2 y3 y4 y5 y6 a0 a1 a2 a3 a4 a5 m0 m1 m2)
    | ((with_reducible refine at_wq ?_); refine wpList_store_bk rfl 87 (.tmp 6) (.tmp 115) rfl q6 0 gvnZ (gvnC (Ans.of 5) a n cp x i false) (gvnC (Ans.of 5) a n cp x i false) (HG8.out.new b9) (Nat.le_refl 12) rfl info_gvn (gvnC_one _ _ _ _ _ _ _) rfl rfl ?_; intro W11 h11 k11))
  refine bodyPost_ret (results_two rfl _ h11 rfl rfl _ Tryd.underlying87 rfl info_gvn) rfl ⟨a, n, cp, rfl, ((HL.out.new (fr_new HF8.out b9)).base (Nat.zero_le _)).keep k11 (fun g o s e e1 => by have e2 := (HL.out.blk e).2; have e3 := HQ2.out; omega), onA_self _ _, fr_set (fr_new HF8.out b9) k11 HQ2.out.2.1⟩
set_option maxHeartbeats 8000000 in
set_option maxRecDepth 100000 in
theorem rg_flYD (hr : Bk w r (mapR a n cp e i)) (hl : RL w B a n cp L) (hn : n < 1000000) (he : 0 ≤ e ∧ e < 18446744073709551616) (hx : 0 ≤ x ∧ x < 18446744073709551616) (hk : key.size ≤ maxLen) (hv : v = 11) (hfl : flushes x = true) (hcm : comes e x = true) (hlk : mlook L key = some y) (hal : alivef y.gen y.dies x = false)  : Calls Tryd.prog 37 #[.pointer (some ⟨r, 0, none⟩), .agg (calC (⟨v, key, vl, fl, ex, id, by_⟩ : Cal)).toArray, .int .u64 x] w (rgvP w a (some ⟨Ans.of 10, ⟨L, flushf x ex, i⟩, false⟩)) := by
  have HR := Lib.hid hr
  have HL := Lib.hid hl
  have HN := Lib.hid hn
  have HE := Lib.hid he
  have HX := Lib.hid hx
  have HK := Lib.hid hk
  have HCM := Lib.hid hcm
  have HLK := Lib.hid hlk
  have HAL := Lib.hid hal
  have HFL := Lib.hid hfl
  obtain ⟨FW, hfw⟩ : ∃ f, flushf x ex = f := ⟨_, rfl⟩
  rw [hfw]
  have HFW := Lib.hid hfw
  clear hr hl hn he hx hk hcm hlk hal hfl hfw
  subst hv
  go_enter Tryd.func37, Tryd.ntmps37
  go_wp2_with (first
    | ((with_reducible refine at_wq ?_); refine wpList_box_bk rfl 35 (.tmp 1) rfl (calC (⟨11, key, vl, fl, ex, id, by_⟩ : Cal)) rfl ?_; intro W1 q4 h1)
    | ((with_reducible refine at_wq ?_); refine wpList_alloc_bk rfl 87 gvnZ alloc_gvn rfl ?_; intro W2 q6 h2; have HF2 := Lib.hid (fr_new h1.below h2.below); have HC2 := Lib.hid (h1.bk.new h2.below); have HG2 := Lib.hid h2.bk; have HQ2 := Lib.hid (show w.heap.size ≤ q4 ∧ w.heap.size ≤ q6 ∧ q4 ≠ q6 ∧ q4 < W2.heap.size ∧ q6 < W2.heap.size from ⟨by have e1 := h1.eq; omega, h2.at h1.below, by have e1 := h1.bk.lt; have e2 := h2.eq; omega, by have e1 := h1.bk.lt; have e2 := h2.below.size; omega, h2.bk.lt⟩); obtain ⟨y0, y1, y2, y3, y4, y5, y6⟩ := call_cells HC2.out; dsimp only at y0 y1 y2 y3 y4 y5 y6; clear h1 h2)
    | (go_at_call 49; refine (rComesw (HR.out.new HF2.out) x HE.out HX.out).mono ?_; rintro e1 Y ⟨rfl, rfl⟩; rw [HCM.out])
    | (go_at_call 14; refine (rAtw (HR.out.new HF2.out) (HL.out.new HF2.out) key).mono ?_; rintro e1 W3 ⟨rfl, b3⟩; unfold atV; rw [HLK.out]; simp only [Option.getD_some, Option.isSome_some]; have HF3 := Lib.hid (fr_new HF2.out b3); have HC3 := Lib.hid (HC2.out.new b3); have HG3 := Lib.hid (HG2.out.new b3); have HS3 := Lib.hid b3.size; clear b3 y0 y1 y2 y3 y4 y5 y6)
    | ((with_reducible refine at_wq ?_); refine wpList_alloc_bk rfl 38 (itC Itm.none) alloc_it rfl ?_; intro W4 q8 h4)
    | ((with_reducible refine at_wq ?_); refine wpList_store_bk rfl 38 (.tmp 8) (.tmp 35) rfl q8 0 (itC Itm.none) (itC y) (itC y) h4.bk (Nat.le_refl 6) rfl info_it (itC_one _) rfl rfl ?_; intro W5 h5 k5; have HQ := Lib.hid (show q8 ≠ q4 ∧ q8 ≠ q6 ∧ w.heap.size ≤ q8 from ⟨by have e1 := h4.eq; have e2 := HQ2.out; have e3 := HS3.out; omega, by have e1 := h4.eq; have e2 := HQ2.out; have e3 := HS3.out; omega, h4.at HF3.out⟩); have HF5 := Lib.hid (fr_set (fr_new HF3.out h4.below) k5 (h4.at HF3.out)); have HC5 := Lib.hid ((HC3.out.new h4.below).keep k5 (fun e => HQ.out.1 e.symm)); have HG5 := Lib.hid ((HG3.out.new h4.below).keep k5 (fun e => HQ.out.2.1 e.symm)); have HI5 := Lib.hid h5; obtain ⟨a0, a1, a2, a3, a4, a5⟩ := it_cells h5; clear h4 h5 k5)
    | (go_at_call 51; refine (ralive _ _ _ _ _ _ x _ HX.out.1 HX.out.2).mono ?_; rintro e1 W6 ⟨rfl, b6⟩; rw [HAL.out]; have HF6 := Lib.hid (fr_new HF5.out b6); have HC6 := Lib.hid (HC5.out.new b6); have HG6 := Lib.hid (HG5.out.new b6); have HI6 := Lib.hid (HI5.out.new b6); clear b6 a0 a1 a2 a3 a4 a5))
  have HRV := Lib.hid (HR.out.new HF6.out)
  have hB : Below W6.heap.size W6 W6.drew := (Below.refl _ _).drew
  have hB0 := hB
  have KEEP : Hid (∀ X, Below W6.heap.size W6 X → X.cell? ⟨r, 0, none⟩ = some (.slice a n cp) ∧ X.cell? ⟨r, 2, none⟩ = some (.int .u64 i)) := Lib.hid fun X hb => by
    obtain ⟨m0, m1, m2⟩ := map_cells (HRV.out.new hb)
    exact ⟨m0, m2⟩
  refine wp_region_held_drew (S := fun X => X.cell? ⟨r, 0, none⟩ = some (.slice a n cp) ∧ X.cell? ⟨r, 2, none⟩ = some (.int .u64 i)) (by kernel_rfl) (KEEP.out _ hB) (fun hHeld => ?_)
  refine wpAnyH_take (i := 0) (oi := ({ dst := some 43, op := Op.move (Operand.tmp 0), type := 27, pos := "ref.go:83", after := #[], guard := none })) (v := ?_) rfl (by kernel_rfl) (by kernel_rfl) (by kernel_rfl) (fun _ _ _ h => h) (Or.inl ⟨by rfl, ?_⟩) (by assumption) ?_
  rotate_left 1
  · (intro w9 hSw; (try dsimp only at hSw); go_simp; try with_reducible rfl)
  try simp only [Act.put, List.setIfInBounds_toArray, List.set_cons_zero, List.set_cons_succ]
  refine wpAnyH_take (i := 1) (oi := ({ dst := some 44, op := Op.nilCheck (Operand.tmp 43), type := 0, pos := "ref.go:83", after := #[{ on := 0, ground := Ground.data }], guard := none })) (v := ?_) rfl (by kernel_rfl) (by kernel_rfl) (by kernel_rfl) (fun _ _ _ h => h) (Or.inl ⟨by rfl, ?_⟩) (by assumption) ?_
  rotate_left 1
  · (intro w9 hSw; (try dsimp only at hSw); go_simp; try with_reducible rfl)
  try simp only [Act.put, List.setIfInBounds_toArray, List.set_cons_zero, List.set_cons_succ]
  refine wpAnyH_take (i := 2) (oi := ({ dst := some 45, op := Op.fieldAddr 31 (Operand.tmp 44) 0, type := 0, pos := "ref.go:83", after := #[{ on := 1, ground := Ground.data }], guard := none })) (v := ?_) rfl (by kernel_rfl) (by kernel_rfl) (by kernel_rfl) (fun _ _ _ h => h) (Or.inl ⟨by rfl, ?_⟩) (by assumption) ?_
  rotate_left 1
  · (intro w9 hSw; (try dsimp only at hSw); go_simp; try with_reducible rfl)
  try simp only [Act.put, List.setIfInBounds_toArray, List.set_cons_zero, List.set_cons_succ]
  refine wpAnyH_take (i := 3) (oi := ({ dst := some 46, op := Op.load 28 (Operand.tmp 45), type := 28, pos := "ref.go:83", after := #[{ on := 2, ground := Ground.data }], guard := none })) (v := ?_) rfl (by kernel_rfl) (by kernel_rfl) (by kernel_rfl) (fun _ _ _ h => h) (Or.inl ⟨by rfl, ?_⟩) (by assumption) ?_
  rotate_left 1
  · (intro w9 hSw; (try dsimp only at hSw); go_simp; try with_reducible rfl)
  try simp only [Act.put, List.setIfInBounds_toArray, List.set_cons_zero, List.set_cons_succ]
  refine wpAnyH_take (i := 4) (oi := ({ dst := some 47, op := Op.move (Operand.tmp 2), type := 29, pos := "ref.go:83", after := #[], guard := none })) (v := ?_) rfl (by kernel_rfl) (by kernel_rfl) (by kernel_rfl) (fun _ _ _ h => h) (Or.inl ⟨by rfl, ?_⟩) (by assumption) ?_
  rotate_left 1
  · (intro w9 hSw; (try dsimp only at hSw); go_simp; try with_reducible rfl)
  try simp only [Act.put, List.setIfInBounds_toArray, List.set_cons_zero, List.set_cons_succ]
  refine wpAnyH_take (i := 5) (oi := ({ dst := some 48, op := Op.move (Operand.tmp 0), type := 27, pos := "ref.go:83", after := #[], guard := none })) (v := ?_) rfl (by kernel_rfl) (by kernel_rfl) (by kernel_rfl) (fun _ _ _ h => h) (Or.inl ⟨by rfl, ?_⟩) (by assumption) ?_
  rotate_left 1
  · (intro w9 hSw; (try dsimp only at hSw); go_simp; try with_reducible rfl)
  try simp only [Act.put, List.setIfInBounds_toArray, List.set_cons_zero, List.set_cons_succ]
  refine wpAnyH_take (i := 6) (oi := ({ dst := some 49, op := Op.nilCheck (Operand.tmp 48), type := 0, pos := "ref.go:83", after := #[{ on := 5, ground := Ground.data }], guard := none })) (v := ?_) rfl (by kernel_rfl) (by kernel_rfl) (by kernel_rfl) (fun _ _ _ h => h) (Or.inl ⟨by rfl, ?_⟩) (by assumption) ?_
  rotate_left 1
  · (intro w9 hSw; (try dsimp only at hSw); go_simp; try with_reducible rfl)
  try simp only [Act.put, List.setIfInBounds_toArray, List.set_cons_zero, List.set_cons_succ]
  refine wpAnyH_take (i := 7) (oi := ({ dst := some 50, op := Op.fieldAddr 31 (Operand.tmp 49) 2, type := 0, pos := "ref.go:83", after := #[{ on := 6, ground := Ground.data }], guard := none })) (v := ?_) rfl (by kernel_rfl) (by kernel_rfl) (by kernel_rfl) (fun _ _ _ h => h) (Or.inl ⟨by rfl, ?_⟩) (by assumption) ?_
  rotate_left 1
  · (intro w9 hSw; (try dsimp only at hSw); go_simp; try with_reducible rfl)
  try simp only [Act.put, List.setIfInBounds_toArray, List.set_cons_zero, List.set_cons_succ]
  refine wpAnyH_take (i := 8) (oi := ({ dst := some 51, op := Op.load 29 (Operand.tmp 50), type := 29, pos := "ref.go:83", after := #[{ on := 7, ground := Ground.data }], guard := none })) (v := ?_) rfl (by kernel_rfl) (by kernel_rfl) (by kernel_rfl) (fun _ _ _ h => h) (Or.inl ⟨by rfl, ?_⟩) (by assumption) ?_
  rotate_left 1
  · (intro w9 hSw; (try dsimp only at hSw); go_simp; try with_reducible rfl)
  try simp only [Act.put, List.setIfInBounds_toArray, List.set_cons_zero, List.set_cons_succ]
  refine wpAnyH_take (i := 9) (oi := ({ dst := some 52, op := Op.build 31 #[(0, Operand.tmp 46), (1, Operand.tmp 47), (2, Operand.tmp 51)], type := 31, pos := "ref.go:83", after := #[{ on := 3, ground := Ground.data }, { on := 4, ground := Ground.data }, { on := 8, ground := Ground.data }], guard := none })) (v := ?_) rfl (by kernel_rfl) (by kernel_rfl) (by kernel_rfl) (fun _ _ _ h => h) (Or.inl ⟨by rfl, ?_⟩) (by assumption) ?_
  rotate_left 1
  · (intro w9 hSw; (try dsimp only at hSw); go_simp; try with_reducible rfl)
  try simp only [Act.put, List.setIfInBounds_toArray, List.set_cons_zero, List.set_cons_succ]
  refine wpAnyH_ready (rs := [10]) (by kernel_rfl) (by simp) ?_
  refine AllReadyH.cons (o := ({ dst := some 11, op := Op.alloc 31, type := 0, pos := "ref.go:83", after := #[], guard := none })) rfl (fun K hK => ?_) AllReadyH.nil
  refine step_alloc_bk rfl 31 (mapR none 0 0 0 0) alloc_rm rfl ?_
  intro W7 q11 h7
  replace hB := fr_new hB h7.below
  refine hK.out _ _ (KEEP.out _ hB) (fun hHeld => ?_)
  clear hK K
  try simp only [Act.put, List.setIfInBounds_toArray, List.set_cons_zero, List.set_cons_succ]
  refine wpAnyH_ready (rs := [11]) (by kernel_rfl) (by simp) ?_
  refine AllReadyH.cons (o := ({ dst := none, op := Op.store 31 (Operand.tmp 11) (Operand.tmp 52), type := 0, pos := "ref.go:83", after := #[{ on := 10, ground := Ground.data }, { on := 9, ground := Ground.data }, { on := 0, ground := Ground.phase }, { on := 1, ground := Ground.phase }, { on := 2, ground := Ground.phase }, { on := 3, ground := Ground.phase }, { on := 4, ground := Ground.phase }, { on := 5, ground := Ground.phase }, { on := 6, ground := Ground.phase }, { on := 7, ground := Ground.phase }, { on := 8, ground := Ground.phase }, { on := 9, ground := Ground.phase }, { on := 10, ground := Ground.phase }], guard := none })) rfl (fun K hK => ?_) AllReadyH.nil
  refine step_store_bk rfl 31 (.tmp 11) (.tmp 52) rfl q11 0 (mapR none 0 0 0 0) (mapR a n cp x i) (mapR a n cp x i) h7.bk (Nat.le_refl 3) rfl info_rm (mapR_one _ _ _ _ _) rfl rfl ?_
  intro W8 h8 k8
  replace hB := fr_set hB k8 (h7.at hB0)
  refine hK.out _ _ (KEEP.out _ hB) (fun hHeld => ?_)
  clear hK K
  try simp only [Act.put]
  refine wpAnyH_done (by kernel_rfl) ?_ _
  have HF8 := Lib.hid (fr_new HF6.out hB)
  have HC8 := Lib.hid (HC6.out.new hB)
  have HG8 := Lib.hid (HG6.out.new hB)
  have HI8 := Lib.hid (HI6.out.new hB)
  have HR8 := Lib.hid (HR.out.new HF8.out)
  have HL8 := Lib.hid (HL.out.new HF8.out)
  obtain ⟨y0, y1, y2, y3, y4, y5, y6⟩ := call_cells HC8.out; dsimp only at y0 y1 y2 y3 y4 y5 y6
  obtain ⟨a0, a1, a2, a3, a4, a5⟩ := it_cells HI8.out
  obtain ⟨m0, m1, m2⟩ := map_cells h8
  clear hB hB0 h7 h8 k8 hHeld
  have HS8 := Lib.hid (show q6 < W8.heap.size from HG8.out.lt)
  go_wp2_with (first
    | (go_at_call 53; refine (rflush x ex _ HX.out.1 HX.out.2).mono ?_; rintro e1 Y ⟨rfl, rfl⟩; rw [HFL.out, HFW.out]))
  have hB : Below W8.heap.size W8 W8.drew := (Below.refl _ _).drew
  have KEEP2 : Hid (∀ X, Keeps (fun k => k = q6 ∨ W8.heap.size ≤ k) W8 X → X.cell? ⟨r, 0, none⟩ = some (.slice a n cp) ∧ X.cell? ⟨r, 2, none⟩ = some (.int .u64 i)) := Lib.hid fun X hb => by
    obtain ⟨m0, m1, m2⟩ := map_cells (HR8.out.keep hb (by have e1 := HQ2.out; have e2 := HR8.out.lt; have e3 := HR.out.lt; omega))
    exact ⟨m0, m2⟩
  clear y0 y1 y2 y3 y4 y5 y6 a0 a1 a2 a3 a4 a5 m0 m1 m2
  refine wp_region_held_drew (S := fun X => X.cell? ⟨r, 0, none⟩ = some (.slice a n cp) ∧ X.cell? ⟨r, 2, none⟩ = some (.int .u64 i)) (by kernel_rfl) (KEEP2.out _ (kq hB)) (fun hHeld => ?_)
  refine wpAnyH_take (i := 0) (oi := ({ dst := some 117, op := Op.build 40 #[(0, Operand.const (Value.int IntKind.u8 10))], type := 40, pos := "ref.go:111", after := #[], guard := none })) (v := ?_) rfl (by kernel_rfl) (by kernel_rfl) (by kernel_rfl) (fun _ _ _ h => h) (Or.inl ⟨by rfl, ?_⟩) (by assumption) ?_
  rotate_left 1
  · (intro w9 hSw; (try dsimp only at hSw); go_simp; try with_reducible rfl)
  try simp only [Act.put, List.setIfInBounds_toArray, List.set_cons_zero, List.set_cons_succ]
  refine wpAnyH_take (i := 1) (oi := ({ dst := some 118, op := Op.move (Operand.tmp 0), type := 27, pos := "ref.go:111", after := #[], guard := none })) (v := ?_) rfl (by kernel_rfl) (by kernel_rfl) (by kernel_rfl) (fun _ _ _ h => h) (Or.inl ⟨by rfl, ?_⟩) (by assumption) ?_
  rotate_left 1
  · (intro w9 hSw; (try dsimp only at hSw); go_simp; try with_reducible rfl)
  try simp only [Act.put, List.setIfInBounds_toArray, List.set_cons_zero, List.set_cons_succ]
  refine wpAnyH_take (i := 2) (oi := ({ dst := some 119, op := Op.nilCheck (Operand.tmp 118), type := 0, pos := "ref.go:111", after := #[{ on := 1, ground := Ground.data }], guard := none })) (v := ?_) rfl (by kernel_rfl) (by kernel_rfl) (by kernel_rfl) (fun _ _ _ h => h) (Or.inl ⟨by rfl, ?_⟩) (by assumption) ?_
  rotate_left 1
  · (intro w9 hSw; (try dsimp only at hSw); go_simp; try with_reducible rfl)
  try simp only [Act.put, List.setIfInBounds_toArray, List.set_cons_zero, List.set_cons_succ]
  refine wpAnyH_take (i := 3) (oi := ({ dst := some 120, op := Op.fieldAddr 31 (Operand.tmp 119) 0, type := 0, pos := "ref.go:111", after := #[{ on := 2, ground := Ground.data }], guard := none })) (v := ?_) rfl (by kernel_rfl) (by kernel_rfl) (by kernel_rfl) (fun _ _ _ h => h) (Or.inl ⟨by rfl, ?_⟩) (by assumption) ?_
  rotate_left 1
  · (intro w9 hSw; (try dsimp only at hSw); go_simp; try with_reducible rfl)
  try simp only [Act.put, List.setIfInBounds_toArray, List.set_cons_zero, List.set_cons_succ]
  refine wpAnyH_take (i := 4) (oi := ({ dst := some 121, op := Op.load 28 (Operand.tmp 120), type := 28, pos := "ref.go:111", after := #[{ on := 3, ground := Ground.data }], guard := none })) (v := ?_) rfl (by kernel_rfl) (by kernel_rfl) (by kernel_rfl) (fun _ _ _ h => h) (Or.inl ⟨by rfl, ?_⟩) (by assumption) ?_
  rotate_left 1
  · (intro w9 hSw; (try dsimp only at hSw); go_simp; try with_reducible rfl)
  try simp only [Act.put, List.setIfInBounds_toArray, List.set_cons_zero, List.set_cons_succ]
  refine wpAnyH_take (i := 5) (oi := ({ dst := some 122, op := Op.move (Operand.tmp 12), type := 29, pos := "ref.go:111", after := #[], guard := none })) (v := ?_) rfl (by kernel_rfl) (by kernel_rfl) (by kernel_rfl) (fun _ _ _ h => h) (Or.inl ⟨by rfl, ?_⟩) (by assumption) ?_
  rotate_left 1
  · (intro w9 hSw; (try dsimp only at hSw); go_simp; try with_reducible rfl)
  try simp only [Act.put, List.setIfInBounds_toArray, List.set_cons_zero, List.set_cons_succ]
  refine wpAnyH_take (i := 6) (oi := ({ dst := some 123, op := Op.move (Operand.tmp 0), type := 27, pos := "ref.go:111", after := #[], guard := none })) (v := ?_) rfl (by kernel_rfl) (by kernel_rfl) (by kernel_rfl) (fun _ _ _ h => h) (Or.inl ⟨by rfl, ?_⟩) (by assumption) ?_
  rotate_left 1
  · (intro w9 hSw; (try dsimp only at hSw); go_simp; try with_reducible rfl)
  try simp only [Act.put, List.setIfInBounds_toArray, List.set_cons_zero, List.set_cons_succ]
  refine wpAnyH_take (i := 7) (oi := ({ dst := some 124, op := Op.nilCheck (Operand.tmp 123), type := 0, pos := "ref.go:111", after := #[{ on := 6, ground := Ground.data }], guard := none })) (v := ?_) rfl (by kernel_rfl) (by kernel_rfl) (by kernel_rfl) (fun _ _ _ h => h) (Or.inl ⟨by rfl, ?_⟩) (by assumption) ?_
  rotate_left 1
  · (intro w9 hSw; (try dsimp only at hSw); go_simp; try with_reducible rfl)
  try simp only [Act.put, List.setIfInBounds_toArray, List.set_cons_zero, List.set_cons_succ]
  refine wpAnyH_take (i := 8) (oi := ({ dst := some 125, op := Op.fieldAddr 31 (Operand.tmp 124) 2, type := 0, pos := "ref.go:111", after := #[{ on := 7, ground := Ground.data }], guard := none })) (v := ?_) rfl (by kernel_rfl) (by kernel_rfl) (by kernel_rfl) (fun _ _ _ h => h) (Or.inl ⟨by rfl, ?_⟩) (by assumption) ?_
  rotate_left 1
  · (intro w9 hSw; (try dsimp only at hSw); go_simp; try with_reducible rfl)
  try simp only [Act.put, List.setIfInBounds_toArray, List.set_cons_zero, List.set_cons_succ]
  refine wpAnyH_take (i := 9) (oi := ({ dst := some 126, op := Op.load 29 (Operand.tmp 125), type := 29, pos := "ref.go:111", after := #[{ on := 8, ground := Ground.data }], guard := none })) (v := ?_) rfl (by kernel_rfl) (by kernel_rfl) (by kernel_rfl) (fun _ _ _ h => h) (Or.inl ⟨by rfl, ?_⟩) (by assumption) ?_
  rotate_left 1
  · (intro w9 hSw; (try dsimp only at hSw); go_simp; try with_reducible rfl)
  try simp only [Act.put, List.setIfInBounds_toArray, List.set_cons_zero, List.set_cons_succ]
  refine wpAnyH_take (i := 10) (oi := ({ dst := some 127, op := Op.build 31 #[(0, Operand.tmp 121), (1, Operand.tmp 122), (2, Operand.tmp 126)], type := 31, pos := "ref.go:111", after := #[{ on := 4, ground := Ground.data }, { on := 5, ground := Ground.data }, { on := 9, ground := Ground.data }], guard := none })) (v := ?_) rfl (by kernel_rfl) (by kernel_rfl) (by kernel_rfl) (fun _ _ _ h => h) (Or.inl ⟨by rfl, ?_⟩) (by assumption) ?_
  rotate_left 1
  · (intro w9 hSw; (try dsimp only at hSw); go_simp; try with_reducible rfl)
  try simp only [Act.put, List.setIfInBounds_toArray, List.set_cons_zero, List.set_cons_succ]
  refine wpAnyH_take (i := 11) (oi := ({ dst := some 128, op := Op.build 87 #[(0, Operand.tmp 117), (1, Operand.tmp 127)], type := 87, pos := "ref.go:111", after := #[{ on := 0, ground := Ground.data }, { on := 10, ground := Ground.data }], guard := none })) (v := ?_) rfl (by kernel_rfl) (by kernel_rfl) (by kernel_rfl) (fun _ _ _ h => h) (Or.inl ⟨by rfl, ?_⟩) (by assumption) ?_
  rotate_left 1
  · (intro w9 hSw; (try dsimp only at hSw); go_simp; try with_reducible rfl)
  try simp only [Act.put, List.setIfInBounds_toArray, List.set_cons_zero, List.set_cons_succ]
  refine wpAnyH_ready (rs := [12]) (by kernel_rfl) (by simp) ?_
  refine AllReadyH.cons (o := ({ dst := none, op := Op.store 87 (Operand.tmp 6) (Operand.tmp 128), type := 0, pos := "ref.go:111", after := #[{ on := 11, ground := Ground.data }, { on := 0, ground := Ground.phase }, { on := 1, ground := Ground.phase }, { on := 2, ground := Ground.phase }, { on := 3, ground := Ground.phase }, { on := 4, ground := Ground.phase }, { on := 5, ground := Ground.phase }, { on := 6, ground := Ground.phase }, { on := 7, ground := Ground.phase }, { on := 8, ground := Ground.phase }, { on := 9, ground := Ground.phase }, { on := 10, ground := Ground.phase }, { on := 11, ground := Ground.phase }], guard := none })) rfl (fun K hK => ?_) AllReadyH.nil
  refine step_store_bk rfl 87 (.tmp 6) (.tmp 128) rfl q6 0 gvnZ (gvnC (Ans.of 10) a n cp FW i false) (gvnC (Ans.of 10) a n cp FW i false) (HG8.out.new hB) (Nat.le_refl 12) rfl info_gvn (gvnC_one _ _ _ _ _ _ _) rfl rfl ?_
  intro W11 h11 k11
  refine hK.out _ _ (KEEP2.out _ ((kq hB).trans k11 (fun j hj s => .inl s))) (fun hHeld => ?_)
  clear hK K
  try simp only [Act.put]
  refine wpAnyH_take (i := 13) (oi := ({ dst := some 7, op := Op.assign (Operand.const (Value.bool true)), type := 4, pos := "ref.go:111", after := #[{ on := 12, ground := Ground.chain }, { on := 0, ground := Ground.phase }, { on := 1, ground := Ground.phase }, { on := 2, ground := Ground.phase }, { on := 3, ground := Ground.phase }, { on := 4, ground := Ground.phase }, { on := 5, ground := Ground.phase }, { on := 6, ground := Ground.phase }, { on := 7, ground := Ground.phase }, { on := 8, ground := Ground.phase }, { on := 9, ground := Ground.phase }, { on := 10, ground := Ground.phase }, { on := 11, ground := Ground.phase }, { on := 12, ground := Ground.phase }], guard := none })) (v := ?_) rfl (by kernel_rfl) (by kernel_rfl) (by kernel_rfl) (fun _ _ _ h => h) (Or.inl ⟨by rfl, ?_⟩) (by assumption) ?_
  rotate_left 1
  · (intro w9 hSw; (try dsimp only at hSw); go_simp; try with_reducible rfl)
  try simp only [Act.put, List.setIfInBounds_toArray, List.set_cons_zero, List.set_cons_succ]
  refine wpAnyH_done (by kernel_rfl) ?_ _
  go_wp2_with fail
  refine bodyPost_ret (results_two rfl _ h11 rfl rfl _ Tryd.underlying87 rfl info_gvn) rfl ⟨a, n, cp, rfl, ((HL.out.new (fr_new HF8.out hB)).base (Nat.zero_le _)).keep k11 (fun g o s e e1 => by have e2 := (HL.out.blk e).2; have e3 := HQ2.out; omega), onA_self _ _, fr_set (fr_new HF8.out hB) k11 HQ2.out.2.1⟩
set_option maxHeartbeats 8000000 in
set_option maxRecDepth 100000 in
theorem rg_flND (hr : Bk w r (mapR a n cp e i)) (hl : RL w B a n cp L) (hn : n < 1000000) (he : 0 ≤ e ∧ e < 18446744073709551616) (hx : 0 ≤ x ∧ x < 18446744073709551616) (hk : key.size ≤ maxLen) (hv : v = 11) (hfl : flushes x = false) (hcm : comes e x = true) (hlk : mlook L key = some y) (hal : alivef y.gen y.dies x = false)  : Calls Tryd.prog 37 #[.pointer (some ⟨r, 0, none⟩), .agg (calC (⟨v, key, vl, fl, ex, id, by_⟩ : Cal)).toArray, .int .u64 x] w (rgvP w a (some (Mst.stay ⟨L, e, i⟩ x 5))) := by
  have HR := Lib.hid hr
  have HL := Lib.hid hl
  have HN := Lib.hid hn
  have HE := Lib.hid he
  have HX := Lib.hid hx
  have HK := Lib.hid hk
  have HCM := Lib.hid hcm
  have HLK := Lib.hid hlk
  have HAL := Lib.hid hal
  have HFL := Lib.hid hfl
  clear hr hl hn he hx hk hcm hlk hal hfl
  subst hv
  go_enter Tryd.func37, Tryd.ntmps37
  go_wp2_with (first
    | ((with_reducible refine at_wq ?_); refine wpList_box_bk rfl 35 (.tmp 1) rfl (calC (⟨11, key, vl, fl, ex, id, by_⟩ : Cal)) rfl ?_; intro W1 q4 h1)
    | ((with_reducible refine at_wq ?_); refine wpList_alloc_bk rfl 87 gvnZ alloc_gvn rfl ?_; intro W2 q6 h2; have HF2 := Lib.hid (fr_new h1.below h2.below); have HC2 := Lib.hid (h1.bk.new h2.below); have HG2 := Lib.hid h2.bk; have HQ2 := Lib.hid (show w.heap.size ≤ q4 ∧ w.heap.size ≤ q6 ∧ q4 ≠ q6 ∧ q4 < W2.heap.size ∧ q6 < W2.heap.size from ⟨by have e1 := h1.eq; omega, h2.at h1.below, by have e1 := h1.bk.lt; have e2 := h2.eq; omega, by have e1 := h1.bk.lt; have e2 := h2.below.size; omega, h2.bk.lt⟩); obtain ⟨y0, y1, y2, y3, y4, y5, y6⟩ := call_cells HC2.out; dsimp only at y0 y1 y2 y3 y4 y5 y6; clear h1 h2)
    | (go_at_call 49; refine (rComesw (HR.out.new HF2.out) x HE.out HX.out).mono ?_; rintro e1 Y ⟨rfl, rfl⟩; rw [HCM.out])
    | (go_at_call 14; refine (rAtw (HR.out.new HF2.out) (HL.out.new HF2.out) key).mono ?_; rintro e1 W3 ⟨rfl, b3⟩; unfold atV; rw [HLK.out]; simp only [Option.getD_some, Option.isSome_some]; have HF3 := Lib.hid (fr_new HF2.out b3); have HC3 := Lib.hid (HC2.out.new b3); have HG3 := Lib.hid (HG2.out.new b3); have HS3 := Lib.hid b3.size; clear b3 y0 y1 y2 y3 y4 y5 y6)
    | ((with_reducible refine at_wq ?_); refine wpList_alloc_bk rfl 38 (itC Itm.none) alloc_it rfl ?_; intro W4 q8 h4)
    | ((with_reducible refine at_wq ?_); refine wpList_store_bk rfl 38 (.tmp 8) (.tmp 35) rfl q8 0 (itC Itm.none) (itC y) (itC y) h4.bk (Nat.le_refl 6) rfl info_it (itC_one _) rfl rfl ?_; intro W5 h5 k5; have HQ := Lib.hid (show q8 ≠ q4 ∧ q8 ≠ q6 ∧ w.heap.size ≤ q8 from ⟨by have e1 := h4.eq; have e2 := HQ2.out; have e3 := HS3.out; omega, by have e1 := h4.eq; have e2 := HQ2.out; have e3 := HS3.out; omega, h4.at HF3.out⟩); have HF5 := Lib.hid (fr_set (fr_new HF3.out h4.below) k5 (h4.at HF3.out)); have HC5 := Lib.hid ((HC3.out.new h4.below).keep k5 (fun e => HQ.out.1 e.symm)); have HG5 := Lib.hid ((HG3.out.new h4.below).keep k5 (fun e => HQ.out.2.1 e.symm)); have HI5 := Lib.hid h5; obtain ⟨a0, a1, a2, a3, a4, a5⟩ := it_cells h5; clear h4 h5 k5)
    | (go_at_call 51; refine (ralive _ _ _ _ _ _ x _ HX.out.1 HX.out.2).mono ?_; rintro e1 W6 ⟨rfl, b6⟩; rw [HAL.out]; have HF6 := Lib.hid (fr_new HF5.out b6); have HC6 := Lib.hid (HC5.out.new b6); have HG6 := Lib.hid (HG5.out.new b6); have HI6 := Lib.hid (HI5.out.new b6); clear b6 a0 a1 a2 a3 a4 a5))
  have HRV := Lib.hid (HR.out.new HF6.out)
  have hB : Below W6.heap.size W6 W6.drew := (Below.refl _ _).drew
  have hB0 := hB
  have KEEP : Hid (∀ X, Below W6.heap.size W6 X → X.cell? ⟨r, 0, none⟩ = some (.slice a n cp) ∧ X.cell? ⟨r, 2, none⟩ = some (.int .u64 i)) := Lib.hid fun X hb => by
    obtain ⟨m0, m1, m2⟩ := map_cells (HRV.out.new hb)
    exact ⟨m0, m2⟩
  refine wp_region_held_drew (S := fun X => X.cell? ⟨r, 0, none⟩ = some (.slice a n cp) ∧ X.cell? ⟨r, 2, none⟩ = some (.int .u64 i)) (by kernel_rfl) (KEEP.out _ hB) (fun hHeld => ?_)
  refine wpAnyH_take (i := 0) (oi := ({ dst := some 43, op := Op.move (Operand.tmp 0), type := 27, pos := "ref.go:83", after := #[], guard := none })) (v := ?_) rfl (by kernel_rfl) (by kernel_rfl) (by kernel_rfl) (fun _ _ _ h => h) (Or.inl ⟨by rfl, ?_⟩) (by assumption) ?_
  rotate_left 1
  · (intro w9 hSw; (try dsimp only at hSw); go_simp; try with_reducible rfl)
  try simp only [Act.put, List.setIfInBounds_toArray, List.set_cons_zero, List.set_cons_succ]
  refine wpAnyH_take (i := 1) (oi := ({ dst := some 44, op := Op.nilCheck (Operand.tmp 43), type := 0, pos := "ref.go:83", after := #[{ on := 0, ground := Ground.data }], guard := none })) (v := ?_) rfl (by kernel_rfl) (by kernel_rfl) (by kernel_rfl) (fun _ _ _ h => h) (Or.inl ⟨by rfl, ?_⟩) (by assumption) ?_
  rotate_left 1
  · (intro w9 hSw; (try dsimp only at hSw); go_simp; try with_reducible rfl)
  try simp only [Act.put, List.setIfInBounds_toArray, List.set_cons_zero, List.set_cons_succ]
  refine wpAnyH_take (i := 2) (oi := ({ dst := some 45, op := Op.fieldAddr 31 (Operand.tmp 44) 0, type := 0, pos := "ref.go:83", after := #[{ on := 1, ground := Ground.data }], guard := none })) (v := ?_) rfl (by kernel_rfl) (by kernel_rfl) (by kernel_rfl) (fun _ _ _ h => h) (Or.inl ⟨by rfl, ?_⟩) (by assumption) ?_
  rotate_left 1
  · (intro w9 hSw; (try dsimp only at hSw); go_simp; try with_reducible rfl)
  try simp only [Act.put, List.setIfInBounds_toArray, List.set_cons_zero, List.set_cons_succ]
  refine wpAnyH_take (i := 3) (oi := ({ dst := some 46, op := Op.load 28 (Operand.tmp 45), type := 28, pos := "ref.go:83", after := #[{ on := 2, ground := Ground.data }], guard := none })) (v := ?_) rfl (by kernel_rfl) (by kernel_rfl) (by kernel_rfl) (fun _ _ _ h => h) (Or.inl ⟨by rfl, ?_⟩) (by assumption) ?_
  rotate_left 1
  · (intro w9 hSw; (try dsimp only at hSw); go_simp; try with_reducible rfl)
  try simp only [Act.put, List.setIfInBounds_toArray, List.set_cons_zero, List.set_cons_succ]
  refine wpAnyH_take (i := 4) (oi := ({ dst := some 47, op := Op.move (Operand.tmp 2), type := 29, pos := "ref.go:83", after := #[], guard := none })) (v := ?_) rfl (by kernel_rfl) (by kernel_rfl) (by kernel_rfl) (fun _ _ _ h => h) (Or.inl ⟨by rfl, ?_⟩) (by assumption) ?_
  rotate_left 1
  · (intro w9 hSw; (try dsimp only at hSw); go_simp; try with_reducible rfl)
  try simp only [Act.put, List.setIfInBounds_toArray, List.set_cons_zero, List.set_cons_succ]
  refine wpAnyH_take (i := 5) (oi := ({ dst := some 48, op := Op.move (Operand.tmp 0), type := 27, pos := "ref.go:83", after := #[], guard := none })) (v := ?_) rfl (by kernel_rfl) (by kernel_rfl) (by kernel_rfl) (fun _ _ _ h => h) (Or.inl ⟨by rfl, ?_⟩) (by assumption) ?_
  rotate_left 1
  · (intro w9 hSw; (try dsimp only at hSw); go_simp; try with_reducible rfl)
  try simp only [Act.put, List.setIfInBounds_toArray, List.set_cons_zero, List.set_cons_succ]
  refine wpAnyH_take (i := 6) (oi := ({ dst := some 49, op := Op.nilCheck (Operand.tmp 48), type := 0, pos := "ref.go:83", after := #[{ on := 5, ground := Ground.data }], guard := none })) (v := ?_) rfl (by kernel_rfl) (by kernel_rfl) (by kernel_rfl) (fun _ _ _ h => h) (Or.inl ⟨by rfl, ?_⟩) (by assumption) ?_
  rotate_left 1
  · (intro w9 hSw; (try dsimp only at hSw); go_simp; try with_reducible rfl)
  try simp only [Act.put, List.setIfInBounds_toArray, List.set_cons_zero, List.set_cons_succ]
  refine wpAnyH_take (i := 7) (oi := ({ dst := some 50, op := Op.fieldAddr 31 (Operand.tmp 49) 2, type := 0, pos := "ref.go:83", after := #[{ on := 6, ground := Ground.data }], guard := none })) (v := ?_) rfl (by kernel_rfl) (by kernel_rfl) (by kernel_rfl) (fun _ _ _ h => h) (Or.inl ⟨by rfl, ?_⟩) (by assumption) ?_
  rotate_left 1
  · (intro w9 hSw; (try dsimp only at hSw); go_simp; try with_reducible rfl)
  try simp only [Act.put, List.setIfInBounds_toArray, List.set_cons_zero, List.set_cons_succ]
  refine wpAnyH_take (i := 8) (oi := ({ dst := some 51, op := Op.load 29 (Operand.tmp 50), type := 29, pos := "ref.go:83", after := #[{ on := 7, ground := Ground.data }], guard := none })) (v := ?_) rfl (by kernel_rfl) (by kernel_rfl) (by kernel_rfl) (fun _ _ _ h => h) (Or.inl ⟨by rfl, ?_⟩) (by assumption) ?_
  rotate_left 1
  · (intro w9 hSw; (try dsimp only at hSw); go_simp; try with_reducible rfl)
  try simp only [Act.put, List.setIfInBounds_toArray, List.set_cons_zero, List.set_cons_succ]
  refine wpAnyH_take (i := 9) (oi := ({ dst := some 52, op := Op.build 31 #[(0, Operand.tmp 46), (1, Operand.tmp 47), (2, Operand.tmp 51)], type := 31, pos := "ref.go:83", after := #[{ on := 3, ground := Ground.data }, { on := 4, ground := Ground.data }, { on := 8, ground := Ground.data }], guard := none })) (v := ?_) rfl (by kernel_rfl) (by kernel_rfl) (by kernel_rfl) (fun _ _ _ h => h) (Or.inl ⟨by rfl, ?_⟩) (by assumption) ?_
  rotate_left 1
  · (intro w9 hSw; (try dsimp only at hSw); go_simp; try with_reducible rfl)
  try simp only [Act.put, List.setIfInBounds_toArray, List.set_cons_zero, List.set_cons_succ]
  refine wpAnyH_ready (rs := [10]) (by kernel_rfl) (by simp) ?_
  refine AllReadyH.cons (o := ({ dst := some 11, op := Op.alloc 31, type := 0, pos := "ref.go:83", after := #[], guard := none })) rfl (fun K hK => ?_) AllReadyH.nil
  refine step_alloc_bk rfl 31 (mapR none 0 0 0 0) alloc_rm rfl ?_
  intro W7 q11 h7
  replace hB := fr_new hB h7.below
  refine hK.out _ _ (KEEP.out _ hB) (fun hHeld => ?_)
  clear hK K
  try simp only [Act.put, List.setIfInBounds_toArray, List.set_cons_zero, List.set_cons_succ]
  refine wpAnyH_ready (rs := [11]) (by kernel_rfl) (by simp) ?_
  refine AllReadyH.cons (o := ({ dst := none, op := Op.store 31 (Operand.tmp 11) (Operand.tmp 52), type := 0, pos := "ref.go:83", after := #[{ on := 10, ground := Ground.data }, { on := 9, ground := Ground.data }, { on := 0, ground := Ground.phase }, { on := 1, ground := Ground.phase }, { on := 2, ground := Ground.phase }, { on := 3, ground := Ground.phase }, { on := 4, ground := Ground.phase }, { on := 5, ground := Ground.phase }, { on := 6, ground := Ground.phase }, { on := 7, ground := Ground.phase }, { on := 8, ground := Ground.phase }, { on := 9, ground := Ground.phase }, { on := 10, ground := Ground.phase }], guard := none })) rfl (fun K hK => ?_) AllReadyH.nil
  refine step_store_bk rfl 31 (.tmp 11) (.tmp 52) rfl q11 0 (mapR none 0 0 0 0) (mapR a n cp x i) (mapR a n cp x i) h7.bk (Nat.le_refl 3) rfl info_rm (mapR_one _ _ _ _ _) rfl rfl ?_
  intro W8 h8 k8
  replace hB := fr_set hB k8 (h7.at hB0)
  refine hK.out _ _ (KEEP.out _ hB) (fun hHeld => ?_)
  clear hK K
  try simp only [Act.put]
  refine wpAnyH_done (by kernel_rfl) ?_ _
  have HF8 := Lib.hid (fr_new HF6.out hB)
  have HC8 := Lib.hid (HC6.out.new hB)
  have HG8 := Lib.hid (HG6.out.new hB)
  have HI8 := Lib.hid (HI6.out.new hB)
  have HR8 := Lib.hid (HR.out.new HF8.out)
  have HL8 := Lib.hid (HL.out.new HF8.out)
  obtain ⟨y0, y1, y2, y3, y4, y5, y6⟩ := call_cells HC8.out; dsimp only at y0 y1 y2 y3 y4 y5 y6
  obtain ⟨a0, a1, a2, a3, a4, a5⟩ := it_cells HI8.out
  obtain ⟨m0, m1, m2⟩ := map_cells h8
  clear hB hB0 h7 h8 k8 hHeld
  have HS8 := Lib.hid (show q6 < W8.heap.size from HG8.out.lt)
  go_wp2_with (first
    | (go_at_call 53; refine (rflush x ex _ HX.out.1 HX.out.2).mono ?_; rintro e1 Y ⟨rfl, rfl⟩; rw [HFL.out])
    | (go_at_call 52; refine (rsaysw 5 a n cp x i _).mono ?_; rintro e1 W9 ⟨rfl, b9⟩; clear y0 y1 y2 y3 y4 y5 y6 a0 a1 a2 a3 a4 a5 m0 m1 m2)
    | ((with_reducible refine at_wq ?_); refine wpList_store_bk rfl 87 (.tmp 6) (.tmp 115) rfl q6 0 gvnZ (gvnC (Ans.of 5) a n cp x i false) (gvnC (Ans.of 5) a n cp x i false) (HG8.out.new b9) (Nat.le_refl 12) rfl info_gvn (gvnC_one _ _ _ _ _ _ _) rfl rfl ?_; intro W11 h11 k11))
  refine bodyPost_ret (results_two rfl _ h11 rfl rfl _ Tryd.underlying87 rfl info_gvn) rfl ⟨a, n, cp, rfl, ((HL.out.new (fr_new HF8.out b9)).base (Nat.zero_le _)).keep k11 (fun g o s e e1 => by have e2 := (HL.out.blk e).2; have e3 := HQ2.out; omega), onA_self _ _, fr_set (fr_new HF8.out b9) k11 HQ2.out.2.1⟩
set_option maxHeartbeats 8000000 in
set_option maxRecDepth 100000 in
theorem rg_flYA (hr : Bk w r (mapR a n cp e i)) (hl : RL w B a n cp L) (hn : n < 1000000) (he : 0 ≤ e ∧ e < 18446744073709551616) (hx : 0 ≤ x ∧ x < 18446744073709551616) (hk : key.size ≤ maxLen) (hv : v = 11) (hfl : flushes x = true) (hcm : comes e x = true) (hlk : mlook L key = some y) (hal : alivef y.gen y.dies x = true)  : Calls Tryd.prog 37 #[.pointer (some ⟨r, 0, none⟩), .agg (calC (⟨v, key, vl, fl, ex, id, by_⟩ : Cal)).toArray, .int .u64 x] w (rgvP w a (some ⟨Ans.of 10, ⟨L, flushf x ex, i⟩, false⟩)) := by
  have HR := Lib.hid hr
  have HL := Lib.hid hl
  have HN := Lib.hid hn
  have HE := Lib.hid he
  have HX := Lib.hid hx
  have HK := Lib.hid hk
  have HCM := Lib.hid hcm
  have HLK := Lib.hid hlk
  have HAL := Lib.hid hal
  have HFL := Lib.hid hfl
  obtain ⟨FW, hfw⟩ : ∃ f, flushf x ex = f := ⟨_, rfl⟩
  rw [hfw]
  have HFW := Lib.hid hfw
  clear hr hl hn he hx hk hcm hlk hal hfl hfw
  subst hv
  go_enter Tryd.func37, Tryd.ntmps37
  go_wp2_with (first
    | ((with_reducible refine at_wq ?_); refine wpList_box_bk rfl 35 (.tmp 1) rfl (calC (⟨11, key, vl, fl, ex, id, by_⟩ : Cal)) rfl ?_; intro W1 q4 h1)
    | ((with_reducible refine at_wq ?_); refine wpList_alloc_bk rfl 87 gvnZ alloc_gvn rfl ?_; intro W2 q6 h2; have HF2 := Lib.hid (fr_new h1.below h2.below); have HC2 := Lib.hid (h1.bk.new h2.below); have HG2 := Lib.hid h2.bk; have HQ2 := Lib.hid (show w.heap.size ≤ q4 ∧ w.heap.size ≤ q6 ∧ q4 ≠ q6 ∧ q4 < W2.heap.size ∧ q6 < W2.heap.size from ⟨by have e1 := h1.eq; omega, h2.at h1.below, by have e1 := h1.bk.lt; have e2 := h2.eq; omega, by have e1 := h1.bk.lt; have e2 := h2.below.size; omega, h2.bk.lt⟩); obtain ⟨y0, y1, y2, y3, y4, y5, y6⟩ := call_cells HC2.out; dsimp only at y0 y1 y2 y3 y4 y5 y6; clear h1 h2)
    | (go_at_call 49; refine (rComesw (HR.out.new HF2.out) x HE.out HX.out).mono ?_; rintro e1 Y ⟨rfl, rfl⟩; rw [HCM.out])
    | (go_at_call 14; refine (rAtw (HR.out.new HF2.out) (HL.out.new HF2.out) key).mono ?_; rintro e1 W3 ⟨rfl, b3⟩; unfold atV; rw [HLK.out]; simp only [Option.getD_some, Option.isSome_some]; have HF3 := Lib.hid (fr_new HF2.out b3); have HC3 := Lib.hid (HC2.out.new b3); have HG3 := Lib.hid (HG2.out.new b3); have HS3 := Lib.hid b3.size; clear b3 y0 y1 y2 y3 y4 y5 y6)
    | ((with_reducible refine at_wq ?_); refine wpList_alloc_bk rfl 38 (itC Itm.none) alloc_it rfl ?_; intro W4 q8 h4)
    | ((with_reducible refine at_wq ?_); refine wpList_store_bk rfl 38 (.tmp 8) (.tmp 35) rfl q8 0 (itC Itm.none) (itC y) (itC y) h4.bk (Nat.le_refl 6) rfl info_it (itC_one _) rfl rfl ?_; intro W5 h5 k5; have HQ := Lib.hid (show q8 ≠ q4 ∧ q8 ≠ q6 ∧ w.heap.size ≤ q8 from ⟨by have e1 := h4.eq; have e2 := HQ2.out; have e3 := HS3.out; omega, by have e1 := h4.eq; have e2 := HQ2.out; have e3 := HS3.out; omega, h4.at HF3.out⟩); have HF5 := Lib.hid (fr_set (fr_new HF3.out h4.below) k5 (h4.at HF3.out)); have HC5 := Lib.hid ((HC3.out.new h4.below).keep k5 (fun e => HQ.out.1 e.symm)); have HG5 := Lib.hid ((HG3.out.new h4.below).keep k5 (fun e => HQ.out.2.1 e.symm)); have HI5 := Lib.hid h5; obtain ⟨a0, a1, a2, a3, a4, a5⟩ := it_cells h5; clear h4 h5 k5)
    | (go_at_call 51; refine (ralive _ _ _ _ _ _ x _ HX.out.1 HX.out.2).mono ?_; rintro e1 W6 ⟨rfl, b6⟩; rw [HAL.out]; have HF6 := Lib.hid (fr_new HF5.out b6); have HC6 := Lib.hid (HC5.out.new b6); have HG6 := Lib.hid (HG5.out.new b6); have HI6 := Lib.hid (HI5.out.new b6); clear b6 a0 a1 a2 a3 a4 a5))
  have HRV := Lib.hid (HR.out.new HF6.out)
  have hB : Below W6.heap.size W6 W6.drew := (Below.refl _ _).drew
  have hB0 := hB
  have KEEP : Hid (∀ X, Below W6.heap.size W6 X → X.cell? ⟨r, 0, none⟩ = some (.slice a n cp) ∧ X.cell? ⟨r, 2, none⟩ = some (.int .u64 i)) := Lib.hid fun X hb => by
    obtain ⟨m0, m1, m2⟩ := map_cells (HRV.out.new hb)
    exact ⟨m0, m2⟩
  refine wp_region_held_drew (S := fun X => X.cell? ⟨r, 0, none⟩ = some (.slice a n cp) ∧ X.cell? ⟨r, 2, none⟩ = some (.int .u64 i)) (by kernel_rfl) (KEEP.out _ hB) (fun hHeld => ?_)
  refine wpAnyH_take (i := 0) (oi := ({ dst := some 43, op := Op.move (Operand.tmp 0), type := 27, pos := "ref.go:83", after := #[], guard := none })) (v := ?_) rfl (by kernel_rfl) (by kernel_rfl) (by kernel_rfl) (fun _ _ _ h => h) (Or.inl ⟨by rfl, ?_⟩) (by assumption) ?_
  rotate_left 1
  · (intro w9 hSw; (try dsimp only at hSw); go_simp; try with_reducible rfl)
  try simp only [Act.put, List.setIfInBounds_toArray, List.set_cons_zero, List.set_cons_succ]
  refine wpAnyH_take (i := 1) (oi := ({ dst := some 44, op := Op.nilCheck (Operand.tmp 43), type := 0, pos := "ref.go:83", after := #[{ on := 0, ground := Ground.data }], guard := none })) (v := ?_) rfl (by kernel_rfl) (by kernel_rfl) (by kernel_rfl) (fun _ _ _ h => h) (Or.inl ⟨by rfl, ?_⟩) (by assumption) ?_
  rotate_left 1
  · (intro w9 hSw; (try dsimp only at hSw); go_simp; try with_reducible rfl)
  try simp only [Act.put, List.setIfInBounds_toArray, List.set_cons_zero, List.set_cons_succ]
  refine wpAnyH_take (i := 2) (oi := ({ dst := some 45, op := Op.fieldAddr 31 (Operand.tmp 44) 0, type := 0, pos := "ref.go:83", after := #[{ on := 1, ground := Ground.data }], guard := none })) (v := ?_) rfl (by kernel_rfl) (by kernel_rfl) (by kernel_rfl) (fun _ _ _ h => h) (Or.inl ⟨by rfl, ?_⟩) (by assumption) ?_
  rotate_left 1
  · (intro w9 hSw; (try dsimp only at hSw); go_simp; try with_reducible rfl)
  try simp only [Act.put, List.setIfInBounds_toArray, List.set_cons_zero, List.set_cons_succ]
  refine wpAnyH_take (i := 3) (oi := ({ dst := some 46, op := Op.load 28 (Operand.tmp 45), type := 28, pos := "ref.go:83", after := #[{ on := 2, ground := Ground.data }], guard := none })) (v := ?_) rfl (by kernel_rfl) (by kernel_rfl) (by kernel_rfl) (fun _ _ _ h => h) (Or.inl ⟨by rfl, ?_⟩) (by assumption) ?_
  rotate_left 1
  · (intro w9 hSw; (try dsimp only at hSw); go_simp; try with_reducible rfl)
  try simp only [Act.put, List.setIfInBounds_toArray, List.set_cons_zero, List.set_cons_succ]
  refine wpAnyH_take (i := 4) (oi := ({ dst := some 47, op := Op.move (Operand.tmp 2), type := 29, pos := "ref.go:83", after := #[], guard := none })) (v := ?_) rfl (by kernel_rfl) (by kernel_rfl) (by kernel_rfl) (fun _ _ _ h => h) (Or.inl ⟨by rfl, ?_⟩) (by assumption) ?_
  rotate_left 1
  · (intro w9 hSw; (try dsimp only at hSw); go_simp; try with_reducible rfl)
  try simp only [Act.put, List.setIfInBounds_toArray, List.set_cons_zero, List.set_cons_succ]
  refine wpAnyH_take (i := 5) (oi := ({ dst := some 48, op := Op.move (Operand.tmp 0), type := 27, pos := "ref.go:83", after := #[], guard := none })) (v := ?_) rfl (by kernel_rfl) (by kernel_rfl) (by kernel_rfl) (fun _ _ _ h => h) (Or.inl ⟨by rfl, ?_⟩) (by assumption) ?_
  rotate_left 1
  · (intro w9 hSw; (try dsimp only at hSw); go_simp; try with_reducible rfl)
  try simp only [Act.put, List.setIfInBounds_toArray, List.set_cons_zero, List.set_cons_succ]
  refine wpAnyH_take (i := 6) (oi := ({ dst := some 49, op := Op.nilCheck (Operand.tmp 48), type := 0, pos := "ref.go:83", after := #[{ on := 5, ground := Ground.data }], guard := none })) (v := ?_) rfl (by kernel_rfl) (by kernel_rfl) (by kernel_rfl) (fun _ _ _ h => h) (Or.inl ⟨by rfl, ?_⟩) (by assumption) ?_
  rotate_left 1
  · (intro w9 hSw; (try dsimp only at hSw); go_simp; try with_reducible rfl)
  try simp only [Act.put, List.setIfInBounds_toArray, List.set_cons_zero, List.set_cons_succ]
  refine wpAnyH_take (i := 7) (oi := ({ dst := some 50, op := Op.fieldAddr 31 (Operand.tmp 49) 2, type := 0, pos := "ref.go:83", after := #[{ on := 6, ground := Ground.data }], guard := none })) (v := ?_) rfl (by kernel_rfl) (by kernel_rfl) (by kernel_rfl) (fun _ _ _ h => h) (Or.inl ⟨by rfl, ?_⟩) (by assumption) ?_
  rotate_left 1
  · (intro w9 hSw; (try dsimp only at hSw); go_simp; try with_reducible rfl)
  try simp only [Act.put, List.setIfInBounds_toArray, List.set_cons_zero, List.set_cons_succ]
  refine wpAnyH_take (i := 8) (oi := ({ dst := some 51, op := Op.load 29 (Operand.tmp 50), type := 29, pos := "ref.go:83", after := #[{ on := 7, ground := Ground.data }], guard := none })) (v := ?_) rfl (by kernel_rfl) (by kernel_rfl) (by kernel_rfl) (fun _ _ _ h => h) (Or.inl ⟨by rfl, ?_⟩) (by assumption) ?_
  rotate_left 1
  · (intro w9 hSw; (try dsimp only at hSw); go_simp; try with_reducible rfl)
  try simp only [Act.put, List.setIfInBounds_toArray, List.set_cons_zero, List.set_cons_succ]
  refine wpAnyH_take (i := 9) (oi := ({ dst := some 52, op := Op.build 31 #[(0, Operand.tmp 46), (1, Operand.tmp 47), (2, Operand.tmp 51)], type := 31, pos := "ref.go:83", after := #[{ on := 3, ground := Ground.data }, { on := 4, ground := Ground.data }, { on := 8, ground := Ground.data }], guard := none })) (v := ?_) rfl (by kernel_rfl) (by kernel_rfl) (by kernel_rfl) (fun _ _ _ h => h) (Or.inl ⟨by rfl, ?_⟩) (by assumption) ?_
  rotate_left 1
  · (intro w9 hSw; (try dsimp only at hSw); go_simp; try with_reducible rfl)
  try simp only [Act.put, List.setIfInBounds_toArray, List.set_cons_zero, List.set_cons_succ]
  refine wpAnyH_ready (rs := [10]) (by kernel_rfl) (by simp) ?_
  refine AllReadyH.cons (o := ({ dst := some 11, op := Op.alloc 31, type := 0, pos := "ref.go:83", after := #[], guard := none })) rfl (fun K hK => ?_) AllReadyH.nil
  refine step_alloc_bk rfl 31 (mapR none 0 0 0 0) alloc_rm rfl ?_
  intro W7 q11 h7
  replace hB := fr_new hB h7.below
  refine hK.out _ _ (KEEP.out _ hB) (fun hHeld => ?_)
  clear hK K
  try simp only [Act.put, List.setIfInBounds_toArray, List.set_cons_zero, List.set_cons_succ]
  refine wpAnyH_ready (rs := [11]) (by kernel_rfl) (by simp) ?_
  refine AllReadyH.cons (o := ({ dst := none, op := Op.store 31 (Operand.tmp 11) (Operand.tmp 52), type := 0, pos := "ref.go:83", after := #[{ on := 10, ground := Ground.data }, { on := 9, ground := Ground.data }, { on := 0, ground := Ground.phase }, { on := 1, ground := Ground.phase }, { on := 2, ground := Ground.phase }, { on := 3, ground := Ground.phase }, { on := 4, ground := Ground.phase }, { on := 5, ground := Ground.phase }, { on := 6, ground := Ground.phase }, { on := 7, ground := Ground.phase }, { on := 8, ground := Ground.phase }, { on := 9, ground := Ground.phase }, { on := 10, ground := Ground.phase }], guard := none })) rfl (fun K hK => ?_) AllReadyH.nil
  refine step_store_bk rfl 31 (.tmp 11) (.tmp 52) rfl q11 0 (mapR none 0 0 0 0) (mapR a n cp x i) (mapR a n cp x i) h7.bk (Nat.le_refl 3) rfl info_rm (mapR_one _ _ _ _ _) rfl rfl ?_
  intro W8 h8 k8
  replace hB := fr_set hB k8 (h7.at hB0)
  refine hK.out _ _ (KEEP.out _ hB) (fun hHeld => ?_)
  clear hK K
  try simp only [Act.put]
  refine wpAnyH_done (by kernel_rfl) ?_ _
  have HF8 := Lib.hid (fr_new HF6.out hB)
  have HC8 := Lib.hid (HC6.out.new hB)
  have HG8 := Lib.hid (HG6.out.new hB)
  have HI8 := Lib.hid (HI6.out.new hB)
  have HR8 := Lib.hid (HR.out.new HF8.out)
  have HL8 := Lib.hid (HL.out.new HF8.out)
  obtain ⟨y0, y1, y2, y3, y4, y5, y6⟩ := call_cells HC8.out; dsimp only at y0 y1 y2 y3 y4 y5 y6
  obtain ⟨a0, a1, a2, a3, a4, a5⟩ := it_cells HI8.out
  obtain ⟨m0, m1, m2⟩ := map_cells h8
  clear hB hB0 h7 h8 k8 hHeld
  have HS8 := Lib.hid (show q6 < W8.heap.size from HG8.out.lt)
  go_wp2_with (first
    | (go_at_call 53; refine (rflush x ex _ HX.out.1 HX.out.2).mono ?_; rintro e1 Y ⟨rfl, rfl⟩; rw [HFL.out, HFW.out]))
  have hB : Below W8.heap.size W8 W8.drew := (Below.refl _ _).drew
  have KEEP2 : Hid (∀ X, Keeps (fun k => k = q6 ∨ W8.heap.size ≤ k) W8 X → X.cell? ⟨r, 0, none⟩ = some (.slice a n cp) ∧ X.cell? ⟨r, 2, none⟩ = some (.int .u64 i)) := Lib.hid fun X hb => by
    obtain ⟨m0, m1, m2⟩ := map_cells (HR8.out.keep hb (by have e1 := HQ2.out; have e2 := HR8.out.lt; have e3 := HR.out.lt; omega))
    exact ⟨m0, m2⟩
  clear y0 y1 y2 y3 y4 y5 y6 a0 a1 a2 a3 a4 a5 m0 m1 m2
  refine wp_region_held_drew (S := fun X => X.cell? ⟨r, 0, none⟩ = some (.slice a n cp) ∧ X.cell? ⟨r, 2, none⟩ = some (.int .u64 i)) (by kernel_rfl) (KEEP2.out _ (kq hB)) (fun hHeld => ?_)
  refine wpAnyH_take (i := 0) (oi := ({ dst := some 117, op := Op.build 40 #[(0, Operand.const (Value.int IntKind.u8 10))], type := 40, pos := "ref.go:111", after := #[], guard := none })) (v := ?_) rfl (by kernel_rfl) (by kernel_rfl) (by kernel_rfl) (fun _ _ _ h => h) (Or.inl ⟨by rfl, ?_⟩) (by assumption) ?_
  rotate_left 1
  · (intro w9 hSw; (try dsimp only at hSw); go_simp; try with_reducible rfl)
  try simp only [Act.put, List.setIfInBounds_toArray, List.set_cons_zero, List.set_cons_succ]
  refine wpAnyH_take (i := 1) (oi := ({ dst := some 118, op := Op.move (Operand.tmp 0), type := 27, pos := "ref.go:111", after := #[], guard := none })) (v := ?_) rfl (by kernel_rfl) (by kernel_rfl) (by kernel_rfl) (fun _ _ _ h => h) (Or.inl ⟨by rfl, ?_⟩) (by assumption) ?_
  rotate_left 1
  · (intro w9 hSw; (try dsimp only at hSw); go_simp; try with_reducible rfl)
  try simp only [Act.put, List.setIfInBounds_toArray, List.set_cons_zero, List.set_cons_succ]
  refine wpAnyH_take (i := 2) (oi := ({ dst := some 119, op := Op.nilCheck (Operand.tmp 118), type := 0, pos := "ref.go:111", after := #[{ on := 1, ground := Ground.data }], guard := none })) (v := ?_) rfl (by kernel_rfl) (by kernel_rfl) (by kernel_rfl) (fun _ _ _ h => h) (Or.inl ⟨by rfl, ?_⟩) (by assumption) ?_
  rotate_left 1
  · (intro w9 hSw; (try dsimp only at hSw); go_simp; try with_reducible rfl)
  try simp only [Act.put, List.setIfInBounds_toArray, List.set_cons_zero, List.set_cons_succ]
  refine wpAnyH_take (i := 3) (oi := ({ dst := some 120, op := Op.fieldAddr 31 (Operand.tmp 119) 0, type := 0, pos := "ref.go:111", after := #[{ on := 2, ground := Ground.data }], guard := none })) (v := ?_) rfl (by kernel_rfl) (by kernel_rfl) (by kernel_rfl) (fun _ _ _ h => h) (Or.inl ⟨by rfl, ?_⟩) (by assumption) ?_
  rotate_left 1
  · (intro w9 hSw; (try dsimp only at hSw); go_simp; try with_reducible rfl)
  try simp only [Act.put, List.setIfInBounds_toArray, List.set_cons_zero, List.set_cons_succ]
  refine wpAnyH_take (i := 4) (oi := ({ dst := some 121, op := Op.load 28 (Operand.tmp 120), type := 28, pos := "ref.go:111", after := #[{ on := 3, ground := Ground.data }], guard := none })) (v := ?_) rfl (by kernel_rfl) (by kernel_rfl) (by kernel_rfl) (fun _ _ _ h => h) (Or.inl ⟨by rfl, ?_⟩) (by assumption) ?_
  rotate_left 1
  · (intro w9 hSw; (try dsimp only at hSw); go_simp; try with_reducible rfl)
  try simp only [Act.put, List.setIfInBounds_toArray, List.set_cons_zero, List.set_cons_succ]
  refine wpAnyH_take (i := 5) (oi := ({ dst := some 122, op := Op.move (Operand.tmp 12), type := 29, pos := "ref.go:111", after := #[], guard := none })) (v := ?_) rfl (by kernel_rfl) (by kernel_rfl) (by kernel_rfl) (fun _ _ _ h => h) (Or.inl ⟨by rfl, ?_⟩) (by assumption) ?_
  rotate_left 1
  · (intro w9 hSw; (try dsimp only at hSw); go_simp; try with_reducible rfl)
  try simp only [Act.put, List.setIfInBounds_toArray, List.set_cons_zero, List.set_cons_succ]
  refine wpAnyH_take (i := 6) (oi := ({ dst := some 123, op := Op.move (Operand.tmp 0), type := 27, pos := "ref.go:111", after := #[], guard := none })) (v := ?_) rfl (by kernel_rfl) (by kernel_rfl) (by kernel_rfl) (fun _ _ _ h => h) (Or.inl ⟨by rfl, ?_⟩) (by assumption) ?_
  rotate_left 1
  · (intro w9 hSw; (try dsimp only at hSw); go_simp; try with_reducible rfl)
  try simp only [Act.put, List.setIfInBounds_toArray, List.set_cons_zero, List.set_cons_succ]
  refine wpAnyH_take (i := 7) (oi := ({ dst := some 124, op := Op.nilCheck (Operand.tmp 123), type := 0, pos := "ref.go:111", after := #[{ on := 6, ground := Ground.data }], guard := none })) (v := ?_) rfl (by kernel_rfl) (by kernel_rfl) (by kernel_rfl) (fun _ _ _ h => h) (Or.inl ⟨by rfl, ?_⟩) (by assumption) ?_
  rotate_left 1
  · (intro w9 hSw; (try dsimp only at hSw); go_simp; try with_reducible rfl)
  try simp only [Act.put, List.setIfInBounds_toArray, List.set_cons_zero, List.set_cons_succ]
  refine wpAnyH_take (i := 8) (oi := ({ dst := some 125, op := Op.fieldAddr 31 (Operand.tmp 124) 2, type := 0, pos := "ref.go:111", after := #[{ on := 7, ground := Ground.data }], guard := none })) (v := ?_) rfl (by kernel_rfl) (by kernel_rfl) (by kernel_rfl) (fun _ _ _ h => h) (Or.inl ⟨by rfl, ?_⟩) (by assumption) ?_
  rotate_left 1
  · (intro w9 hSw; (try dsimp only at hSw); go_simp; try with_reducible rfl)
  try simp only [Act.put, List.setIfInBounds_toArray, List.set_cons_zero, List.set_cons_succ]
  refine wpAnyH_take (i := 9) (oi := ({ dst := some 126, op := Op.load 29 (Operand.tmp 125), type := 29, pos := "ref.go:111", after := #[{ on := 8, ground := Ground.data }], guard := none })) (v := ?_) rfl (by kernel_rfl) (by kernel_rfl) (by kernel_rfl) (fun _ _ _ h => h) (Or.inl ⟨by rfl, ?_⟩) (by assumption) ?_
  rotate_left 1
  · (intro w9 hSw; (try dsimp only at hSw); go_simp; try with_reducible rfl)
  try simp only [Act.put, List.setIfInBounds_toArray, List.set_cons_zero, List.set_cons_succ]
  refine wpAnyH_take (i := 10) (oi := ({ dst := some 127, op := Op.build 31 #[(0, Operand.tmp 121), (1, Operand.tmp 122), (2, Operand.tmp 126)], type := 31, pos := "ref.go:111", after := #[{ on := 4, ground := Ground.data }, { on := 5, ground := Ground.data }, { on := 9, ground := Ground.data }], guard := none })) (v := ?_) rfl (by kernel_rfl) (by kernel_rfl) (by kernel_rfl) (fun _ _ _ h => h) (Or.inl ⟨by rfl, ?_⟩) (by assumption) ?_
  rotate_left 1
  · (intro w9 hSw; (try dsimp only at hSw); go_simp; try with_reducible rfl)
  try simp only [Act.put, List.setIfInBounds_toArray, List.set_cons_zero, List.set_cons_succ]
  refine wpAnyH_take (i := 11) (oi := ({ dst := some 128, op := Op.build 87 #[(0, Operand.tmp 117), (1, Operand.tmp 127)], type := 87, pos := "ref.go:111", after := #[{ on := 0, ground := Ground.data }, { on := 10, ground := Ground.data }], guard := none })) (v := ?_) rfl (by kernel_rfl) (by kernel_rfl) (by kernel_rfl) (fun _ _ _ h => h) (Or.inl ⟨by rfl, ?_⟩) (by assumption) ?_
  rotate_left 1
  · (intro w9 hSw; (try dsimp only at hSw); go_simp; try with_reducible rfl)
  try simp only [Act.put, List.setIfInBounds_toArray, List.set_cons_zero, List.set_cons_succ]
  refine wpAnyH_ready (rs := [12]) (by kernel_rfl) (by simp) ?_
  refine AllReadyH.cons (o := ({ dst := none, op := Op.store 87 (Operand.tmp 6) (Operand.tmp 128), type := 0, pos := "ref.go:111", after := #[{ on := 11, ground := Ground.data }, { on := 0, ground := Ground.phase }, { on := 1, ground := Ground.phase }, { on := 2, ground := Ground.phase }, { on := 3, ground := Ground.phase }, { on := 4, ground := Ground.phase }, { on := 5, ground := Ground.phase }, { on := 6, ground := Ground.phase }, { on := 7, ground := Ground.phase }, { on := 8, ground := Ground.phase }, { on := 9, ground := Ground.phase }, { on := 10, ground := Ground.phase }, { on := 11, ground := Ground.phase }], guard := none })) rfl (fun K hK => ?_) AllReadyH.nil
  refine step_store_bk rfl 87 (.tmp 6) (.tmp 128) rfl q6 0 gvnZ (gvnC (Ans.of 10) a n cp FW i false) (gvnC (Ans.of 10) a n cp FW i false) (HG8.out.new hB) (Nat.le_refl 12) rfl info_gvn (gvnC_one _ _ _ _ _ _ _) rfl rfl ?_
  intro W11 h11 k11
  refine hK.out _ _ (KEEP2.out _ ((kq hB).trans k11 (fun j hj s => .inl s))) (fun hHeld => ?_)
  clear hK K
  try simp only [Act.put]
  refine wpAnyH_take (i := 13) (oi := ({ dst := some 7, op := Op.assign (Operand.const (Value.bool true)), type := 4, pos := "ref.go:111", after := #[{ on := 12, ground := Ground.chain }, { on := 0, ground := Ground.phase }, { on := 1, ground := Ground.phase }, { on := 2, ground := Ground.phase }, { on := 3, ground := Ground.phase }, { on := 4, ground := Ground.phase }, { on := 5, ground := Ground.phase }, { on := 6, ground := Ground.phase }, { on := 7, ground := Ground.phase }, { on := 8, ground := Ground.phase }, { on := 9, ground := Ground.phase }, { on := 10, ground := Ground.phase }, { on := 11, ground := Ground.phase }, { on := 12, ground := Ground.phase }], guard := none })) (v := ?_) rfl (by kernel_rfl) (by kernel_rfl) (by kernel_rfl) (fun _ _ _ h => h) (Or.inl ⟨by rfl, ?_⟩) (by assumption) ?_
  rotate_left 1
  · (intro w9 hSw; (try dsimp only at hSw); go_simp; try with_reducible rfl)
  try simp only [Act.put, List.setIfInBounds_toArray, List.set_cons_zero, List.set_cons_succ]
  refine wpAnyH_done (by kernel_rfl) ?_ _
  go_wp2_with fail
  refine bodyPost_ret (results_two rfl _ h11 rfl rfl _ Tryd.underlying87 rfl info_gvn) rfl ⟨a, n, cp, rfl, ((HL.out.new (fr_new HF8.out hB)).base (Nat.zero_le _)).keep k11 (fun g o s e e1 => by have e2 := (HL.out.blk e).2; have e3 := HQ2.out; omega), onA_self _ _, fr_set (fr_new HF8.out hB) k11 HQ2.out.2.1⟩
set_option maxHeartbeats 8000000 in
set_option maxRecDepth 100000 in
theorem rg_flNA (hr : Bk w r (mapR a n cp e i)) (hl : RL w B a n cp L) (hn : n < 1000000) (he : 0 ≤ e ∧ e < 18446744073709551616) (hx : 0 ≤ x ∧ x < 18446744073709551616) (hk : key.size ≤ maxLen) (hv : v = 11) (hfl : flushes x = false) (hcm : comes e x = true) (hlk : mlook L key = some y) (hal : alivef y.gen y.dies x = true)  : Calls Tryd.prog 37 #[.pointer (some ⟨r, 0, none⟩), .agg (calC (⟨v, key, vl, fl, ex, id, by_⟩ : Cal)).toArray, .int .u64 x] w (rgvP w a (some (Mst.stay ⟨L, e, i⟩ x 5))) := by
  have HR := Lib.hid hr
  have HL := Lib.hid hl
  have HN := Lib.hid hn
  have HE := Lib.hid he
  have HX := Lib.hid hx
  have HK := Lib.hid hk
  have HCM := Lib.hid hcm
  have HLK := Lib.hid hlk
  have HAL := Lib.hid hal
  have HFL := Lib.hid hfl
  clear hr hl hn he hx hk hcm hlk hal hfl
  subst hv
  go_enter Tryd.func37, Tryd.ntmps37
  go_wp2_with (first
    | ((with_reducible refine at_wq ?_); refine wpList_box_bk rfl 35 (.tmp 1) rfl (calC (⟨11, key, vl, fl, ex, id, by_⟩ : Cal)) rfl ?_; intro W1 q4 h1)
    | ((with_reducible refine at_wq ?_); refine wpList_alloc_bk rfl 87 gvnZ alloc_gvn rfl ?_; intro W2 q6 h2; have HF2 := Lib.hid (fr_new h1.below h2.below); have HC2 := Lib.hid (h1.bk.new h2.below); have HG2 := Lib.hid h2.bk; have HQ2 := Lib.hid (show w.heap.size ≤ q4 ∧ w.heap.size ≤ q6 ∧ q4 ≠ q6 ∧ q4 < W2.heap.size ∧ q6 < W2.heap.size from ⟨by have e1 := h1.eq; omega, h2.at h1.below, by have e1 := h1.bk.lt; have e2 := h2.eq; omega, by have e1 := h1.bk.lt; have e2 := h2.below.size; omega, h2.bk.lt⟩); obtain ⟨y0, y1, y2, y3, y4, y5, y6⟩ := call_cells HC2.out; dsimp only at y0 y1 y2 y3 y4 y5 y6; clear h1 h2)
    | (go_at_call 49; refine (rComesw (HR.out.new HF2.out) x HE.out HX.out).mono ?_; rintro e1 Y ⟨rfl, rfl⟩; rw [HCM.out])
    | (go_at_call 14; refine (rAtw (HR.out.new HF2.out) (HL.out.new HF2.out) key).mono ?_; rintro e1 W3 ⟨rfl, b3⟩; unfold atV; rw [HLK.out]; simp only [Option.getD_some, Option.isSome_some]; have HF3 := Lib.hid (fr_new HF2.out b3); have HC3 := Lib.hid (HC2.out.new b3); have HG3 := Lib.hid (HG2.out.new b3); have HS3 := Lib.hid b3.size; clear b3 y0 y1 y2 y3 y4 y5 y6)
    | ((with_reducible refine at_wq ?_); refine wpList_alloc_bk rfl 38 (itC Itm.none) alloc_it rfl ?_; intro W4 q8 h4)
    | ((with_reducible refine at_wq ?_); refine wpList_store_bk rfl 38 (.tmp 8) (.tmp 35) rfl q8 0 (itC Itm.none) (itC y) (itC y) h4.bk (Nat.le_refl 6) rfl info_it (itC_one _) rfl rfl ?_; intro W5 h5 k5; have HQ := Lib.hid (show q8 ≠ q4 ∧ q8 ≠ q6 ∧ w.heap.size ≤ q8 from ⟨by have e1 := h4.eq; have e2 := HQ2.out; have e3 := HS3.out; omega, by have e1 := h4.eq; have e2 := HQ2.out; have e3 := HS3.out; omega, h4.at HF3.out⟩); have HF5 := Lib.hid (fr_set (fr_new HF3.out h4.below) k5 (h4.at HF3.out)); have HC5 := Lib.hid ((HC3.out.new h4.below).keep k5 (fun e => HQ.out.1 e.symm)); have HG5 := Lib.hid ((HG3.out.new h4.below).keep k5 (fun e => HQ.out.2.1 e.symm)); have HI5 := Lib.hid h5; obtain ⟨a0, a1, a2, a3, a4, a5⟩ := it_cells h5; clear h4 h5 k5)
    | (go_at_call 51; refine (ralive _ _ _ _ _ _ x _ HX.out.1 HX.out.2).mono ?_; rintro e1 W6 ⟨rfl, b6⟩; rw [HAL.out]; have HF6 := Lib.hid (fr_new HF5.out b6); have HC6 := Lib.hid (HC5.out.new b6); have HG6 := Lib.hid (HG5.out.new b6); have HI6 := Lib.hid (HI5.out.new b6); clear b6 a0 a1 a2 a3 a4 a5))
  have HRV := Lib.hid (HR.out.new HF6.out)
  have hB : Below W6.heap.size W6 W6.drew := (Below.refl _ _).drew
  have hB0 := hB
  have KEEP : Hid (∀ X, Below W6.heap.size W6 X → X.cell? ⟨r, 0, none⟩ = some (.slice a n cp) ∧ X.cell? ⟨r, 2, none⟩ = some (.int .u64 i)) := Lib.hid fun X hb => by
    obtain ⟨m0, m1, m2⟩ := map_cells (HRV.out.new hb)
    exact ⟨m0, m2⟩
  refine wp_region_held_drew (S := fun X => X.cell? ⟨r, 0, none⟩ = some (.slice a n cp) ∧ X.cell? ⟨r, 2, none⟩ = some (.int .u64 i)) (by kernel_rfl) (KEEP.out _ hB) (fun hHeld => ?_)
  refine wpAnyH_take (i := 0) (oi := ({ dst := some 43, op := Op.move (Operand.tmp 0), type := 27, pos := "ref.go:83", after := #[], guard := none })) (v := ?_) rfl (by kernel_rfl) (by kernel_rfl) (by kernel_rfl) (fun _ _ _ h => h) (Or.inl ⟨by rfl, ?_⟩) (by assumption) ?_
  rotate_left 1
  · (intro w9 hSw; (try dsimp only at hSw); go_simp; try with_reducible rfl)
  try simp only [Act.put, List.setIfInBounds_toArray, List.set_cons_zero, List.set_cons_succ]
  refine wpAnyH_take (i := 1) (oi := ({ dst := some 44, op := Op.nilCheck (Operand.tmp 43), type := 0, pos := "ref.go:83", after := #[{ on := 0, ground := Ground.data }], guard := none })) (v := ?_) rfl (by kernel_rfl) (by kernel_rfl) (by kernel_rfl) (fun _ _ _ h => h) (Or.inl ⟨by rfl, ?_⟩) (by assumption) ?_
  rotate_left 1
  · (intro w9 hSw; (try dsimp only at hSw); go_simp; try with_reducible rfl)
  try simp only [Act.put, List.setIfInBounds_toArray, List.set_cons_zero, List.set_cons_succ]
  refine wpAnyH_take (i := 2) (oi := ({ dst := some 45, op := Op.fieldAddr 31 (Operand.tmp 44) 0, type := 0, pos := "ref.go:83", after := #[{ on := 1, ground := Ground.data }], guard := none })) (v := ?_) rfl (by kernel_rfl) (by kernel_rfl) (by kernel_rfl) (fun _ _ _ h => h) (Or.inl ⟨by rfl, ?_⟩) (by assumption) ?_
  rotate_left 1
  · (intro w9 hSw; (try dsimp only at hSw); go_simp; try with_reducible rfl)
  try simp only [Act.put, List.setIfInBounds_toArray, List.set_cons_zero, List.set_cons_succ]
  refine wpAnyH_take (i := 3) (oi := ({ dst := some 46, op := Op.load 28 (Operand.tmp 45), type := 28, pos := "ref.go:83", after := #[{ on := 2, ground := Ground.data }], guard := none })) (v := ?_) rfl (by kernel_rfl) (by kernel_rfl) (by kernel_rfl) (fun _ _ _ h => h) (Or.inl ⟨by rfl, ?_⟩) (by assumption) ?_
  rotate_left 1
  · (intro w9 hSw; (try dsimp only at hSw); go_simp; try with_reducible rfl)
  try simp only [Act.put, List.setIfInBounds_toArray, List.set_cons_zero, List.set_cons_succ]
  refine wpAnyH_take (i := 4) (oi := ({ dst := some 47, op := Op.move (Operand.tmp 2), type := 29, pos := "ref.go:83", after := #[], guard := none })) (v := ?_) rfl (by kernel_rfl) (by kernel_rfl) (by kernel_rfl) (fun _ _ _ h => h) (Or.inl ⟨by rfl, ?_⟩) (by assumption) ?_
  rotate_left 1
  · (intro w9 hSw; (try dsimp only at hSw); go_simp; try with_reducible rfl)
  try simp only [Act.put, List.setIfInBounds_toArray, List.set_cons_zero, List.set_cons_succ]
  refine wpAnyH_take (i := 5) (oi := ({ dst := some 48, op := Op.move (Operand.tmp 0), type := 27, pos := "ref.go:83", after := #[], guard := none })) (v := ?_) rfl (by kernel_rfl) (by kernel_rfl) (by kernel_rfl) (fun _ _ _ h => h) (Or.inl ⟨by rfl, ?_⟩) (by assumption) ?_
  rotate_left 1
  · (intro w9 hSw; (try dsimp only at hSw); go_simp; try with_reducible rfl)
  try simp only [Act.put, List.setIfInBounds_toArray, List.set_cons_zero, List.set_cons_succ]
  refine wpAnyH_take (i := 6) (oi := ({ dst := some 49, op := Op.nilCheck (Operand.tmp 48), type := 0, pos := "ref.go:83", after := #[{ on := 5, ground := Ground.data }], guard := none })) (v := ?_) rfl (by kernel_rfl) (by kernel_rfl) (by kernel_rfl) (fun _ _ _ h => h) (Or.inl ⟨by rfl, ?_⟩) (by assumption) ?_
  rotate_left 1
  · (intro w9 hSw; (try dsimp only at hSw); go_simp; try with_reducible rfl)
  try simp only [Act.put, List.setIfInBounds_toArray, List.set_cons_zero, List.set_cons_succ]
  refine wpAnyH_take (i := 7) (oi := ({ dst := some 50, op := Op.fieldAddr 31 (Operand.tmp 49) 2, type := 0, pos := "ref.go:83", after := #[{ on := 6, ground := Ground.data }], guard := none })) (v := ?_) rfl (by kernel_rfl) (by kernel_rfl) (by kernel_rfl) (fun _ _ _ h => h) (Or.inl ⟨by rfl, ?_⟩) (by assumption) ?_
  rotate_left 1
  · (intro w9 hSw; (try dsimp only at hSw); go_simp; try with_reducible rfl)
  try simp only [Act.put, List.setIfInBounds_toArray, List.set_cons_zero, List.set_cons_succ]
  refine wpAnyH_take (i := 8) (oi := ({ dst := some 51, op := Op.load 29 (Operand.tmp 50), type := 29, pos := "ref.go:83", after := #[{ on := 7, ground := Ground.data }], guard := none })) (v := ?_) rfl (by kernel_rfl) (by kernel_rfl) (by kernel_rfl) (fun _ _ _ h => h) (Or.inl ⟨by rfl, ?_⟩) (by assumption) ?_
  rotate_left 1
  · (intro w9 hSw; (try dsimp only at hSw); go_simp; try with_reducible rfl)
  try simp only [Act.put, List.setIfInBounds_toArray, List.set_cons_zero, List.set_cons_succ]
  refine wpAnyH_take (i := 9) (oi := ({ dst := some 52, op := Op.build 31 #[(0, Operand.tmp 46), (1, Operand.tmp 47), (2, Operand.tmp 51)], type := 31, pos := "ref.go:83", after := #[{ on := 3, ground := Ground.data }, { on := 4, ground := Ground.data }, { on := 8, ground := Ground.data }], guard := none })) (v := ?_) rfl (by kernel_rfl) (by kernel_rfl) (by kernel_rfl) (fun _ _ _ h => h) (Or.inl ⟨by rfl, ?_⟩) (by assumption) ?_
  rotate_left 1
  · (intro w9 hSw; (try dsimp only at hSw); go_simp; try with_reducible rfl)
  try simp only [Act.put, List.setIfInBounds_toArray, List.set_cons_zero, List.set_cons_succ]
  refine wpAnyH_ready (rs := [10]) (by kernel_rfl) (by simp) ?_
  refine AllReadyH.cons (o := ({ dst := some 11, op := Op.alloc 31, type := 0, pos := "ref.go:83", after := #[], guard := none })) rfl (fun K hK => ?_) AllReadyH.nil
  refine step_alloc_bk rfl 31 (mapR none 0 0 0 0) alloc_rm rfl ?_
  intro W7 q11 h7
  replace hB := fr_new hB h7.below
  refine hK.out _ _ (KEEP.out _ hB) (fun hHeld => ?_)
  clear hK K
  try simp only [Act.put, List.setIfInBounds_toArray, List.set_cons_zero, List.set_cons_succ]
  refine wpAnyH_ready (rs := [11]) (by kernel_rfl) (by simp) ?_
  refine AllReadyH.cons (o := ({ dst := none, op := Op.store 31 (Operand.tmp 11) (Operand.tmp 52), type := 0, pos := "ref.go:83", after := #[{ on := 10, ground := Ground.data }, { on := 9, ground := Ground.data }, { on := 0, ground := Ground.phase }, { on := 1, ground := Ground.phase }, { on := 2, ground := Ground.phase }, { on := 3, ground := Ground.phase }, { on := 4, ground := Ground.phase }, { on := 5, ground := Ground.phase }, { on := 6, ground := Ground.phase }, { on := 7, ground := Ground.phase }, { on := 8, ground := Ground.phase }, { on := 9, ground := Ground.phase }, { on := 10, ground := Ground.phase }], guard := none })) rfl (fun K hK => ?_) AllReadyH.nil
  refine step_store_bk rfl 31 (.tmp 11) (.tmp 52) rfl q11 0 (mapR none 0 0 0 0) (mapR a n cp x i) (mapR a n cp x i) h7.bk (Nat.le_refl 3) rfl info_rm (mapR_one _ _ _ _ _) rfl rfl ?_
  intro W8 h8 k8
  replace hB := fr_set hB k8 (h7.at hB0)
  refine hK.out _ _ (KEEP.out _ hB) (fun hHeld => ?_)
  clear hK K
  try simp only [Act.put]
  refine wpAnyH_done (by kernel_rfl) ?_ _
  have HF8 := Lib.hid (fr_new HF6.out hB)
  have HC8 := Lib.hid (HC6.out.new hB)
  have HG8 := Lib.hid (HG6.out.new hB)
  have HI8 := Lib.hid (HI6.out.new hB)
  have HR8 := Lib.hid (HR.out.new HF8.out)
  have HL8 := Lib.hid (HL.out.new HF8.out)
  obtain ⟨y0, y1, y2, y3, y4, y5, y6⟩ := call_cells HC8.out; dsimp only at y0 y1 y2 y3 y4 y5 y6
  obtain ⟨a0, a1, a2, a3, a4, a5⟩ := it_cells HI8.out
  obtain ⟨m0, m1, m2⟩ := map_cells h8
  clear hB hB0 h7 h8 k8 hHeld
  have HS8 := Lib.hid (show q6 < W8.heap.size from HG8.out.lt)
  go_wp2_with (first
    | (go_at_call 53; refine (rflush x ex _ HX.out.1 HX.out.2).mono ?_; rintro e1 Y ⟨rfl, rfl⟩; rw [HFL.out])
    | (go_at_call 52; refine (rsaysw 5 a n cp x i _).mono ?_; rintro e1 W9 ⟨rfl, b9⟩; clear y0 y1 y2 y3 y4 y5 y6 a0 a1 a2 a3 a4 a5 m0 m1 m2)
    | ((with_reducible refine at_wq ?_); refine wpList_store_bk rfl 87 (.tmp 6) (.tmp 115) rfl q6 0 gvnZ (gvnC (Ans.of 5) a n cp x i false) (gvnC (Ans.of 5) a n cp x i false) (HG8.out.new b9) (Nat.le_refl 12) rfl info_gvn (gvnC_one _ _ _ _ _ _ _) rfl rfl ?_; intro W11 h11 k11))
  refine bodyPost_ret (results_two rfl _ h11 rfl rfl _ Tryd.underlying87 rfl info_gvn) rfl ⟨a, n, cp, rfl, ((HL.out.new (fr_new HF8.out b9)).base (Nat.zero_le _)).keep k11 (fun g o s e e1 => by have e2 := (HL.out.blk e).2; have e3 := HQ2.out; omega), onA_self _ _, fr_set (fr_new HF8.out b9) k11 HQ2.out.2.1⟩
set_option maxHeartbeats 8000000 in
set_option maxRecDepth 100000 in
theorem rg_defN (hr : Bk w r (mapR a n cp e i)) (hl : RL w B a n cp L) (hn : n < 1000000) (he : 0 ≤ e ∧ e < 18446744073709551616) (hx : 0 ≤ x ∧ x < 18446744073709551616) (hk : key.size ≤ maxLen) (hv : ¬ (1 ≤ v ∧ v ≤ 11)) (hcm : comes e x = true) (hok : okB key = true) (hlk : mlook L key = none)  : Calls Tryd.prog 37 #[.pointer (some ⟨r, 0, none⟩), .agg (calC (⟨v, key, vl, fl, ex, id, by_⟩ : Cal)).toArray, .int .u64 x] w (rgvP w a (Option.none)) := by
  have HR := Lib.hid hr
  have HL := Lib.hid hl
  have HN := Lib.hid hn
  have HE := Lib.hid he
  have HX := Lib.hid hx
  have HK := Lib.hid hk
  have HCM := Lib.hid hcm
  have HLK := Lib.hid hlk
  have HOK := Lib.hid (show ((lookF key.data.toList).1 == 0) = true from hok)
  clear hr hl hn he hx hk hcm hlk hok
  have v1 : (v == 1) = false := by simp; omega
  have v2 : (v == 2) = false := by simp; omega
  have v3 : (v == 3) = false := by simp; omega
  have v4 : (v == 4) = false := by simp; omega
  have v5 : (v == 5) = false := by simp; omega
  have v6 : (v == 6) = false := by simp; omega
  have v7 : (v == 7) = false := by simp; omega
  have v8 : (v == 8) = false := by simp; omega
  have v9 : (v == 9) = false := by simp; omega
  have v10 : (v == 10) = false := by simp; omega
  have v11 : (v == 11) = false := by simp; omega
  have u11 : (v != 11) = true := bne_iff_ne.mpr (by omega)
  clear hv
  go_enter Tryd.func37, Tryd.ntmps37
  go_wp2_with (first
    | ((with_reducible refine at_wq ?_); refine wpList_box_bk rfl 35 (.tmp 1) rfl (calC (⟨v, key, vl, fl, ex, id, by_⟩ : Cal)) rfl ?_; intro W1 q4 h1)
    | ((with_reducible refine at_wq ?_); refine wpList_alloc_bk rfl 87 gvnZ alloc_gvn rfl ?_; intro W2 q6 h2; have HF2 := Lib.hid (fr_new h1.below h2.below); have HC2 := Lib.hid (h1.bk.new h2.below); have HG2 := Lib.hid h2.bk; have HQ2 := Lib.hid (show w.heap.size ≤ q4 ∧ w.heap.size ≤ q6 ∧ q4 ≠ q6 ∧ q4 < W2.heap.size ∧ q6 < W2.heap.size from ⟨by have e1 := h1.eq; omega, h2.at h1.below, by have e1 := h1.bk.lt; have e2 := h2.eq; omega, by have e1 := h1.bk.lt; have e2 := h2.below.size; omega, h2.bk.lt⟩); obtain ⟨y0, y1, y2, y3, y4, y5, y6⟩ := call_cells HC2.out; dsimp only at y0 y1 y2 y3 y4 y5 y6; clear h1 h2)
    | (go_at_call 49; refine (rComesw (HR.out.new HF2.out) x HE.out HX.out).mono ?_; rintro e1 Y ⟨rfl, rfl⟩; rw [HCM.out])
    | (go_at_call 50; refine (refokw key _ HK.out).mono ?_; rintro e1 Y ⟨rfl, rfl⟩; rw [HOK.out])
    | (go_at_call 14; refine (rAtw (HR.out.new HF2.out) (HL.out.new HF2.out) key).mono ?_; rintro e1 W3 ⟨rfl, b3⟩; unfold atV; rw [HLK.out]; simp only [Option.getD_none, Option.isSome_none]; have HF3 := Lib.hid (fr_new HF2.out b3); have HC3 := Lib.hid (HC2.out.new b3); have HG3 := Lib.hid (HG2.out.new b3); have HS3 := Lib.hid b3.size; clear b3 y0 y1 y2 y3 y4 y5 y6)
    | ((with_reducible refine at_wq ?_); refine wpList_alloc_bk rfl 38 (itC Itm.none) alloc_it rfl ?_; intro W4 q8 h4)
    | ((with_reducible refine at_wq ?_); refine wpList_store_bk rfl 38 (.tmp 8) (.tmp 35) rfl q8 0 (itC Itm.none) (itC Itm.none) (itC Itm.none) h4.bk (Nat.le_refl 6) rfl info_it (itC_one _) rfl rfl ?_; intro W5 h5 k5; have HQ := Lib.hid (show q8 ≠ q4 ∧ q8 ≠ q6 ∧ w.heap.size ≤ q8 from ⟨by have e1 := h4.eq; have e2 := HQ2.out; have e3 := HS3.out; omega, by have e1 := h4.eq; have e2 := HQ2.out; have e3 := HS3.out; omega, h4.at HF3.out⟩); have HF5 := Lib.hid (fr_set (fr_new HF3.out h4.below) k5 (h4.at HF3.out)); have HC5 := Lib.hid ((HC3.out.new h4.below).keep k5 (fun e => HQ.out.1 e.symm)); have HG5 := Lib.hid ((HG3.out.new h4.below).keep k5 (fun e => HQ.out.2.1 e.symm)); have HI5 := Lib.hid h5; obtain ⟨a0, a1, a2, a3, a4, a5⟩ := it_cells h5; clear h4 h5 k5))
  have HRV := Lib.hid (HR.out.new HF5.out)
  have hB : Below W5.heap.size W5 W5.drew := (Below.refl _ _).drew
  have hB0 := hB
  have KEEP : Hid (∀ X, Below W5.heap.size W5 X → X.cell? ⟨r, 0, none⟩ = some (.slice a n cp) ∧ X.cell? ⟨r, 2, none⟩ = some (.int .u64 i)) := Lib.hid fun X hb => by
    obtain ⟨m0, m1, m2⟩ := map_cells (HRV.out.new hb)
    exact ⟨m0, m2⟩
  refine wp_region_held_drew (S := fun X => X.cell? ⟨r, 0, none⟩ = some (.slice a n cp) ∧ X.cell? ⟨r, 2, none⟩ = some (.int .u64 i)) (by kernel_rfl) (KEEP.out _ hB) (fun hHeld => ?_)
  refine wpAnyH_take (i := 0) (oi := ({ dst := some 43, op := Op.move (Operand.tmp 0), type := 27, pos := "ref.go:83", after := #[], guard := none })) (v := ?_) rfl (by kernel_rfl) (by kernel_rfl) (by kernel_rfl) (fun _ _ _ h => h) (Or.inl ⟨by rfl, ?_⟩) (by assumption) ?_
  rotate_left 1
  · (intro w9 hSw; (try dsimp only at hSw); go_simp; try with_reducible rfl)
  try simp only [Act.put, List.setIfInBounds_toArray, List.set_cons_zero, List.set_cons_succ]
  refine wpAnyH_take (i := 1) (oi := ({ dst := some 44, op := Op.nilCheck (Operand.tmp 43), type := 0, pos := "ref.go:83", after := #[{ on := 0, ground := Ground.data }], guard := none })) (v := ?_) rfl (by kernel_rfl) (by kernel_rfl) (by kernel_rfl) (fun _ _ _ h => h) (Or.inl ⟨by rfl, ?_⟩) (by assumption) ?_
  rotate_left 1
  · (intro w9 hSw; (try dsimp only at hSw); go_simp; try with_reducible rfl)
  try simp only [Act.put, List.setIfInBounds_toArray, List.set_cons_zero, List.set_cons_succ]
  refine wpAnyH_take (i := 2) (oi := ({ dst := some 45, op := Op.fieldAddr 31 (Operand.tmp 44) 0, type := 0, pos := "ref.go:83", after := #[{ on := 1, ground := Ground.data }], guard := none })) (v := ?_) rfl (by kernel_rfl) (by kernel_rfl) (by kernel_rfl) (fun _ _ _ h => h) (Or.inl ⟨by rfl, ?_⟩) (by assumption) ?_
  rotate_left 1
  · (intro w9 hSw; (try dsimp only at hSw); go_simp; try with_reducible rfl)
  try simp only [Act.put, List.setIfInBounds_toArray, List.set_cons_zero, List.set_cons_succ]
  refine wpAnyH_take (i := 3) (oi := ({ dst := some 46, op := Op.load 28 (Operand.tmp 45), type := 28, pos := "ref.go:83", after := #[{ on := 2, ground := Ground.data }], guard := none })) (v := ?_) rfl (by kernel_rfl) (by kernel_rfl) (by kernel_rfl) (fun _ _ _ h => h) (Or.inl ⟨by rfl, ?_⟩) (by assumption) ?_
  rotate_left 1
  · (intro w9 hSw; (try dsimp only at hSw); go_simp; try with_reducible rfl)
  try simp only [Act.put, List.setIfInBounds_toArray, List.set_cons_zero, List.set_cons_succ]
  refine wpAnyH_take (i := 4) (oi := ({ dst := some 47, op := Op.move (Operand.tmp 2), type := 29, pos := "ref.go:83", after := #[], guard := none })) (v := ?_) rfl (by kernel_rfl) (by kernel_rfl) (by kernel_rfl) (fun _ _ _ h => h) (Or.inl ⟨by rfl, ?_⟩) (by assumption) ?_
  rotate_left 1
  · (intro w9 hSw; (try dsimp only at hSw); go_simp; try with_reducible rfl)
  try simp only [Act.put, List.setIfInBounds_toArray, List.set_cons_zero, List.set_cons_succ]
  refine wpAnyH_take (i := 5) (oi := ({ dst := some 48, op := Op.move (Operand.tmp 0), type := 27, pos := "ref.go:83", after := #[], guard := none })) (v := ?_) rfl (by kernel_rfl) (by kernel_rfl) (by kernel_rfl) (fun _ _ _ h => h) (Or.inl ⟨by rfl, ?_⟩) (by assumption) ?_
  rotate_left 1
  · (intro w9 hSw; (try dsimp only at hSw); go_simp; try with_reducible rfl)
  try simp only [Act.put, List.setIfInBounds_toArray, List.set_cons_zero, List.set_cons_succ]
  refine wpAnyH_take (i := 6) (oi := ({ dst := some 49, op := Op.nilCheck (Operand.tmp 48), type := 0, pos := "ref.go:83", after := #[{ on := 5, ground := Ground.data }], guard := none })) (v := ?_) rfl (by kernel_rfl) (by kernel_rfl) (by kernel_rfl) (fun _ _ _ h => h) (Or.inl ⟨by rfl, ?_⟩) (by assumption) ?_
  rotate_left 1
  · (intro w9 hSw; (try dsimp only at hSw); go_simp; try with_reducible rfl)
  try simp only [Act.put, List.setIfInBounds_toArray, List.set_cons_zero, List.set_cons_succ]
  refine wpAnyH_take (i := 7) (oi := ({ dst := some 50, op := Op.fieldAddr 31 (Operand.tmp 49) 2, type := 0, pos := "ref.go:83", after := #[{ on := 6, ground := Ground.data }], guard := none })) (v := ?_) rfl (by kernel_rfl) (by kernel_rfl) (by kernel_rfl) (fun _ _ _ h => h) (Or.inl ⟨by rfl, ?_⟩) (by assumption) ?_
  rotate_left 1
  · (intro w9 hSw; (try dsimp only at hSw); go_simp; try with_reducible rfl)
  try simp only [Act.put, List.setIfInBounds_toArray, List.set_cons_zero, List.set_cons_succ]
  refine wpAnyH_take (i := 8) (oi := ({ dst := some 51, op := Op.load 29 (Operand.tmp 50), type := 29, pos := "ref.go:83", after := #[{ on := 7, ground := Ground.data }], guard := none })) (v := ?_) rfl (by kernel_rfl) (by kernel_rfl) (by kernel_rfl) (fun _ _ _ h => h) (Or.inl ⟨by rfl, ?_⟩) (by assumption) ?_
  rotate_left 1
  · (intro w9 hSw; (try dsimp only at hSw); go_simp; try with_reducible rfl)
  try simp only [Act.put, List.setIfInBounds_toArray, List.set_cons_zero, List.set_cons_succ]
  refine wpAnyH_take (i := 9) (oi := ({ dst := some 52, op := Op.build 31 #[(0, Operand.tmp 46), (1, Operand.tmp 47), (2, Operand.tmp 51)], type := 31, pos := "ref.go:83", after := #[{ on := 3, ground := Ground.data }, { on := 4, ground := Ground.data }, { on := 8, ground := Ground.data }], guard := none })) (v := ?_) rfl (by kernel_rfl) (by kernel_rfl) (by kernel_rfl) (fun _ _ _ h => h) (Or.inl ⟨by rfl, ?_⟩) (by assumption) ?_
  rotate_left 1
  · (intro w9 hSw; (try dsimp only at hSw); go_simp; try with_reducible rfl)
  try simp only [Act.put, List.setIfInBounds_toArray, List.set_cons_zero, List.set_cons_succ]
  refine wpAnyH_ready (rs := [10]) (by kernel_rfl) (by simp) ?_
  refine AllReadyH.cons (o := ({ dst := some 11, op := Op.alloc 31, type := 0, pos := "ref.go:83", after := #[], guard := none })) rfl (fun K hK => ?_) AllReadyH.nil
  refine step_alloc_bk rfl 31 (mapR none 0 0 0 0) alloc_rm rfl ?_
  intro W7 q11 h7
  replace hB := fr_new hB h7.below
  refine hK.out _ _ (KEEP.out _ hB) (fun hHeld => ?_)
  clear hK K
  try simp only [Act.put, List.setIfInBounds_toArray, List.set_cons_zero, List.set_cons_succ]
  refine wpAnyH_ready (rs := [11]) (by kernel_rfl) (by simp) ?_
  refine AllReadyH.cons (o := ({ dst := none, op := Op.store 31 (Operand.tmp 11) (Operand.tmp 52), type := 0, pos := "ref.go:83", after := #[{ on := 10, ground := Ground.data }, { on := 9, ground := Ground.data }, { on := 0, ground := Ground.phase }, { on := 1, ground := Ground.phase }, { on := 2, ground := Ground.phase }, { on := 3, ground := Ground.phase }, { on := 4, ground := Ground.phase }, { on := 5, ground := Ground.phase }, { on := 6, ground := Ground.phase }, { on := 7, ground := Ground.phase }, { on := 8, ground := Ground.phase }, { on := 9, ground := Ground.phase }, { on := 10, ground := Ground.phase }], guard := none })) rfl (fun K hK => ?_) AllReadyH.nil
  refine step_store_bk rfl 31 (.tmp 11) (.tmp 52) rfl q11 0 (mapR none 0 0 0 0) (mapR a n cp x i) (mapR a n cp x i) h7.bk (Nat.le_refl 3) rfl info_rm (mapR_one _ _ _ _ _) rfl rfl ?_
  intro W8 h8 k8
  replace hB := fr_set hB k8 (h7.at hB0)
  refine hK.out _ _ (KEEP.out _ hB) (fun hHeld => ?_)
  clear hK K
  try simp only [Act.put]
  refine wpAnyH_done (by kernel_rfl) ?_ _
  have HF8 := Lib.hid (fr_new HF5.out hB)
  have HC8 := Lib.hid (HC5.out.new hB)
  have HG8 := Lib.hid (HG5.out.new hB)
  have HI8 := Lib.hid (HI5.out.new hB)
  have HR8 := Lib.hid (HR.out.new HF8.out)
  have HL8 := Lib.hid (HL.out.new HF8.out)
  obtain ⟨y0, y1, y2, y3, y4, y5, y6⟩ := call_cells HC8.out; dsimp only at y0 y1 y2 y3 y4 y5 y6
  obtain ⟨a0, a1, a2, a3, a4, a5⟩ := it_cells HI8.out
  obtain ⟨m0, m1, m2⟩ := map_cells h8
  clear hB hB0 h7 h8 k8 hHeld
  have HS8 := Lib.hid (show q6 < W8.heap.size from HG8.out.lt)
  go_wp2_with (first
    | ((with_reducible refine at_wq ?_); refine wpList_store_bk rfl 87 (.tmp 6) (.tmp 55) rfl q6 0 gvnZ (gvnC Ans.none none 0 0 0 0 false) (gvnC Ans.none none 0 0 0 0 false) HG8.out (Nat.le_refl 12) rfl info_gvn (gvnC_one _ _ _ _ _ _ _) rfl rfl ?_; intro W11 h11 k11))
  refine bodyPost_ret (results_two rfl _ h11 rfl rfl _ Tryd.underlying87 rfl info_gvn) rfl ⟨none, 0, 0, rfl, RL.nil, onA_nil _ _, fr_set HF8.out k11 HQ2.out.2.1⟩
set_option maxHeartbeats 8000000 in
set_option maxRecDepth 100000 in
theorem rg_defD (hr : Bk w r (mapR a n cp e i)) (hl : RL w B a n cp L) (hn : n < 1000000) (he : 0 ≤ e ∧ e < 18446744073709551616) (hx : 0 ≤ x ∧ x < 18446744073709551616) (hk : key.size ≤ maxLen) (hv : ¬ (1 ≤ v ∧ v ≤ 11)) (hcm : comes e x = true) (hok : okB key = true) (hlk : mlook L key = some y) (hal : alivef y.gen y.dies x = false)  : Calls Tryd.prog 37 #[.pointer (some ⟨r, 0, none⟩), .agg (calC (⟨v, key, vl, fl, ex, id, by_⟩ : Cal)).toArray, .int .u64 x] w (rgvP w a (Option.none)) := by
  have HR := Lib.hid hr
  have HL := Lib.hid hl
  have HN := Lib.hid hn
  have HE := Lib.hid he
  have HX := Lib.hid hx
  have HK := Lib.hid hk
  have HCM := Lib.hid hcm
  have HLK := Lib.hid hlk
  have HOK := Lib.hid (show ((lookF key.data.toList).1 == 0) = true from hok)
  have HAL := Lib.hid hal
  clear hr hl hn he hx hk hcm hlk hok hal
  have v1 : (v == 1) = false := by simp; omega
  have v2 : (v == 2) = false := by simp; omega
  have v3 : (v == 3) = false := by simp; omega
  have v4 : (v == 4) = false := by simp; omega
  have v5 : (v == 5) = false := by simp; omega
  have v6 : (v == 6) = false := by simp; omega
  have v7 : (v == 7) = false := by simp; omega
  have v8 : (v == 8) = false := by simp; omega
  have v9 : (v == 9) = false := by simp; omega
  have v10 : (v == 10) = false := by simp; omega
  have v11 : (v == 11) = false := by simp; omega
  have u11 : (v != 11) = true := bne_iff_ne.mpr (by omega)
  clear hv
  go_enter Tryd.func37, Tryd.ntmps37
  go_wp2_with (first
    | ((with_reducible refine at_wq ?_); refine wpList_box_bk rfl 35 (.tmp 1) rfl (calC (⟨v, key, vl, fl, ex, id, by_⟩ : Cal)) rfl ?_; intro W1 q4 h1)
    | ((with_reducible refine at_wq ?_); refine wpList_alloc_bk rfl 87 gvnZ alloc_gvn rfl ?_; intro W2 q6 h2; have HF2 := Lib.hid (fr_new h1.below h2.below); have HC2 := Lib.hid (h1.bk.new h2.below); have HG2 := Lib.hid h2.bk; have HQ2 := Lib.hid (show w.heap.size ≤ q4 ∧ w.heap.size ≤ q6 ∧ q4 ≠ q6 ∧ q4 < W2.heap.size ∧ q6 < W2.heap.size from ⟨by have e1 := h1.eq; omega, h2.at h1.below, by have e1 := h1.bk.lt; have e2 := h2.eq; omega, by have e1 := h1.bk.lt; have e2 := h2.below.size; omega, h2.bk.lt⟩); obtain ⟨y0, y1, y2, y3, y4, y5, y6⟩ := call_cells HC2.out; dsimp only at y0 y1 y2 y3 y4 y5 y6; clear h1 h2)
    | (go_at_call 49; refine (rComesw (HR.out.new HF2.out) x HE.out HX.out).mono ?_; rintro e1 Y ⟨rfl, rfl⟩; rw [HCM.out])
    | (go_at_call 50; refine (refokw key _ HK.out).mono ?_; rintro e1 Y ⟨rfl, rfl⟩; rw [HOK.out])
    | (go_at_call 14; refine (rAtw (HR.out.new HF2.out) (HL.out.new HF2.out) key).mono ?_; rintro e1 W3 ⟨rfl, b3⟩; unfold atV; rw [HLK.out]; simp only [Option.getD_some, Option.isSome_some]; have HF3 := Lib.hid (fr_new HF2.out b3); have HC3 := Lib.hid (HC2.out.new b3); have HG3 := Lib.hid (HG2.out.new b3); have HS3 := Lib.hid b3.size; clear b3 y0 y1 y2 y3 y4 y5 y6)
    | ((with_reducible refine at_wq ?_); refine wpList_alloc_bk rfl 38 (itC Itm.none) alloc_it rfl ?_; intro W4 q8 h4)
    | ((with_reducible refine at_wq ?_); refine wpList_store_bk rfl 38 (.tmp 8) (.tmp 35) rfl q8 0 (itC Itm.none) (itC y) (itC y) h4.bk (Nat.le_refl 6) rfl info_it (itC_one _) rfl rfl ?_; intro W5 h5 k5; have HQ := Lib.hid (show q8 ≠ q4 ∧ q8 ≠ q6 ∧ w.heap.size ≤ q8 from ⟨by have e1 := h4.eq; have e2 := HQ2.out; have e3 := HS3.out; omega, by have e1 := h4.eq; have e2 := HQ2.out; have e3 := HS3.out; omega, h4.at HF3.out⟩); have HF5 := Lib.hid (fr_set (fr_new HF3.out h4.below) k5 (h4.at HF3.out)); have HC5 := Lib.hid ((HC3.out.new h4.below).keep k5 (fun e => HQ.out.1 e.symm)); have HG5 := Lib.hid ((HG3.out.new h4.below).keep k5 (fun e => HQ.out.2.1 e.symm)); have HI5 := Lib.hid h5; obtain ⟨a0, a1, a2, a3, a4, a5⟩ := it_cells h5; clear h4 h5 k5)
    | (go_at_call 51; refine (ralive _ _ _ _ _ _ x _ HX.out.1 HX.out.2).mono ?_; rintro e1 W6 ⟨rfl, b6⟩; rw [HAL.out]; have HF6 := Lib.hid (fr_new HF5.out b6); have HC6 := Lib.hid (HC5.out.new b6); have HG6 := Lib.hid (HG5.out.new b6); have HI6 := Lib.hid (HI5.out.new b6); clear b6 a0 a1 a2 a3 a4 a5))
  have HRV := Lib.hid (HR.out.new HF6.out)
  have hB : Below W6.heap.size W6 W6.drew := (Below.refl _ _).drew
  have hB0 := hB
  have KEEP : Hid (∀ X, Below W6.heap.size W6 X → X.cell? ⟨r, 0, none⟩ = some (.slice a n cp) ∧ X.cell? ⟨r, 2, none⟩ = some (.int .u64 i)) := Lib.hid fun X hb => by
    obtain ⟨m0, m1, m2⟩ := map_cells (HRV.out.new hb)
    exact ⟨m0, m2⟩
  refine wp_region_held_drew (S := fun X => X.cell? ⟨r, 0, none⟩ = some (.slice a n cp) ∧ X.cell? ⟨r, 2, none⟩ = some (.int .u64 i)) (by kernel_rfl) (KEEP.out _ hB) (fun hHeld => ?_)
  refine wpAnyH_take (i := 0) (oi := ({ dst := some 43, op := Op.move (Operand.tmp 0), type := 27, pos := "ref.go:83", after := #[], guard := none })) (v := ?_) rfl (by kernel_rfl) (by kernel_rfl) (by kernel_rfl) (fun _ _ _ h => h) (Or.inl ⟨by rfl, ?_⟩) (by assumption) ?_
  rotate_left 1
  · (intro w9 hSw; (try dsimp only at hSw); go_simp; try with_reducible rfl)
  try simp only [Act.put, List.setIfInBounds_toArray, List.set_cons_zero, List.set_cons_succ]
  refine wpAnyH_take (i := 1) (oi := ({ dst := some 44, op := Op.nilCheck (Operand.tmp 43), type := 0, pos := "ref.go:83", after := #[{ on := 0, ground := Ground.data }], guard := none })) (v := ?_) rfl (by kernel_rfl) (by kernel_rfl) (by kernel_rfl) (fun _ _ _ h => h) (Or.inl ⟨by rfl, ?_⟩) (by assumption) ?_
  rotate_left 1
  · (intro w9 hSw; (try dsimp only at hSw); go_simp; try with_reducible rfl)
  try simp only [Act.put, List.setIfInBounds_toArray, List.set_cons_zero, List.set_cons_succ]
  refine wpAnyH_take (i := 2) (oi := ({ dst := some 45, op := Op.fieldAddr 31 (Operand.tmp 44) 0, type := 0, pos := "ref.go:83", after := #[{ on := 1, ground := Ground.data }], guard := none })) (v := ?_) rfl (by kernel_rfl) (by kernel_rfl) (by kernel_rfl) (fun _ _ _ h => h) (Or.inl ⟨by rfl, ?_⟩) (by assumption) ?_
  rotate_left 1
  · (intro w9 hSw; (try dsimp only at hSw); go_simp; try with_reducible rfl)
  try simp only [Act.put, List.setIfInBounds_toArray, List.set_cons_zero, List.set_cons_succ]
  refine wpAnyH_take (i := 3) (oi := ({ dst := some 46, op := Op.load 28 (Operand.tmp 45), type := 28, pos := "ref.go:83", after := #[{ on := 2, ground := Ground.data }], guard := none })) (v := ?_) rfl (by kernel_rfl) (by kernel_rfl) (by kernel_rfl) (fun _ _ _ h => h) (Or.inl ⟨by rfl, ?_⟩) (by assumption) ?_
  rotate_left 1
  · (intro w9 hSw; (try dsimp only at hSw); go_simp; try with_reducible rfl)
  try simp only [Act.put, List.setIfInBounds_toArray, List.set_cons_zero, List.set_cons_succ]
  refine wpAnyH_take (i := 4) (oi := ({ dst := some 47, op := Op.move (Operand.tmp 2), type := 29, pos := "ref.go:83", after := #[], guard := none })) (v := ?_) rfl (by kernel_rfl) (by kernel_rfl) (by kernel_rfl) (fun _ _ _ h => h) (Or.inl ⟨by rfl, ?_⟩) (by assumption) ?_
  rotate_left 1
  · (intro w9 hSw; (try dsimp only at hSw); go_simp; try with_reducible rfl)
  try simp only [Act.put, List.setIfInBounds_toArray, List.set_cons_zero, List.set_cons_succ]
  refine wpAnyH_take (i := 5) (oi := ({ dst := some 48, op := Op.move (Operand.tmp 0), type := 27, pos := "ref.go:83", after := #[], guard := none })) (v := ?_) rfl (by kernel_rfl) (by kernel_rfl) (by kernel_rfl) (fun _ _ _ h => h) (Or.inl ⟨by rfl, ?_⟩) (by assumption) ?_
  rotate_left 1
  · (intro w9 hSw; (try dsimp only at hSw); go_simp; try with_reducible rfl)
  try simp only [Act.put, List.setIfInBounds_toArray, List.set_cons_zero, List.set_cons_succ]
  refine wpAnyH_take (i := 6) (oi := ({ dst := some 49, op := Op.nilCheck (Operand.tmp 48), type := 0, pos := "ref.go:83", after := #[{ on := 5, ground := Ground.data }], guard := none })) (v := ?_) rfl (by kernel_rfl) (by kernel_rfl) (by kernel_rfl) (fun _ _ _ h => h) (Or.inl ⟨by rfl, ?_⟩) (by assumption) ?_
  rotate_left 1
  · (intro w9 hSw; (try dsimp only at hSw); go_simp; try with_reducible rfl)
  try simp only [Act.put, List.setIfInBounds_toArray, List.set_cons_zero, List.set_cons_succ]
  refine wpAnyH_take (i := 7) (oi := ({ dst := some 50, op := Op.fieldAddr 31 (Operand.tmp 49) 2, type := 0, pos := "ref.go:83", after := #[{ on := 6, ground := Ground.data }], guard := none })) (v := ?_) rfl (by kernel_rfl) (by kernel_rfl) (by kernel_rfl) (fun _ _ _ h => h) (Or.inl ⟨by rfl, ?_⟩) (by assumption) ?_
  rotate_left 1
  · (intro w9 hSw; (try dsimp only at hSw); go_simp; try with_reducible rfl)
  try simp only [Act.put, List.setIfInBounds_toArray, List.set_cons_zero, List.set_cons_succ]
  refine wpAnyH_take (i := 8) (oi := ({ dst := some 51, op := Op.load 29 (Operand.tmp 50), type := 29, pos := "ref.go:83", after := #[{ on := 7, ground := Ground.data }], guard := none })) (v := ?_) rfl (by kernel_rfl) (by kernel_rfl) (by kernel_rfl) (fun _ _ _ h => h) (Or.inl ⟨by rfl, ?_⟩) (by assumption) ?_
  rotate_left 1
  · (intro w9 hSw; (try dsimp only at hSw); go_simp; try with_reducible rfl)
  try simp only [Act.put, List.setIfInBounds_toArray, List.set_cons_zero, List.set_cons_succ]
  refine wpAnyH_take (i := 9) (oi := ({ dst := some 52, op := Op.build 31 #[(0, Operand.tmp 46), (1, Operand.tmp 47), (2, Operand.tmp 51)], type := 31, pos := "ref.go:83", after := #[{ on := 3, ground := Ground.data }, { on := 4, ground := Ground.data }, { on := 8, ground := Ground.data }], guard := none })) (v := ?_) rfl (by kernel_rfl) (by kernel_rfl) (by kernel_rfl) (fun _ _ _ h => h) (Or.inl ⟨by rfl, ?_⟩) (by assumption) ?_
  rotate_left 1
  · (intro w9 hSw; (try dsimp only at hSw); go_simp; try with_reducible rfl)
  try simp only [Act.put, List.setIfInBounds_toArray, List.set_cons_zero, List.set_cons_succ]
  refine wpAnyH_ready (rs := [10]) (by kernel_rfl) (by simp) ?_
  refine AllReadyH.cons (o := ({ dst := some 11, op := Op.alloc 31, type := 0, pos := "ref.go:83", after := #[], guard := none })) rfl (fun K hK => ?_) AllReadyH.nil
  refine step_alloc_bk rfl 31 (mapR none 0 0 0 0) alloc_rm rfl ?_
  intro W7 q11 h7
  replace hB := fr_new hB h7.below
  refine hK.out _ _ (KEEP.out _ hB) (fun hHeld => ?_)
  clear hK K
  try simp only [Act.put, List.setIfInBounds_toArray, List.set_cons_zero, List.set_cons_succ]
  refine wpAnyH_ready (rs := [11]) (by kernel_rfl) (by simp) ?_
  refine AllReadyH.cons (o := ({ dst := none, op := Op.store 31 (Operand.tmp 11) (Operand.tmp 52), type := 0, pos := "ref.go:83", after := #[{ on := 10, ground := Ground.data }, { on := 9, ground := Ground.data }, { on := 0, ground := Ground.phase }, { on := 1, ground := Ground.phase }, { on := 2, ground := Ground.phase }, { on := 3, ground := Ground.phase }, { on := 4, ground := Ground.phase }, { on := 5, ground := Ground.phase }, { on := 6, ground := Ground.phase }, { on := 7, ground := Ground.phase }, { on := 8, ground := Ground.phase }, { on := 9, ground := Ground.phase }, { on := 10, ground := Ground.phase }], guard := none })) rfl (fun K hK => ?_) AllReadyH.nil
  refine step_store_bk rfl 31 (.tmp 11) (.tmp 52) rfl q11 0 (mapR none 0 0 0 0) (mapR a n cp x i) (mapR a n cp x i) h7.bk (Nat.le_refl 3) rfl info_rm (mapR_one _ _ _ _ _) rfl rfl ?_
  intro W8 h8 k8
  replace hB := fr_set hB k8 (h7.at hB0)
  refine hK.out _ _ (KEEP.out _ hB) (fun hHeld => ?_)
  clear hK K
  try simp only [Act.put]
  refine wpAnyH_done (by kernel_rfl) ?_ _
  have HF8 := Lib.hid (fr_new HF6.out hB)
  have HC8 := Lib.hid (HC6.out.new hB)
  have HG8 := Lib.hid (HG6.out.new hB)
  have HI8 := Lib.hid (HI6.out.new hB)
  have HR8 := Lib.hid (HR.out.new HF8.out)
  have HL8 := Lib.hid (HL.out.new HF8.out)
  obtain ⟨y0, y1, y2, y3, y4, y5, y6⟩ := call_cells HC8.out; dsimp only at y0 y1 y2 y3 y4 y5 y6
  obtain ⟨a0, a1, a2, a3, a4, a5⟩ := it_cells HI8.out
  obtain ⟨m0, m1, m2⟩ := map_cells h8
  clear hB hB0 h7 h8 k8 hHeld
  have HS8 := Lib.hid (show q6 < W8.heap.size from HG8.out.lt)
  go_wp2_with (first
    | ((with_reducible refine at_wq ?_); refine wpList_store_bk rfl 87 (.tmp 6) (.tmp 55) rfl q6 0 gvnZ (gvnC Ans.none none 0 0 0 0 false) (gvnC Ans.none none 0 0 0 0 false) HG8.out (Nat.le_refl 12) rfl info_gvn (gvnC_one _ _ _ _ _ _ _) rfl rfl ?_; intro W11 h11 k11))
  refine bodyPost_ret (results_two rfl _ h11 rfl rfl _ Tryd.underlying87 rfl info_gvn) rfl ⟨none, 0, 0, rfl, RL.nil, onA_nil _ _, fr_set HF8.out k11 HQ2.out.2.1⟩
set_option maxHeartbeats 8000000 in
set_option maxRecDepth 100000 in
theorem rg_defA (hr : Bk w r (mapR a n cp e i)) (hl : RL w B a n cp L) (hn : n < 1000000) (he : 0 ≤ e ∧ e < 18446744073709551616) (hx : 0 ≤ x ∧ x < 18446744073709551616) (hk : key.size ≤ maxLen) (hv : ¬ (1 ≤ v ∧ v ≤ 11)) (hcm : comes e x = true) (hok : okB key = true) (hlk : mlook L key = some y) (hal : alivef y.gen y.dies x = true)  : Calls Tryd.prog 37 #[.pointer (some ⟨r, 0, none⟩), .agg (calC (⟨v, key, vl, fl, ex, id, by_⟩ : Cal)).toArray, .int .u64 x] w (rgvP w a (Option.none)) := by
  have HR := Lib.hid hr
  have HL := Lib.hid hl
  have HN := Lib.hid hn
  have HE := Lib.hid he
  have HX := Lib.hid hx
  have HK := Lib.hid hk
  have HCM := Lib.hid hcm
  have HLK := Lib.hid hlk
  have HOK := Lib.hid (show ((lookF key.data.toList).1 == 0) = true from hok)
  have HAL := Lib.hid hal
  clear hr hl hn he hx hk hcm hlk hok hal
  have v1 : (v == 1) = false := by simp; omega
  have v2 : (v == 2) = false := by simp; omega
  have v3 : (v == 3) = false := by simp; omega
  have v4 : (v == 4) = false := by simp; omega
  have v5 : (v == 5) = false := by simp; omega
  have v6 : (v == 6) = false := by simp; omega
  have v7 : (v == 7) = false := by simp; omega
  have v8 : (v == 8) = false := by simp; omega
  have v9 : (v == 9) = false := by simp; omega
  have v10 : (v == 10) = false := by simp; omega
  have v11 : (v == 11) = false := by simp; omega
  have u11 : (v != 11) = true := bne_iff_ne.mpr (by omega)
  clear hv
  go_enter Tryd.func37, Tryd.ntmps37
  go_wp2_with (first
    | ((with_reducible refine at_wq ?_); refine wpList_box_bk rfl 35 (.tmp 1) rfl (calC (⟨v, key, vl, fl, ex, id, by_⟩ : Cal)) rfl ?_; intro W1 q4 h1)
    | ((with_reducible refine at_wq ?_); refine wpList_alloc_bk rfl 87 gvnZ alloc_gvn rfl ?_; intro W2 q6 h2; have HF2 := Lib.hid (fr_new h1.below h2.below); have HC2 := Lib.hid (h1.bk.new h2.below); have HG2 := Lib.hid h2.bk; have HQ2 := Lib.hid (show w.heap.size ≤ q4 ∧ w.heap.size ≤ q6 ∧ q4 ≠ q6 ∧ q4 < W2.heap.size ∧ q6 < W2.heap.size from ⟨by have e1 := h1.eq; omega, h2.at h1.below, by have e1 := h1.bk.lt; have e2 := h2.eq; omega, by have e1 := h1.bk.lt; have e2 := h2.below.size; omega, h2.bk.lt⟩); obtain ⟨y0, y1, y2, y3, y4, y5, y6⟩ := call_cells HC2.out; dsimp only at y0 y1 y2 y3 y4 y5 y6; clear h1 h2)
    | (go_at_call 49; refine (rComesw (HR.out.new HF2.out) x HE.out HX.out).mono ?_; rintro e1 Y ⟨rfl, rfl⟩; rw [HCM.out])
    | (go_at_call 50; refine (refokw key _ HK.out).mono ?_; rintro e1 Y ⟨rfl, rfl⟩; rw [HOK.out])
    | (go_at_call 14; refine (rAtw (HR.out.new HF2.out) (HL.out.new HF2.out) key).mono ?_; rintro e1 W3 ⟨rfl, b3⟩; unfold atV; rw [HLK.out]; simp only [Option.getD_some, Option.isSome_some]; have HF3 := Lib.hid (fr_new HF2.out b3); have HC3 := Lib.hid (HC2.out.new b3); have HG3 := Lib.hid (HG2.out.new b3); have HS3 := Lib.hid b3.size; clear b3 y0 y1 y2 y3 y4 y5 y6)
    | ((with_reducible refine at_wq ?_); refine wpList_alloc_bk rfl 38 (itC Itm.none) alloc_it rfl ?_; intro W4 q8 h4)
    | ((with_reducible refine at_wq ?_); refine wpList_store_bk rfl 38 (.tmp 8) (.tmp 35) rfl q8 0 (itC Itm.none) (itC y) (itC y) h4.bk (Nat.le_refl 6) rfl info_it (itC_one _) rfl rfl ?_; intro W5 h5 k5; have HQ := Lib.hid (show q8 ≠ q4 ∧ q8 ≠ q6 ∧ w.heap.size ≤ q8 from ⟨by have e1 := h4.eq; have e2 := HQ2.out; have e3 := HS3.out; omega, by have e1 := h4.eq; have e2 := HQ2.out; have e3 := HS3.out; omega, h4.at HF3.out⟩); have HF5 := Lib.hid (fr_set (fr_new HF3.out h4.below) k5 (h4.at HF3.out)); have HC5 := Lib.hid ((HC3.out.new h4.below).keep k5 (fun e => HQ.out.1 e.symm)); have HG5 := Lib.hid ((HG3.out.new h4.below).keep k5 (fun e => HQ.out.2.1 e.symm)); have HI5 := Lib.hid h5; obtain ⟨a0, a1, a2, a3, a4, a5⟩ := it_cells h5; clear h4 h5 k5)
    | (go_at_call 51; refine (ralive _ _ _ _ _ _ x _ HX.out.1 HX.out.2).mono ?_; rintro e1 W6 ⟨rfl, b6⟩; rw [HAL.out]; have HF6 := Lib.hid (fr_new HF5.out b6); have HC6 := Lib.hid (HC5.out.new b6); have HG6 := Lib.hid (HG5.out.new b6); have HI6 := Lib.hid (HI5.out.new b6); clear b6 a0 a1 a2 a3 a4 a5))
  have HRV := Lib.hid (HR.out.new HF6.out)
  have hB : Below W6.heap.size W6 W6.drew := (Below.refl _ _).drew
  have hB0 := hB
  have KEEP : Hid (∀ X, Below W6.heap.size W6 X → X.cell? ⟨r, 0, none⟩ = some (.slice a n cp) ∧ X.cell? ⟨r, 2, none⟩ = some (.int .u64 i)) := Lib.hid fun X hb => by
    obtain ⟨m0, m1, m2⟩ := map_cells (HRV.out.new hb)
    exact ⟨m0, m2⟩
  refine wp_region_held_drew (S := fun X => X.cell? ⟨r, 0, none⟩ = some (.slice a n cp) ∧ X.cell? ⟨r, 2, none⟩ = some (.int .u64 i)) (by kernel_rfl) (KEEP.out _ hB) (fun hHeld => ?_)
  refine wpAnyH_take (i := 0) (oi := ({ dst := some 43, op := Op.move (Operand.tmp 0), type := 27, pos := "ref.go:83", after := #[], guard := none })) (v := ?_) rfl (by kernel_rfl) (by kernel_rfl) (by kernel_rfl) (fun _ _ _ h => h) (Or.inl ⟨by rfl, ?_⟩) (by assumption) ?_
  rotate_left 1
  · (intro w9 hSw; (try dsimp only at hSw); go_simp; try with_reducible rfl)
  try simp only [Act.put, List.setIfInBounds_toArray, List.set_cons_zero, List.set_cons_succ]
  refine wpAnyH_take (i := 1) (oi := ({ dst := some 44, op := Op.nilCheck (Operand.tmp 43), type := 0, pos := "ref.go:83", after := #[{ on := 0, ground := Ground.data }], guard := none })) (v := ?_) rfl (by kernel_rfl) (by kernel_rfl) (by kernel_rfl) (fun _ _ _ h => h) (Or.inl ⟨by rfl, ?_⟩) (by assumption) ?_
  rotate_left 1
  · (intro w9 hSw; (try dsimp only at hSw); go_simp; try with_reducible rfl)
  try simp only [Act.put, List.setIfInBounds_toArray, List.set_cons_zero, List.set_cons_succ]
  refine wpAnyH_take (i := 2) (oi := ({ dst := some 45, op := Op.fieldAddr 31 (Operand.tmp 44) 0, type := 0, pos := "ref.go:83", after := #[{ on := 1, ground := Ground.data }], guard := none })) (v := ?_) rfl (by kernel_rfl) (by kernel_rfl) (by kernel_rfl) (fun _ _ _ h => h) (Or.inl ⟨by rfl, ?_⟩) (by assumption) ?_
  rotate_left 1
  · (intro w9 hSw; (try dsimp only at hSw); go_simp; try with_reducible rfl)
  try simp only [Act.put, List.setIfInBounds_toArray, List.set_cons_zero, List.set_cons_succ]
  refine wpAnyH_take (i := 3) (oi := ({ dst := some 46, op := Op.load 28 (Operand.tmp 45), type := 28, pos := "ref.go:83", after := #[{ on := 2, ground := Ground.data }], guard := none })) (v := ?_) rfl (by kernel_rfl) (by kernel_rfl) (by kernel_rfl) (fun _ _ _ h => h) (Or.inl ⟨by rfl, ?_⟩) (by assumption) ?_
  rotate_left 1
  · (intro w9 hSw; (try dsimp only at hSw); go_simp; try with_reducible rfl)
  try simp only [Act.put, List.setIfInBounds_toArray, List.set_cons_zero, List.set_cons_succ]
  refine wpAnyH_take (i := 4) (oi := ({ dst := some 47, op := Op.move (Operand.tmp 2), type := 29, pos := "ref.go:83", after := #[], guard := none })) (v := ?_) rfl (by kernel_rfl) (by kernel_rfl) (by kernel_rfl) (fun _ _ _ h => h) (Or.inl ⟨by rfl, ?_⟩) (by assumption) ?_
  rotate_left 1
  · (intro w9 hSw; (try dsimp only at hSw); go_simp; try with_reducible rfl)
  try simp only [Act.put, List.setIfInBounds_toArray, List.set_cons_zero, List.set_cons_succ]
  refine wpAnyH_take (i := 5) (oi := ({ dst := some 48, op := Op.move (Operand.tmp 0), type := 27, pos := "ref.go:83", after := #[], guard := none })) (v := ?_) rfl (by kernel_rfl) (by kernel_rfl) (by kernel_rfl) (fun _ _ _ h => h) (Or.inl ⟨by rfl, ?_⟩) (by assumption) ?_
  rotate_left 1
  · (intro w9 hSw; (try dsimp only at hSw); go_simp; try with_reducible rfl)
  try simp only [Act.put, List.setIfInBounds_toArray, List.set_cons_zero, List.set_cons_succ]
  refine wpAnyH_take (i := 6) (oi := ({ dst := some 49, op := Op.nilCheck (Operand.tmp 48), type := 0, pos := "ref.go:83", after := #[{ on := 5, ground := Ground.data }], guard := none })) (v := ?_) rfl (by kernel_rfl) (by kernel_rfl) (by kernel_rfl) (fun _ _ _ h => h) (Or.inl ⟨by rfl, ?_⟩) (by assumption) ?_
  rotate_left 1
  · (intro w9 hSw; (try dsimp only at hSw); go_simp; try with_reducible rfl)
  try simp only [Act.put, List.setIfInBounds_toArray, List.set_cons_zero, List.set_cons_succ]
  refine wpAnyH_take (i := 7) (oi := ({ dst := some 50, op := Op.fieldAddr 31 (Operand.tmp 49) 2, type := 0, pos := "ref.go:83", after := #[{ on := 6, ground := Ground.data }], guard := none })) (v := ?_) rfl (by kernel_rfl) (by kernel_rfl) (by kernel_rfl) (fun _ _ _ h => h) (Or.inl ⟨by rfl, ?_⟩) (by assumption) ?_
  rotate_left 1
  · (intro w9 hSw; (try dsimp only at hSw); go_simp; try with_reducible rfl)
  try simp only [Act.put, List.setIfInBounds_toArray, List.set_cons_zero, List.set_cons_succ]
  refine wpAnyH_take (i := 8) (oi := ({ dst := some 51, op := Op.load 29 (Operand.tmp 50), type := 29, pos := "ref.go:83", after := #[{ on := 7, ground := Ground.data }], guard := none })) (v := ?_) rfl (by kernel_rfl) (by kernel_rfl) (by kernel_rfl) (fun _ _ _ h => h) (Or.inl ⟨by rfl, ?_⟩) (by assumption) ?_
  rotate_left 1
  · (intro w9 hSw; (try dsimp only at hSw); go_simp; try with_reducible rfl)
  try simp only [Act.put, List.setIfInBounds_toArray, List.set_cons_zero, List.set_cons_succ]
  refine wpAnyH_take (i := 9) (oi := ({ dst := some 52, op := Op.build 31 #[(0, Operand.tmp 46), (1, Operand.tmp 47), (2, Operand.tmp 51)], type := 31, pos := "ref.go:83", after := #[{ on := 3, ground := Ground.data }, { on := 4, ground := Ground.data }, { on := 8, ground := Ground.data }], guard := none })) (v := ?_) rfl (by kernel_rfl) (by kernel_rfl) (by kernel_rfl) (fun _ _ _ h => h) (Or.inl ⟨by rfl, ?_⟩) (by assumption) ?_
  rotate_left 1
  · (intro w9 hSw; (try dsimp only at hSw); go_simp; try with_reducible rfl)
  try simp only [Act.put, List.setIfInBounds_toArray, List.set_cons_zero, List.set_cons_succ]
  refine wpAnyH_ready (rs := [10]) (by kernel_rfl) (by simp) ?_
  refine AllReadyH.cons (o := ({ dst := some 11, op := Op.alloc 31, type := 0, pos := "ref.go:83", after := #[], guard := none })) rfl (fun K hK => ?_) AllReadyH.nil
  refine step_alloc_bk rfl 31 (mapR none 0 0 0 0) alloc_rm rfl ?_
  intro W7 q11 h7
  replace hB := fr_new hB h7.below
  refine hK.out _ _ (KEEP.out _ hB) (fun hHeld => ?_)
  clear hK K
  try simp only [Act.put, List.setIfInBounds_toArray, List.set_cons_zero, List.set_cons_succ]
  refine wpAnyH_ready (rs := [11]) (by kernel_rfl) (by simp) ?_
  refine AllReadyH.cons (o := ({ dst := none, op := Op.store 31 (Operand.tmp 11) (Operand.tmp 52), type := 0, pos := "ref.go:83", after := #[{ on := 10, ground := Ground.data }, { on := 9, ground := Ground.data }, { on := 0, ground := Ground.phase }, { on := 1, ground := Ground.phase }, { on := 2, ground := Ground.phase }, { on := 3, ground := Ground.phase }, { on := 4, ground := Ground.phase }, { on := 5, ground := Ground.phase }, { on := 6, ground := Ground.phase }, { on := 7, ground := Ground.phase }, { on := 8, ground := Ground.phase }, { on := 9, ground := Ground.phase }, { on := 10, ground := Ground.phase }], guard := none })) rfl (fun K hK => ?_) AllReadyH.nil
  refine step_store_bk rfl 31 (.tmp 11) (.tmp 52) rfl q11 0 (mapR none 0 0 0 0) (mapR a n cp x i) (mapR a n cp x i) h7.bk (Nat.le_refl 3) rfl info_rm (mapR_one _ _ _ _ _) rfl rfl ?_
  intro W8 h8 k8
  replace hB := fr_set hB k8 (h7.at hB0)
  refine hK.out _ _ (KEEP.out _ hB) (fun hHeld => ?_)
  clear hK K
  try simp only [Act.put]
  refine wpAnyH_done (by kernel_rfl) ?_ _
  have HF8 := Lib.hid (fr_new HF6.out hB)
  have HC8 := Lib.hid (HC6.out.new hB)
  have HG8 := Lib.hid (HG6.out.new hB)
  have HI8 := Lib.hid (HI6.out.new hB)
  have HR8 := Lib.hid (HR.out.new HF8.out)
  have HL8 := Lib.hid (HL.out.new HF8.out)
  obtain ⟨y0, y1, y2, y3, y4, y5, y6⟩ := call_cells HC8.out; dsimp only at y0 y1 y2 y3 y4 y5 y6
  obtain ⟨a0, a1, a2, a3, a4, a5⟩ := it_cells HI8.out
  obtain ⟨m0, m1, m2⟩ := map_cells h8
  clear hB hB0 h7 h8 k8 hHeld
  have HS8 := Lib.hid (show q6 < W8.heap.size from HG8.out.lt)
  go_wp2_with (first
    | ((with_reducible refine at_wq ?_); refine wpList_store_bk rfl 87 (.tmp 6) (.tmp 55) rfl q6 0 gvnZ (gvnC Ans.none none 0 0 0 0 false) (gvnC Ans.none none 0 0 0 0 false) HG8.out (Nat.le_refl 12) rfl info_gvn (gvnC_one _ _ _ _ _ _ _) rfl rfl ?_; intro W11 h11 k11))
  refine bodyPost_ret (results_two rfl _ h11 rfl rfl _ Tryd.underlying87 rfl info_gvn) rfl ⟨none, 0, 0, rfl, RL.nil, onA_nil _ _, fr_set HF8.out k11 HQ2.out.2.1⟩
end
end Go.Proofs.YtmjklkcjinfmaaaDoor
