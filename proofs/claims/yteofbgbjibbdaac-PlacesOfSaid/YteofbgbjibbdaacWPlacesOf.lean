/- The law PlacesOf. -/
import Derived.Test.YteofbgbjibbdaacPs5
import Derived.Test.YteofbgbjibbdaacPlLives
import Derived.Test.YteofbgbjibbdaacKeep
import Derived.Test.YteofbgbjibbdaacOpen
namespace Go.Proofs.Yteofbgbjibbdaac
open Go.RowKit
set_option linter.unusedVariables false
theorem addP_ne (D : List Pv) (p : Pv) : addP D p ≠ [] := by
  unfold addP
  split
  · rename_i h; intro e; rw [e] at h; simp at h
  · simp
theorem foldl_addP_ne : ∀ (L M : List Pv), (M ≠ [] ∨ L ≠ []) → L.foldl addP M ≠ []
  | [], M, h => by simpa using h
  | x :: L, M, h => foldl_addP_ne L (addP M x) (.inl (addP_ne _ _))
theorem placesF_ne (h x : Int) : placesF h x ≠ [] := by
  unfold placesF dedP
  refine foldl_addP_ne _ _ (.inr ?_)
  unfold placesL
  split <;> simp
theorem placesF_le (h x : Int) : (placesF h x).length ≤ 4 := by
  refine Nat.le_trans (dedP_len _) ?_
  unfold placesL
  split <;> simp
set_option maxHeartbeats 2000000 in
set_option maxRecDepth 100000 in
theorem walk_PlacesOf (a0 a1 : Int) (w : World) (w0 : (Lit.int .u64 a0).wf = true) (w1 : (Lit.int .u64 a1).wf = true) :
    Calls Try.prog 7 #[.int .u64 a0, .int .u64 a1] w fun e w' => e = .returned (.bool true) ∧ Below w.heap.size w w' := by
  obtain ⟨g1, g2⟩ := bounds_u64 w0
  obtain ⟨g3, g4⟩ := bounds_u64 w1
  have CP := Lib.hid (fun W => placesw a0 a1 W g1 (by omega) g3 (by omega))
  have CR := Lib.hid (fun W => rplacesw a0 a1 W g1 (by omega) g3 (by omega))
  have hne := placesF_ne a0 a1
  have hle := placesF_le a0 a1
  clear w0 w1 g1 g2 g3 g4
  generalize placesF a0 a1 = L at *
  obtain ⟨n, hn⟩ : ∃ n, n = L.length := ⟨_, rfl⟩
  have hn0 : 0 < n := by rw [hn]; exact List.length_pos_iff.mpr hne
  have hn4 : n ≤ 4 := by rw [hn]; exact hle
  rw [← hn] at CP
  have HN := Lib.hid hn
  clear hne hle hn
  go_enter Try.func7, Try.ntmps7
  go_wp2_with fail
  refine (CP.out _).mono ?_
  rintro e w1 ⟨al, rfl, Ll, K1⟩
  have LL := Lib.hid Ll
  have K1H := Lib.hid K1
  clear Ll K1
  go_wp2_with fail
  refine (CR.out _).mono ?_
  rintro e w2 ⟨C, vm, hC, rfl, own, K2⟩
  rw [← HN.out] at own
  obtain ⟨am, cm, rfl, -, -, -, -⟩ := LieG.of (Lst.of_own own)
  have LM := Lib.hid (Lst.of_own own)
  have LL2 := Lib.hid (LL.out.below K2 (Nat.le_refl _))
  have K2H := Lib.hid K2
  have f1 : ((n : Int) != (n : Int)) = false := by simp
  have f2 : decide ((n : Int) < n) = false := decide_eq_false (by omega)
  clear own K2
  go_wp2_with fail
  clear f1 f2
  -- where both lie
  obtain ⟨gl, hal, hgl0, hgl1, hgl2⟩ : ∃ gl, al = some ⟨gl, 0, none⟩ ∧ w.heap.size ≤ gl ∧ gl < w1.heap.size ∧ ∀ j u, (rowsP L)[j]? = some u → w2.cell? ⟨gl, j, none⟩ = some u ∧ w2.frozen? ⟨gl, j, none⟩ = false := by
    obtain ⟨hl, ⟨e, h0⟩ | ⟨g, cap, e, hB, hg, hnn, hc, hx⟩⟩ := LL.out
    · omega
    · obtain ⟨hl', ⟨e', h0⟩ | ⟨g', cap', e', hB', hg', hnn', hc', hx'⟩⟩ := LL2.out
      · omega
      · injection e with e1 _ _
        rw [e1] at e'
        injection e' with e1' _ _
        injection e1' with e1'
        injection e1' with e1'
        subst e1'
        exact ⟨g, e1, hB, hg, hx'⟩
  obtain ⟨gm, ham, hgm0, hgm1, hgmc, hgm2⟩ : ∃ gm, am = some ⟨gm, 0, none⟩ ∧ C ≤ gm ∧ gm < w2.heap.size ∧ n ≤ cm ∧ ∀ j u, (rowsP L)[j]? = some u → w2.cell? ⟨gm, j, none⟩ = some u := by
    obtain ⟨hl, ⟨e, h0⟩ | ⟨g, cap, e, hB, hg, hnn, hc, hx⟩⟩ := LM.out
    · omega
    · injection e with e1 _ e2
      subst e2
      exact ⟨g, e1, hB, hg, hnn, fun j u hj => (hx j u hj).1⟩
  subst hal ham
  have HGL := Lib.hid hgl2
  have HGM := Lib.hid hgm2
  have hgg : gm ≠ gl := by omega
  clear hgl2 hgm2
  go_loopw [7] (fun i wr => ∃ k : Nat, k ≤ n ∧ i = .int .i64 k ∧ Hid (∀ j b q, k ≤ j → L[j]? = some (b, q) → (wr.cell? ⟨gl, j * 2, none⟩ = some (.int .i64 b) ∧ wr.cell? ⟨gl, j * 2 + 1, none⟩ = some (.int .i64 q)) ∧ wr.frozen? ⟨gl, j * 2 + 1, none⟩ = false) ∧ Keeps (fun b => b = gl) w2 wr) (fun i _ => n - (intOf i).toNat)
  case atStart =>
    refine ⟨0, Nat.zero_le _, rfl, Lib.hid (fun j b q _ hj => ?_), Keeps.refl _ _⟩
    have hjl : j < L.length := by
      rcases Nat.lt_or_ge j L.length with h' | h'
      · exact h'
      · rw [List.getElem?_eq_none h'] at hj; simp at hj
    have hjj : L[j] = (b, q) := by rw [List.getElem?_eq_getElem hjl] at hj; simpa using hj
    have r0 := rowsP_at L j 0 hjl (by omega)
    have r1 := rowsP_at L j 1 hjl (by omega)
    rw [hjj] at r0 r1
    exact ⟨⟨(HGL.out _ _ r0).1, (HGL.out _ _ r1).1⟩, (HGL.out _ _ r1).2⟩
  case round =>
    obtain ⟨k, hk, rfl, hrows, hkp⟩ := hrel
    have hsz := hkp.size
    by_cases hlt : k < n
    · obtain ⟨⟨b, q⟩, hx⟩ : ∃ x, L[k]? = some x := ⟨_, List.getElem?_eq_getElem (by have := HN.out; omega)⟩
      obtain ⟨⟨a0', a1'⟩, fz⟩ := hrows.out k b q (Nat.le_refl _) hx
      have hkl : k < L.length := by have := HN.out; omega
      have hkk : L[k] = (b, q) := by rw [List.getElem?_eq_getElem hkl] at hx; simpa using hx
      have r0 := rowsP_at L k 0 hkl (by omega)
      have r1 := rowsP_at L k 1 hkl (by omega)
      rw [hkk] at r0 r1
      have m0 : wr.cell? ⟨gm, k * 2, none⟩ = some (.int .i64 b) := hkp.cell (p := ⟨gm, k * 2, none⟩) hgg (HGM.out _ _ r0)
      have m1 : wr.cell? ⟨gm, k * 2 + 1, none⟩ = some (.int .i64 q) := hkp.cell (p := ⟨gm, k * 2 + 1, none⟩) hgg (HGM.out _ _ r1)
      have j0 : (0 : Int) ≤ (k : Int) := by omega
      have j1 : (k : Int) < (n : Int) := by omega
      have jc : k < cm := by omega
      have HRW := hrows
      have HKP := Lib.hid hkp
      clear hx hkl hkk r0 r1 hrows hkp
      go_wp2_with fail
      go_quiet (fail)
      go_wp2_with fail
      go_roundw
      case rel =>
        refine ⟨k + 1, by omega, by go_num, Lib.hid (fun j b' q' hj hx' => ?_), (Keeps.drewN HKP.out nq).setCell (.inl rfl) _⟩
        obtain ⟨⟨c0', c1'⟩, f'⟩ := HRW.out j b' q' (by omega) hx'
        refine ⟨⟨?_, ?_⟩, by rw [World.frozen?_setCell]; simpa using f'⟩
        · refine (World.cell?_setCell_other _ ⟨gl, k * 2 + 1, none⟩ ⟨gl, j * 2, none⟩ _ (by intro e; injection e with _ e; omega)).trans ?_
          rw [World.cell?_drewN]; exact c0'
        · refine (World.cell?_setCell_other _ ⟨gl, k * 2 + 1, none⟩ ⟨gl, j * 2 + 1, none⟩ _ (by intro e; injection e with _ e; omega)).trans ?_
          rw [World.cell?_drewN]; exact c1'
      case measure => simp [intOf]; omega
    · obtain rfl : n = k := by omega
      have hbr : Below w.heap.size w wr := (K1H.out.trans (K2H.out.mono (by have := K1H.out.size; omega))).trans (hkp.to_below (fun k _ e => by rw [e]; exact hgl0) (by have := K1H.out.size; have := K2H.out.size; omega))
      obtain ⟨⟨b, q⟩, hx⟩ : ∃ x, L[0]? = some x := ⟨_, List.getElem?_eq_getElem (by have := HN.out; omega)⟩
      have hkl : 0 < L.length := by have := HN.out; omega
      have hkk : L[0] = (b, q) := by rw [List.getElem?_eq_getElem hkl] at hx; simpa using hx
      have r0 := rowsP_at L 0 0 hkl (by omega)
      have r1 := rowsP_at L 0 1 hkl (by omega)
      rw [hkk] at r0 r1
      have m0 : wr.cell? ⟨gm, 0, none⟩ = some (.int .i64 b) := hkp.cell (p := ⟨gm, 0, none⟩) hgg (HGM.out _ _ r0)
      have m1 : wr.cell? ⟨gm, 1, none⟩ = some (.int .i64 q) := hkp.cell (p := ⟨gm, 1, none⟩) hgg (HGM.out _ _ r1)
      have R0 := Lib.hid r0
      have R1 := Lib.hid r1
      have HBR := Lib.hid hbr
      have lt0 : gm < wr.heap.size := by omega
      clear hkp hrows hbr hx hkl hkk r0 r1
      go_wp2_with fail
      refine (CP.out _).mono ?_
      rintro e w3 ⟨al2, rfl, Ll2, K3⟩
      obtain ⟨g2, rfl, hg2, c0', c1'⟩ : ∃ g2, al2 = some ⟨g2, 0, none⟩ ∧ g2 < w3.heap.size ∧ w3.cell? ⟨g2, 0, none⟩ = some (.int .i64 b) ∧ w3.cell? ⟨g2, 1, none⟩ = some (.int .i64 q) := by
        obtain ⟨hl, ⟨e, h0⟩ | ⟨g, cap, e, hB, hg, hnn, hc, hx⟩⟩ := Ll2
        · omega
        · injection e with e1 _ _
          exact ⟨g, e1, hg, (hx _ _ R0.out).1, (hx _ _ R1.out).1⟩
      replace m0 := (K3.cell (p := ⟨gm, 0, none⟩) lt0).trans m0
      replace m1 := (K3.cell (p := ⟨gm, 1, none⟩) lt0).trans m1
      have HB3 := Lib.hid (below_then HBR.out K3)
      have lt3 : gm < w3.heap.size := by have := K3.size; omega
      have f1 : ((n : Int) == (n : Int)) = true := by simp
      have jn : (0 : Int) < (n : Int) := by omega
      have jc : 0 < cm := by omega
      clear K3 Ll2
      go_wp2_with fail
      go_region_held3 (fun w' => w'.cell? ⟨g2, 0, none⟩ = some (.int .i64 b) ∧ w'.cell? ⟨g2, 1, none⟩ = some (.int .i64 q) ∧ w'.cell? ⟨gm, 0, none⟩ = some (.int .i64 b) ∧ w'.cell? ⟨gm, 1, none⟩ = some (.int .i64 q))
        (first | exact ⟨by assumption, by assumption, by assumption, by assumption⟩)
        (first
          | (go_at_call 31; refine (lives08 _).mono ?_; rintro e w4 ⟨rfl, K4⟩; replace c0' := (K4.cell (p := ⟨g2, 0, none⟩) hg2).trans c0'; replace c1' := (K4.cell (p := ⟨g2, 1, none⟩) hg2).trans c1'; replace m0 := (K4.cell (p := ⟨gm, 0, none⟩) lt3).trans m0; replace m1 := (K4.cell (p := ⟨gm, 1, none⟩) lt3).trans m1; have HB4 := Lib.hid (below_then HB3.out.drew K4); clear K4))
      go_wp2_with fail
      go_ret
      exact ⟨rfl, HB4.out⟩
end Go.Proofs.Yteofbgbjibbdaac
