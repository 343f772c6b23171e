/- FeedsCuts: bytes in chunks are told as bytes in one. -/
import Derived.Test.YtifbcejekdhnlaaFz
import Derived.StillTailTactics
namespace Go.Proofs.Ytifbcejekdhnlaa
open Go.RowKit Go.Maps Go.Shelf
set_option linter.unusedVariables false

theorem rowsE_at : ∀ (ps : List (Ev × Value)) (k j : Nat) (p : Ev × Value) (u : Value), ps[k]? = some p → (evC p.1 p.2)[j]? = some u → (rowsE ps)[k * 13 + j]? = some u
  | [], k, j, p, u, h, hu => by simp at h
  | q :: ps, 0, j, p, u, h, hu => by
    simp only [List.getElem?_cons_zero, Option.some.injEq] at h
    subst h
    show (evC q.1 q.2 ++ rowsE ps)[0 * 13 + j]? = some u
    rw [Nat.zero_mul, Nat.zero_add, List.getElem?_append_left]
    · exact hu
    · exact (List.getElem?_eq_some_iff.mp hu).1
  | q :: ps, k + 1, j, p, u, h, hu => by
    simp only [List.getElem?_cons_succ] at h
    show (evC q.1 q.2 ++ rowsE ps)[(k + 1) * 13 + j]? = some u
    rw [List.getElem?_append_right (by rw [evC_len]; omega), evC_len, show (k + 1) * 13 + j - 13 = k * 13 + j by omega]
    exact rowsE_at ps k j p u h hu
/-- The cells of an event in a list. -/
theorem ev_of {ps : List (Ev × Value)} {k : Nat} {p : Ev × Value} {W : World} {g : Nat} (hp : ps[k]? = some p) (h : ∀ j u, (rowsE ps)[j]? = some u → W.cell? ⟨g, j, none⟩ = some u) : ∀ j u, (evC p.1 p.2)[j]? = some u → W.cell? ⟨g, k * 13 + j, none⟩ = some u :=
  fun j u hu => h _ u (rowsE_at ps k j p u hp hu)
set_option maxHeartbeats 8000000 in
set_option maxRecDepth 100000 in
theorem walk_FeedsCuts (a0 : Option Addr) (l0 c0 : Nat) (a1 : Option Addr) (l1 c1 : Nat) (w : World) (w0 : Reads Try.prog w 23 (.slice a0 l0 c0)) (w1 : Reads Try.prog w 49 (.slice a1 l1 c1)) :
    Calls Try.prog 5 #[.slice a0 l0 c0, .slice a1 l1 c1] w fun e w' => e = .returned (.bool true) ∧ Below w.heap.size w w' := by
  obtain ⟨L, rfl, hLc, hLm, hA0, hrL⟩ := open_by (P := Try.prog) Try.underlying23 (by kernel_rfl) (by kernel_rfl) w0
  obtain ⟨hc1, hm1, hA1, hr1⟩ := open_w16 (P := Try.prog) Try.underlying49 (by kernel_rfl) (by kernel_rfl) w1
  have HA0 := Lib.hid hA0
  have HRL := Lib.hid hrL
  have HR1 := Lib.hid hr1
  have hLm' := hLm
  have hm1' := hm1
  unfold maxLen at hLm' hm1'
  have hsz : (Try.prog.info? 5).map (·.size) = some 1 := by kernel_rfl
  clear w0 w1 hA0 hrL hA1 hr1
  obtain ⟨m, hm⟩ : ∃ m, m = L.length := ⟨_, rfl⟩
  have HM := Lib.hid hm
  rw [← hm] at hLc ⊢
  clear hm
  by_cases h6 : m ≤ 6000 ∧ l1 ≤ 60
  · obtain ⟨h6, h60⟩ := h6
    have d6 : decide (6000 < (m : Int)) = false := decide_eq_false (by omega)
    have d60 : decide (60 < (l1 : Int)) = false := decide_eq_false (by omega)
    go_enter Try.func5, Try.ntmps5
    go_wp2_with fail
    refine (newFd w).mono ?_
    rintro e W0 ⟨rfl, f0, hb0⟩
    obtain ⟨q0, hq0⟩ : ∃ q, w.heap.size = q := ⟨_, rfl⟩
    have HB0 := Lib.hid (And.intro hq0 hb0)
    rw [hq0] at f0 ⊢
    have F0 := Lib.hid f0
    clear f0 hq0 hb0
    go_wp2_with fail
    have hin := inw q0 _ _ _ _ a0 c0 L W0 F0.out FOk.new (by have := HM.out; exact ⟨by omega, hLm⟩) (by have := HM.out; omega) ((HRL.out.below (HB0.out.2.mono (by have := HB0.out.1; omega)) (Nat.le_refl _)).mono HB0.out.2.size) (by
      intro g o e h0 u
      obtain ⟨g', o', e', hg, _⟩ := HRL.out h0
      rw [e] at e'
      injection e' with e'
      injection e' with e1 _
      have := HB0.out.1
      omega)
    rw [← HM.out] at hin
    refine hin.mono ?_
    clear hin
    rintro e W1 ⟨U1, hv1, kv1, v6, ps6, rfl, f1, k1, g1, hp6, ev6⟩
    have hb01 : Below w.heap.size w W1 := by
      obtain ⟨hq, hb⟩ := HB0.out
      exact hb.trans ((k1.mono (T := fun k => w.heap.size ≤ k) (fun k _ u => by omega)).to_below (fun k _ u => u) hb.size)
    obtain ⟨a6, rfl⟩ := ev6.form
    have HS6 := Lib.hid (And.intro hp6 (And.intro ev6 f1))
    have HB1 := Lib.hid hb01
    clear hp6 ev6 f1 k1 g1 hb01
    go_wp2_with fail
    refine (newFd W1).mono ?_
    rintro e W2 ⟨rfl, f2, hb2⟩
    obtain ⟨q2, hq2⟩ : ∃ q, W1.heap.size = q := ⟨_, rfl⟩
    have HC2 := Lib.hid (show Cts W1 W2.heap.size q2 (fun k => k = q2) (feedF Fst.new (L.take 0)).1 (.slice none 0 0) (.slice none 0 0) (.slice none 0 0) [] W2 from
      ⟨by rw [← hq2]; exact f2, World.ownsRow_nil _ _ _ _, fun p hp => by simp at hp, fun g e => by simp [Value.ownBlock] at e, fun _ => rfl, hb2, fun k u => by omega, hb2.size, Nat.le_refl _⟩)
    rw [hq2]
    have HQ2 := Lib.hid hq2
    clear f2 hb2 hq2
    go_wp2_with fail
    go_loopw [8, 9, 10] (fun v8 v9 i wr => ∃ (k r : Nat) (A : Option Addr) (c : Nat) (U : Nat → Prop) (hv kv : Value) (ps : List (Ev × Value)), k ≤ l1 ∧ i = .int .i64 k ∧ v9 = .slice A (m - r) c ∧ r ≤ m ∧ m - r ≤ c ∧ c ≤ maxLen ∧ Hid (Rd w w.heap.size A (L.drop r)) ∧ Hid (Cts W1 W2.heap.size q2 U (feedF Fst.new (L.take r)).1 hv kv v8 ps wr) ∧ Hid (ps.map Prod.fst = (feedF Fst.new (L.take r)).2)) (fun _ _ i _ => l1 - (intOf i).toNat)
    case atStart => exact ⟨0, 0, a0, c0, _, _, _, [], by omega, rfl, by rw [Nat.sub_zero], by omega, by omega, hLm, HRL.out, HC2.out, rfl⟩
    case round =>
      obtain ⟨k, r, A, c, U, hv, kv, ps, hk, rfl, rfl, hr, hmc, hcm, hrd, hC, hps⟩ := hrel
      have hcm' := hcm
      unfold maxLen at hcm'
      by_cases hlt : k < l1
      · obtain ⟨g, off, rfl, hg, hcell⟩ := HR1.out (by omega)
        obtain ⟨x, hx, hcx⟩ := hcell k hlt
        have hbw : Below w.heap.size w wr := HB1.out.trans (hC.out.base.mono HB1.out.size)
        have e1 := (hbw.cell (p := ⟨g, off + k, none⟩) hg).trans hcx
        have hwx : IntKind.i64.wrap (x : Int) = x := IntWalk.i64_in _ (by omega)
        obtain ⟨n, hn, hnr⟩ : ∃ n : Nat, min (x : Int) ((m - r : Nat) : Int) = n ∧ n ≤ m - r := ⟨min x (m - r), by omega, by omega⟩
        clear hcell hcx hbw
        go_wp2_with fail
        refine (chunkw (w := w) (n := n) hC.out hps.out (by have := HM.out; omega) (by have := HM.out; omega) (by have := HM.out; omega) (by omega) hcm hrd.out HB1.out).mono ?_
        rintro e wx ⟨U', hv', kv', a', qs, rfl, hC', hps', hev⟩
        have hcnt : ps.length + qs.length ≤ 6000 := by
          have h1 := feedF_count Fst.new (L.take (r + n))
          have h2 : (ps ++ qs).length = (feedF Fst.new (L.take (r + n))).2.length := by rw [← hps', List.length_map]
          rw [List.length_append] at h2
          rw [List.length_take] at h1
          have := HM.out
          omega
        have HC' := Lib.hid hC'
        have HPS' := Lib.hid hps'
        have HEV := Lib.hid hev
        have hsz' := hC'.size
        clear hC' hps' hev
        go_wp2_with (first
          | (at_builtin; refine wpList_append_ev wx rfl (.tmp 42) (.tmp 47) 31 rfl W2.heap.size 54 zeroEv 13 144 Try.underlying31 info_evb rfl (by decide) u8 ps.length (rowsE ps) rfl HC'.out.row a' qs.length (rowsE qs) rfl (rowsE_len qs) HEV.out.cells.2 HEV.out.ones (by omega) (by decide) hsz' ?_; intro v' w' hown' hgrow hnil hat; have HCC := Lib.hid (HC'.out.app HEV.out.keys hown' hgrow hnil hat); clear hown' hgrow hnil hat hsz')
          | (refine wpList_cut_lo rfl 23 5 (.tmp 49) (.tmp 50) rfl Try.underlying23 hsz A (m - r) c n rfl rfl (by omega) ?_))
        go_roundw
        case rel => exact ⟨k + 1, r + n, cutA A n c, c - n, U', hv', kv', ps ++ qs, by omega, by go_num, cut_rest, by omega, by omega, by omega, by have := hrd.out.past n c (by have := HM.out; rw [List.length_drop]; omega); rwa [List.drop_drop] at this, HCC.out, HPS'.out⟩
        case measure => simp [intOf]; omega
      · have hkl : decide (k < l1) = false := decide_eq_false hlt
        have hlen : (L.drop r).length = m - r := by have := HM.out; rw [List.length_drop]; omega
        go_wp2_with fail
        refine (chunkw (w := w) (n := m - r) hC.out hps.out (by have := HM.out; omega) (by have := HM.out; omega) (by have := HM.out; omega) (by omega) hcm hrd.out HB1.out).mono ?_
        rintro e wx ⟨U', hv', kv', a', qs, rfl, hC', hps', hev⟩
        have hall : L.take (r + (m - r)) = L := by rw [show r + (m - r) = L.length by have := HM.out; omega]; exact List.take_length
        rw [hall] at hC' hps'
        have hcnt : (ps ++ qs).length = ps6.length := by
          have h2 : (ps ++ qs).length = (feedF Fst.new L).2.length := by rw [← hps', List.length_map]
          rw [h2, ← HS6.out.1, List.length_map]
        have hcm6 : ps6.length ≤ 6000 := by
          have h1 := feedF_count Fst.new L
          rw [← HS6.out.1, List.length_map] at h1
          have := HM.out
          omega
        have hcnt2 := hcnt
        rw [List.length_append] at hcnt2
        have HC' := Lib.hid hC'
        have HPS' := Lib.hid (hps'.trans HS6.out.1.symm)
        have HEV := Lib.hid hev
        have HCNT := Lib.hid hcnt
        have hsz' := hC'.size
        clear hC' hps' hev hall hcnt
        obtain ⟨N, hN⟩ : ∃ N, N = ps6.length := ⟨_, rfl⟩
        rw [← hN] at hcnt2 hcm6 ⊢
        have HN := Lib.hid hN
        clear hN
        go_wp2_with (first
          | (at_builtin; refine wpList_append_ev wx rfl (.tmp 52) (.tmp 55) 31 rfl W2.heap.size 54 zeroEv 13 144 Try.underlying31 info_evb rfl (by decide) u8 ps.length (rowsE ps) rfl HC'.out.row a' qs.length (rowsE qs) rfl (rowsE_len qs) HEV.out.cells.2 HEV.out.ones (by omega) (by decide) hsz' ?_; intro v' w' hown' hgrow hnil hat; have hcc := HC'.out.app HEV.out.keys hown' hgrow hnil hat; obtain ⟨vA, vC, rfl, -⟩ := row_slice hcc.row; have HCC := Lib.hid hcc; rw [HCNT.out, ← HN.out]; clear hown' hgrow hnil hat hsz' hcc))
        refine (leftw q0 _ _ _ w' (HS6.out.2.2.new HCC.out.base).cells (HS6.out.2.2.new HCC.out.base).row (FOk.new.feed L).held).mono ?_
        rintro e wy ⟨rfl, rfl⟩
        go_wp2_with fail
        refine (leftw q2 _ _ _ w' HCC.out.fd.cells HCC.out.fd.row (FOk.new.feed L).held).mono ?_
        rintro e wy ⟨rfl, rfl⟩
        go_wp2_with fail
        have R6 := (HS6.out.2.1.rd (by have := HN.out; omega)).on HCC.out.base
        have R8 := HCC.out.rd
        obtain ⟨P8, hP8⟩ : ∃ P8, P8 = ps ++ qs := ⟨_, rfl⟩
        rw [← hP8] at R8
        have HP := Lib.hid (show P8.map Prod.fst = ps6.map Prod.fst by rw [hP8]; exact HPS'.out)
        have H8 := Lib.hid (show P8.length = N by rw [hP8, HCNT.out, HN.out])
        have HBW := Lib.hid (HB1.out.trans (HCC.out.base.mono HB1.out.size))
        obtain ⟨A6, C6, e6, hA6, hA6m, hA6c⟩ := R6.form
        obtain ⟨A8, C8, e8, hA8, hA8m, hA8c⟩ := R8.form
        have hvC : N ≤ vC ∧ vC ≤ maxLen := by
          obtain ⟨_, _, e, h1, h2, _⟩ := row_slice HCC.out.row
          injection e with _ e1 e2
          rw [← hP8, H8.out] at h1
          exact ⟨by rw [e2]; exact h1, by rw [e2]; exact h2⟩
        have RK6 := Lib.hid R6.keys
        have RK8 := Lib.hid R8.keys
        have hvA : vA = A8 := by
          obtain ⟨_, _, e, -⟩ := R8.form
          injection e8
        have ha6 : a6 = A6 := by injection e6
        subst hvA ha6
        have HC6 := Lib.hid hA6c
        have HC8 := Lib.hid hA8c
        obtain ⟨hvC1, hvC2⟩ := hvC
        clear R6 R8 hP8 e6 e8 hA6 hA6m hA8 hA8m hA6c hA8c HCC HS6 HC2 hC hps HC' HPS' HEV HCNT hrd HR1
        go_loopw [12] (fun i wr => ∃ k2 : Nat, k2 ≤ N ∧ i = .int .i64 k2 ∧ Below w'.heap.size w' wr) (fun i _ => N - (intOf i).toNat)
        case atStart => exact ⟨0, by omega, rfl, Below.refl _ _⟩
        case round =>
          obtain ⟨k2, hk2, rfl, hnx⟩ := hrel
          by_cases hlt2 : k2 < N
          · obtain ⟨⟨ev, kv6⟩, hp6⟩ : ∃ p, ps6[k2]? = some p := ⟨_, List.getElem?_eq_getElem (by have := HN.out; omega)⟩
            obtain ⟨⟨ev', kv8⟩, hp8⟩ : ∃ p, P8[k2]? = some p := ⟨_, List.getElem?_eq_getElem (by have := H8.out; omega)⟩
            have hev : ev' = ev := by
              have h1 : (P8.map Prod.fst)[k2]? = some ev' := by rw [List.getElem?_map, hp8]; rfl
              have h2 : (ps6.map Prod.fst)[k2]? = some ev := by rw [List.getElem?_map, hp6]; rfl
              rw [HP.out, h2] at h1
              injection h1 with h1
              exact h1.symm
            subst hev
            obtain ⟨g6, rfl, hg6, hcell6⟩ := HC6.out (by have := HN.out; omega)
            obtain ⟨g8, rfl, hg8, hcell8⟩ := HC8.out (by have := H8.out; omega)
            have b6 := fun j u hu => (hnx.cell (p := ⟨g6, k2 * 13 + j, none⟩) hg6).trans (ev_of hp6 hcell6 j u hu)
            have b8 := fun j u hu => (hnx.cell (p := ⟨g8, k2 * 13 + j, none⟩) hg8).trans (ev_of hp8 hcell8 j u hu)
            have K6 := Lib.hid ((RK6.out _ (List.mem_of_getElem? hp6)).on hnx)
            have K8 := Lib.hid ((RK8.out _ (List.mem_of_getElem? hp8)).on hnx)
            obtain ⟨⟨vb, ks, cv, ky, vl, fl, ex, id, by_, bt, qt⟩, dt, td⟩ := ev'
            have z0 := b6 0 _ rfl; have z1 := b6 1 _ rfl; have z2 := b6 2 _ rfl; have z3 := b6 3 _ rfl; have z4 := b6 4 _ rfl; have z5 := b6 5 _ rfl; have z6 := b6 6 _ rfl; have z7 := b6 7 _ rfl; have z8 := b6 8 _ rfl; have z9 := b6 9 _ rfl; have z10 := b6 10 _ rfl; have z11 := b6 11 _ rfl; have z12 := b6 12 _ rfl
            have y0 := b8 0 _ rfl; have y1 := b8 1 _ rfl; have y2 := b8 2 _ rfl; have y3 := b8 3 _ rfl; have y4 := b8 4 _ rfl; have y5 := b8 5 _ rfl; have y6 := b8 6 _ rfl; have y7 := b8 7 _ rfl; have y8 := b8 8 _ rfl; have y9 := b8 9 _ rfl; have y10 := b8 10 _ rfl; have y11 := b8 11 _ rfl; have y12 := b8 12 _ rfl
            simp only [Nat.add_zero] at z0 y0
            clear b6 b8 hcell6 hcell8 hp6 hp8 HC6 HC8
            have hN2 : N ≤ 9223372036854775807 := by omega
            go_wp2_with fail
            go_still_tail 8, (by kernel_rfl)
            change wpList _ _ _ _ _ wr.drew
            have hdr : Below wr.heap.size wr wr.drew := (Below.refl _ _).drew
            have K6d := Lib.hid (K6.out.on hdr)
            have K8d := Lib.hid (K8.out.on hdr)
            have hnx' := hnx.trans (hdr.mono hnx.size)
            generalize wr.drew = wd at *
            clear z0 z1 z2 z3 z4 z5 z6 z7 z8 z9 z10 z11 z12 y0 y1 y2 y3 y4 y5 y6 y7 y8 y9 y10 y11 y12 hdr
            go_wp2_with fail
            refine (likew ⟨⟨vb, ks, cv, ky, vl, fl, ex, id, by_, bt, qt⟩, dt, td⟩ kv6 kv8 wd K6d.out K8d.out).mono ?_
            rintro e wz ⟨rfl, hbz⟩
            go_wp2_with fail
            go_roundw
            case rel => exact ⟨k2 + 1, by omega, by go_num, hnx'.trans (hbz.mono hnx'.size)⟩
            case measure => simp [intOf]; omega
          · have hkl2 : decide (k2 < N) = false := decide_eq_false hlt2
            go_wp2_with fail
            refine (lives30 _).mono ?_
            rintro e wz ⟨rfl, hbz⟩
            go_wp2_with fail
            go_ret
            have h1 := HBW.out.trans (hnx.mono HBW.out.size)
            exact ⟨rfl, h1.trans (hbz.mono h1.size)⟩
  · by_cases h6' : 6000 < m
    · have d6 : decide (6000 < (m : Int)) = true := decide_eq_true (by omega)
      go_enter Try.func5, Try.ntmps5
      go_wp2_with fail
      refine (lives30 _).mono ?_
      rintro e wz ⟨rfl, hbz⟩
      go_wp2_with fail
      go_ret
      exact ⟨rfl, hbz⟩
    · have d6 : decide (6000 < (m : Int)) = false := decide_eq_false (by omega)
      have d60 : decide (60 < (l1 : Int)) = true := decide_eq_true (by omega)
      go_enter Try.func5, Try.ntmps5
      go_wp2_with fail
      refine (lives30 _).mono ?_
      rintro e wz ⟨rfl, hbz⟩
      go_wp2_with fail
      go_ret
      exact ⟨rfl, hbz⟩
end Go.Proofs.Ytifbcejekdhnlaa
