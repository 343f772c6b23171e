/- The law NotesPlay. -/
import Derived.Test.YteofbgbjibbdaacNpR
import Derived.Deep.RegionHeld3
namespace Go.Proofs.Yteofbgbjibbdaac
open Go.RowKit
set_option linter.unusedVariables false
set_option maxHeartbeats 1200000 in
set_option maxRecDepth 100000 in
theorem walk_NotesPlay (a0 : Option Addr) (l0 c0 : Nat) (a1 : Int) (a2_0 : Int) (a2_1 : Int) (w : World) (w0 : Reads Try.prog w 68 (.slice a0 l0 c0)) (w1 : (Lit.int .i64 a1).wf = true) (w2_0 : (Lit.int .u8 a2_0).wf = true) (w2_1 : (Lit.int .u8 a2_1).wf = true) :
    Calls Try.prog 12 #[.slice a0 l0 c0, .int .i64 a1, .agg #[.int .u8 a2_0, .int .u8 a2_1]] w fun e w' => e = .returned (.bool true) ∧ Below w.heap.size w w' := by
  obtain ⟨m0, b0, o0, L, p0, hL, lay0⟩ := reads_layN w0
  obtain ⟨u0, u1⟩ := bounds_u8 w2_0
  obtain ⟨v0, v1⟩ := bounds_u8 w2_1
  clear w0 w1 w2_0 w2_1
  obtain ⟨z, hz⟩ : ∃ z : TypeId, z = z := ⟨0, rfl⟩
  have HA0 := Lib.hid p0
  have HL := Lib.hid hL
  have LYw := Lib.hid lay0
  clear p0 hL lay0 z hz
  by_cases hbig : 200 < l0
  · have hd : decide (200 < (l0 : Int)) = true := decide_eq_true (by omega)
    go_enter Try.func12, Try.ntmps12
    go_wp2_with fail
    refine (lives09 _).mono ?_
    rintro e w' ⟨rfl, hk⟩
    go_wp2_with fail
    go_ret
    exact ⟨rfl, below_then ((Below.refl _ _).alloc (Nat.le_refl _) _) hk⟩
  have hd : decide (200 < (l0 : Int)) = false := decide_eq_false (by omega)
  have hs0 : l0 ≤ 200 := by omega
  clear hbig m0
  go_enter Try.func12, Try.ntmps12
  go_wp2_with fail
  obtain ⟨Q, hQ⟩ : ∃ Q, Q = w.heap.size := ⟨_, rfl⟩
  rw [← hQ]
  generalize hW0 : World.alloc _ _ = W0
  have B0 : Below w.heap.size w W0 := by rw [← hW0]; exact (Below.refl _ _).alloc (Nat.le_refl _) _
  have sQ : Q < W0.heap.size := by rw [← hW0, hQ]; simp
  have q0 : W0.cell? ⟨Q, 0, none⟩ = some (.int .u8 a2_0) := by rw [← hW0, hQ]; simp
  have q1 : W0.cell? ⟨Q, 1, none⟩ = some (.int .u8 a2_1) := by rw [← hW0, hQ]; simp
  have LY0 : Hid (LayN W0 b0 o0 L) := by
    refine Lib.hid (fun i x hx => ?_)
    obtain ⟨h1, h2⟩ := LYw.out i x hx
    exact ⟨h1, fun j u hj => (B0.cell (World.block_lt_of_cell? _ _ (h2 j u hj))).trans (h2 j u hj)⟩
  have HB0 := Lib.hid B0
  have HQ := Lib.hid hQ
  have Q0 := Lib.hid q0
  have Q1 := Lib.hid q1
  clear hW0 B0 LYw hQ q0 q1
  refine (newT _).mono ?_
  rintro e w1 ⟨rfl, rfl⟩
  go_wp2_with fail
  have hr0 := np_made W0 L
  obtain ⟨N, hN⟩ : ∃ N, N = W0.heap.size := ⟨_, rfl⟩
  have HN := Lib.hid hN
  rw [← hN] at hr0 sQ ⊢
  clear hN
  generalize World.alloc _ _ = W at hr0 ⊢
  have HS : Hid (w.heap.size ≤ W0.heap.size) := Lib.hid HB0.out.size
  go_loopw [9] (fun i wr => ∃ k : Nat, k ≤ l0 ∧ i = .int .i64 k ∧ NpRel N W0 L k wr) (fun i _ => l0 - (intOf i).toNat)
  case atStart => exact ⟨0, Nat.zero_le _, rfl, hr0⟩
  case round =>
    obtain ⟨k, hk, rfl, hR0⟩ := hrel
    clear hr0
    by_cases hlt : k < l0
    · have hR : NpRel N W0 L k wr.drew := hR0.new (Below.refl _ _).drew
      obtain ⟨hbel, hsz⟩ := hR.below
      obtain ⟨hlc, rfl⟩ := HA0.out (by omega)
      obtain ⟨x, hx⟩ : ∃ x, L[k]? = some x := ⟨_, List.getElem?_eq_getElem (by have := HL.out; omega)⟩
      obtain ⟨s, th, kk, r, b', c, d, v⟩ := x
      obtain ⟨⟨d0, d1, d2, d3, d4, d5, d6, d7⟩, k0, k1, hbN⟩ := LY0.out.now HN.out hbel hx
      obtain ⟨z, n, hn, hC1, hC2⟩ := hR.round (by omega) hx
      have C1 := Lib.hid hC1
      have C2 := Lib.hid hC2
      have LN := Lib.hid (fun (X : World) (hb : Below N W0 X) => (LY0.out.now HN.out hb hx).1)
      have hkc : k < c0 := by omega
      have j0 : (0 : Int) ≤ (k : Int) := by omega
      have j1 : (k : Int) < (l0 : Int) := by omega
      have yz : (z != z) = false := by simp
      have yn : ((n : Int) != (n : Int)) = false := by simp
      clear hx hR0 hR hbel hsz hC1 hC2 hbN
      go_wp2_with fail
      go_region_held3 (fun w' => w'.cell? ⟨b0, o0 + k * 8, none⟩ = some (.int .i64 s) ∧ w'.cell? ⟨b0, o0 + k * 8 + 1, none⟩ = some (.int .i64 th) ∧ w'.cell? ⟨b0, o0 + k * 8 + 2, none⟩ = some (.int .u8 kk) ∧ w'.cell? ⟨b0, o0 + k * 8 + 3, none⟩ = some (.int .i64 r) ∧ w'.cell? ⟨b0, o0 + k * 8 + 4, none⟩ = some (.int .i64 b') ∧ w'.cell? ⟨b0, o0 + k * 8 + 5, none⟩ = some (.int .i64 c) ∧ w'.cell? ⟨b0, o0 + k * 8 + 6, none⟩ = some (.int .i64 d) ∧ w'.cell? ⟨b0, o0 + k * 8 + 7, none⟩ = some (.int .i64 v))
        (first
          | exact ⟨by assumption, by assumption, by assumption, by assumption, by assumption, by assumption, by assumption, by assumption⟩
          | exact ⟨by assumption, by assumption, by assumption, by assumption, by assumption, by assumption, by assumption, by assumption, by assumption⟩)
        (first
          | (go_at_call 54; ((with_reducible refine C1.out.mono ?_); rintro e w2 ⟨rfl, hM⟩; clear d0 d1 d2 d3 d4 d5 d6 d7 C1; obtain ⟨d0, d1, d2, d3, d4, d5, d6, d7⟩ := LN.out _ hM.below.1; have HM := Lib.hid hM; clear hM))
          | (go_at_call 56; refine (otherw _ _ _ _ _ _ _ _ _ k0 k1).mono ?_; rintro e w3 ⟨rfl, hk3⟩; have hM3 := HM.out.new hk3; clear d0 d1 d2 d3 d4 d5 d6 d7 hk3 HM; obtain ⟨d0, d1, d2, d3, d4, d5, d6, d7⟩ := LN.out _ hM3.below.1; have C3 := Lib.hid (C2.out _ hM3); clear hM3 C2)
          | (go_at_call 55; ((with_reducible refine C3.out.mono ?_); rintro e w4 ⟨rfl, hR4, ⟨ra, rcap, rq⟩, hcnt⟩; clear d0 d1 d2 d3 d4 d5 d6 d7 C3; obtain ⟨d0, d1, d2, d3, d4, d5, d6, d7⟩ := LN.out _ hR4.below.1; have HR4 := Lib.hid hR4; have C4 := Lib.hid hcnt; clear hR4 hcnt; have hA : Shut (∀ (a : Act) (w' : World), _ → (_ → wpAnyH _ _ _ _ _ _ _ a w') → _) := (by assumption); have eqn := shut_eq hA (fun w' => w'.cell? ⟨b0, o0 + k * 8, none⟩ = some (.int .i64 s) ∧ w'.cell? ⟨b0, o0 + k * 8 + 1, none⟩ = some (.int .i64 th) ∧ w'.cell? ⟨b0, o0 + k * 8 + 2, none⟩ = some (.int .u8 kk) ∧ w'.cell? ⟨b0, o0 + k * 8 + 3, none⟩ = some (.int .i64 r) ∧ w'.cell? ⟨b0, o0 + k * 8 + 4, none⟩ = some (.int .i64 b') ∧ w'.cell? ⟨b0, o0 + k * 8 + 5, none⟩ = some (.int .i64 c) ∧ w'.cell? ⟨b0, o0 + k * 8 + 6, none⟩ = some (.int .i64 d) ∧ w'.cell? ⟨b0, o0 + k * 8 + 7, none⟩ = some (.int .i64 v) ∧ w'.cell? ⟨N + 1, 0, none⟩ = some (.slice ra n rcap)) (fun w' h => ⟨h.1, h.2.1, h.2.2.1, h.2.2.2.1, h.2.2.2.2.1, h.2.2.2.2.2.1, h.2.2.2.2.2.2.1, h.2.2.2.2.2.2.2.1⟩); clear hA; simp only [eqn] at *; clear eqn))
          | (go_at_call 57; ((with_reducible refine C4.out.mono ?_); rintro e w5 ⟨rfl, rfl⟩; clear C4)))
      go_wp2_with fail
      go_roundw
      case rel => exact ⟨k + 1, by omega, by go_num, HR4.out⟩
      case measure => simp [intOf]; omega
    · obtain rfl : l0 = k := by omega
      obtain ⟨hbel, hsz⟩ := hR0.below
      have q0 := (hbel.cell (p := ⟨Q, 0, none⟩) sQ).trans Q0.out
      have q1 := (hbel.cell (p := ⟨Q, 1, none⟩) sQ).trans Q1.out
      have hML : (addsL (L.take l0)).length ≤ 200 := Nat.le_trans (addsL_len _) (Nat.le_trans (List.length_take_le _ _) hs0)
      have hMk := addsL_kind (L.take l0)
      have RD : ∀ X, Below wr.heap.size wr X → IsL X N (addsL (L.take l0)) ∧ (∃ T, Nrs X (N + 1) (addsL (L.take l0)) T) ∧ ∃ a cap, X.cell? ⟨N + 1, 0, none⟩ = some (.slice a (addsL (L.take l0)).length cap) ∧ Lies X a cap (addsL (L.take l0)).length (rowsR (addsL (L.take l0))) := fun X hb => (hR0.new hb).reads
      generalize addsL (L.take l0) = M at RD hML hMk
      replace RD := Lib.hid RD
      have HMK := Lib.hid hMk
      have HBE := Lib.hid hbel
      have q1w := q1
      have Q1W := Lib.hid q1
      have sQr : Q < wr.heap.size := by omega
      have hbr : Below wr.heap.size wr wr := Below.refl _ _
      have hNr : N + 1 < wr.heap.size := hsz
      obtain ⟨n1, hn1⟩ : ∃ n1, n1 = (M.drop a1.toNat).length := ⟨_, rfl⟩
      obtain ⟨n2, hn2⟩ : ∃ n2, n2 = (M.filter (soK a2_0)).length := ⟨_, rfl⟩
      have hm1 : n1 ≤ 200 := by rw [hn1, List.length_drop]; omega
      have hm2 : n2 ≤ 200 := by rw [hn2]; exact Nat.le_trans (List.length_filter_le _ _) hML
      have HN1 := Lib.hid hn1
      have HN2 := Lib.hid hn2
      clear hMk hR0 hbel hsz q1 q1w hn1 hn2
      go_wp2_with fail
      refine (sincew _ _ M a1 (RD.out _ hbr).1 (by omega)).mono ?_
      rintro e w1 ⟨va, rfl, La, K1⟩
      rw [← HN1.out] at La
      obtain ⟨aa, ca, rfl, -⟩ := La.lies
      clear q0
      go_wp2_with fail
      have hb1 := below_then hbr K1
      have LA1 := Lib.hid La
      refine (ofw _ _ M a2_0 (RD.out _ hb1).1 (by omega)).mono ?_
      rintro e w2 ⟨vb, rfl, Lb, K2⟩
      rw [← HN2.out] at Lb
      obtain ⟨ab, cb, rfl, -⟩ := Lb.lies
      go_wp2_with fail
      have hb2 := below_then hb1 K2
      have LB2 := Lib.hid Lb
      refine (allw _ _ M (RD.out _ hb2).1 (by omega)).mono ?_
      rintro e w3 ⟨vc, rfl, Lc, K3⟩
      obtain ⟨ac, cc, rfl, -⟩ := Lc.lies
      go_wp2_with fail
      have hb3 := below_then hb2 K3
      have LC3 := Lib.hid Lc
      obtain ⟨T, hT⟩ := (RD.out _ hb3).2.1
      refine (rsince hT (by omega) a1).mono ?_
      rintro e w4 ⟨vs, rfl, Ls, K4⟩
      rw [← HN1.out] at Ls
      obtain ⟨aS, cs, rfl, lis⟩ := Ls.lies
      have hb4 := below_then hb3 K4
      replace La := ((La.below K2 (Nat.le_refl _)).below K3 (Nat.le_refl _)).below K4 (Nat.le_refl _)
      replace Lb := (Lb.below K3 (Nat.le_refl _)).below K4 (Nat.le_refl _)
      replace Lc := Lc.below K4 (Nat.le_refl _)
      obtain ⟨a', c', e', lia⟩ := La.lies
      injection e' with e1 _ e2
      subst e1 e2
      go_wp2_with fail
      refine (same_many (L := M.drop a1.toNat) HN1.out.symm (by omega) (fun x hx => HMK.out x (List.mem_of_mem_drop hx)) lia lis).mono ?_
      rintro e w5 ⟨rfl, K5⟩
      have hb5 := below_then hb4 K5
      replace La := La.below K5 (Nat.le_refl _)
      replace Lb := Lb.below K5 (Nat.le_refl _)
      replace Lc := Lc.below K5 (Nat.le_refl _)
      clear lia lis hT Ls
      go_wp2_with fail
      obtain ⟨T', hT⟩ := (RD.out _ hb5).2.1
      refine (rof hT (by omega) a2_0).mono ?_
      rintro e w6 ⟨vs, rfl, Ls, K6⟩
      rw [← HN2.out] at Ls
      obtain ⟨aS, cs, rfl, lis⟩ := Ls.lies
      have hb6 := below_then hb5 K6
      replace La := La.below K6 (Nat.le_refl _)
      replace Lb := Lb.below K6 (Nat.le_refl _)
      replace Lc := Lc.below K6 (Nat.le_refl _)
      obtain ⟨a', c', e', lib⟩ := Lb.lies
      injection e' with e1 _ e2
      subst e1 e2
      go_wp2_with fail
      refine (same_many (L := M.filter (soK a2_0)) HN2.out.symm (by omega) (fun x hx => HMK.out x (List.mem_filter.mp hx).1) lib lis).mono ?_
      rintro e w7 ⟨rfl, K7⟩
      have hb7 := below_then hb6 K7
      replace La := La.below K7 (Nat.le_refl _)
      replace Lb := Lb.below K7 (Nat.le_refl _)
      replace Lc := Lc.below K7 (Nat.le_refl _)
      clear lib lis hT Ls
      obtain ⟨ra, rcap, rq, rl⟩ := (RD.out _ hb7).2.2
      obtain ⟨a', c', e', lic⟩ := Lc.lies
      injection e' with e1 _ e2
      subst e1 e2
      go_wp2_with fail
      refine (same_many (L := M) rfl (by omega) HMK.out lic rl).mono ?_
      rintro e w8 ⟨rfl, K8⟩
      have hb8 := below_then hb7 K8
      replace La := La.below K8 (Nat.le_refl _)
      replace Lb := Lb.below K8 (Nat.le_refl _)
      replace Lc := Lc.below K8 (Nat.le_refl _)
      clear lic rl rq
      go_wp2_with fail
      refine (spoil_any La (by omega)).mono ?_
      rintro e w9 ⟨rfl, K9⟩
      have hb9 := hb8.trans (K9.to_below (fun k _ e => (La.block k e).1) hb8.size)
      replace Lb := Lb.keep K9 (fun g hg e => by have h1 := (LA1.out.block g e).2; have h2 := (Lb.block g hg).1; omega)
      replace Lc := Lc.keep K9 (fun g hg e => by have h1 := (LA1.out.block g e).2; have h2 := (Lc.block g hg).1; have := K2.size; omega)
      go_wp2_with fail
      refine (spoil_any Lb (by omega)).mono ?_
      rintro e w10 ⟨rfl, K10⟩
      have hb10 := hb9.trans (K10.to_below (fun k _ e => Nat.le_trans K1.size (Lb.block k e).1) hb9.size)
      replace Lc := Lc.keep K10 (fun g hg e => by have h1 := (LB2.out.block g e).2; have h2 := (Lc.block g hg).1; omega)
      go_wp2_with fail
      refine (spoil_any Lc (by omega)).mono ?_
      rintro e w11 ⟨rfl, K11⟩
      have hb11 := hb10.trans (K11.to_below (fun k _ e => Nat.le_trans (Nat.le_trans K1.size K2.size) (Lc.block k e).1) hb10.size)
      have q1 := (hb11.cell (p := ⟨Q, 1, none⟩) sQr).trans Q1W.out
      obtain ⟨z1, z2, hz⟩ : ∃ z1 z2, dropF M a2_1 = (z1, z2) := ⟨_, _, rfl⟩
      have D1 := droppedw _ N M a2_1 (RD.out _ hb11).1 (by omega)
      simp only [hz] at D1
      have HB11 := Lib.hid hb11
      clear La Lb Lc K1 K2 K3 K4 K5 K6 K7 K8 K9 K10 K11 hb1 hb2 hb3 hb4 hb5 hb6 hb7 hb8 hb9 hb10 hb11 LA1 LB2 LC3
      have HZ := Lib.hid hz
      have C1 := Lib.hid D1
      clear hz D1
      go_wp2_with fail
      refine C1.out.mono ?_
      rintro e w12 ⟨rfl, K12⟩
      have hb12 := below_then HB11.out K12
      replace q1 := (hb12.cell (p := ⟨Q, 1, none⟩) sQr).trans Q1W.out
      obtain ⟨T2, hT⟩ := (RD.out _ hb12).2.1
      have D2 := rdropped hT (by omega) a2_1
      have hz := HZ.out
      simp only [hz] at D2
      have C2 := Lib.hid D2
      have HB12 := Lib.hid hb12
      clear hz D2 hT K12 hb12
      go_wp2_with fail
      refine C2.out.mono ?_
      rintro e w13 ⟨rfl, rfl⟩
      go_wp2_with fail
      have hb13 : Below wr.heap.size wr w12.drew := HB12.out.drew
      obtain ⟨ra, rcap, rq, rl⟩ := (RD.out _ hb13).2.2
      have CA := Lib.hid (allw _ N M (RD.out _ hb13).1 (by omega))
      have RL := Lib.hid rl
      have HB13 := Lib.hid hb13
      have lt12 : N + 1 < w12.heap.size := by have := HB12.out.size; omega
      have y1 : (z1 == z1) = true := by simp
      have y2 : (z2 == z2) = true := by simp
      clear q1 C1 C2 hb13 rl
      go_region_held3 (fun w' => w'.cell? ⟨N + 1, 0, none⟩ = some (.slice ra M.length rcap))
        (first | assumption)
        (first
          | (go_at_call 60; ((with_reducible refine CA.out.mono ?_); rintro e w14 ⟨vd, rfl, Ld, K14⟩; obtain ⟨ad, cd, rfl, lid⟩ := Ld.lies; replace rq := (K14.cell (p := ⟨N + 1, 0, none⟩) (show N + 1 < w12.heap.size by omega)).trans rq; have lt14 : N + 1 < w14.heap.size := (by have := K14.size; simp at this; omega); have C15 := Lib.hid (same_many (L := M) rfl (by omega) HMK.out lid (RL.out.new K14)); have HB14 := Lib.hid (below_then HB13.out K14); clear CA Ld lid K14))
          | (go_at_call 61; ((with_reducible refine C15.out.mono ?_); rintro e w15 ⟨rfl, K15⟩; replace rq := (K15.cell (p := ⟨N + 1, 0, none⟩) lt14).trans rq; have lt15 : N + 1 < w15.heap.size := (by have := K15.size; omega); have HB15 := Lib.hid (below_then HB14.out K15); clear C15 K15))
          | (go_at_call 52; refine (lives09 _).mono ?_; rintro e w16 ⟨rfl, K16⟩; replace rq := (K16.cell (p := ⟨N + 1, 0, none⟩) lt15).trans rq; have HB16 := Lib.hid (below_then HB15.out K16); clear K16))
      have hfin : Below w.heap.size w w16 := by
        have h1 := HBE.out.trans (HB16.out.mono (by omega))
        rw [HN.out] at h1
        exact below_then HB0.out h1
      clear rq
      go_wp2_with fail
      go_ret
      exact ⟨rfl, hfin⟩
end Go.Proofs.Yteofbgbjibbdaac
