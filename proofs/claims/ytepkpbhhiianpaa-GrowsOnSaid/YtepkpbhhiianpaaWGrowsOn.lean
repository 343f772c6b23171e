/- The law GrowsOn. -/
import Derived.Test.YtepkpbhhiianpaaMi
import Derived.Test.YtepkpbhhiianpaaGk
import Derived.Deep.Cut
import Derived.Deep.CutBlock
import Derived.Deep.QuietTactic
import Derived.BigQuiet
namespace Go.Proofs.Ytepkpbhhiianpaa
open Go.RowKit Go.Maps
set_option linter.unusedVariables false
/-- What stands at a round's head. -/
def GoR (G : Nat → Prop) (B m : Nat) (W X : World) (A : Ad) (n : Int) (k : Nat) : Prop := ∃ (V : Wv) (D : DataW Unit) (f : Int → Int), WdG G X A V ∧ V.f 2 = n ∧ V.cnt ≤ 10 * (k : Int) ∧ V.M.length ≤ 2 * k ∧ (∀ x, x ∈ V.M → x.s ≤ V.cnt) ∧ Mi X m (2 * k) D f ∧ (∀ z, n ≤ z → z ≤ 12 → f z = 0) ∧ (∀ z, isU z → f z ≤ 2 * (k : Int)) ∧ Kp (fun j => j < B) W X
theorem two_last (M : List Nv) (a b : Nv) : (M ++ [a] ++ [b])[M.length]? = some a ∧ (M ++ [a] ++ [b])[M.length + 1]? = some b := by
  constructor
  · rw [List.append_assoc, List.getElem?_append_right (Nat.le_refl _)]; simp
  · rw [List.append_assoc, List.getElem?_append_right (by omega)]; simp
set_option maxHeartbeats 8000000 in
set_option maxRecDepth 100000 in
theorem walk_GrowsOn (a0 : Int) (a1 : Int) (w : World) (w0 : (Lit.int .u8 a0).wf = true) (w1 : (Lit.int .u64 a1).wf = true) :
    Calls Try.prog 4 #[.int .u8 a0, .int .u64 a1] w fun e w' => e = .returned (.bool true) ∧ Below w.heap.size w w' := by
  have q0 := bounds_u8 w0
  have q1 := bounds_u64 w1
  have HU1 := Lib.hid (show isU a1 from ⟨q1.1, by omega⟩)
  obtain ⟨tm, htm⟩ : ∃ tm, a0.tmod 12 = tm := ⟨_, rfl⟩
  obtain ⟨n0, hn⟩ : ∃ n, 1 + tm = n := ⟨_, rfl⟩
  have hnr : 1 ≤ n0 ∧ n0 ≤ 12 := by rw [Int.tmod_eq_emod_of_nonneg q0.1] at htm; omega
  have y0 : IntKind.i64.wrap a0 = a0 := IntWalk.i64_in _ (by omega)
  have y1 : IntKind.i64.wrap tm = tm := IntWalk.i64_in _ (by omega)
  have y2 : IntKind.i64.wrap (1 + tm) = n0 := by rw [IntWalk.i64_in _ (by omega)]; exact hn
  have HN0 := Lib.hid hnr
  have CW := Lib.hid (fun X => worldN n0 hnr X)
  have hmm := @run_makeMap Try.prog
  clear w0 w1 q0 q1 hn hnr
  go_enter Try.func4, Try.ntmps4
  go_upto_region 5 with (go_at_call 7; ((with_reducible refine (CW.out _).mono ?_); rintro e w1 ⟨A, rfl, hW, hb1⟩; have HW1 := Lib.hid hW; have HB1 := Lib.hid hb1; clear hW hb1))
  clear y0 y1 y2 htm
  go_upto_block 1 with fail
  obtain ⟨m, hm⟩ : ∃ m, m = w1.heap.size := ⟨_, rfl⟩
  generalize hW2 : World.alloc w1 _ = W2
  rw [← hm]
  have b2 : Below w1.heap.size w1 W2 := by rw [← hW2]; exact gw_bs (Below.refl _ _)
  have hMi : Mi W2 m 0 (.map []) (fun _ => 0) := by rw [← hW2, hm]; exact Mi.made w1
  obtain ⟨G, hG⟩ : ∃ G : Nat → Prop, G = fun k => k < w.heap.size ∨ (w1.heap.size ≤ k ∧ k < W2.heap.size) := ⟨_, rfl⟩
  have hw2 := WdG.addN (HW1.out.g HB1.out.size) b2
  rw [← hG] at hw2
  have HG := Lib.hid (show G m ∧ (∀ k, k < w.heap.size → G k) ∧ ¬ m < w.heap.size by
    refine ⟨?_, ?_, ?_⟩
    · rw [hG]; exact .inr ⟨by omega, hMi.lt⟩
    · rw [hG]; exact fun k h => .inl h
    · have := HB1.out.size; omega)
  have HB2 := Lib.hid (below_then HB1.out b2)
  have HR0 : Hid (GoR G w.heap.size m W2 W2 A n0 0) := Lib.hid ⟨_, _, _, hw2, (show upd (fun _ => 0) 2 n0 2 = n0 from upd_same _ _ _), (show (0 : Int) ≤ 10 * ((0 : Nat) : Int) by decide), Nat.le_refl _, fun x hx => by simp [V0] at hx, hMi, fun z _ _ => rfl, fun z _ => (show (0 : Int) ≤ 2 * ((0 : Nat) : Int) by decide), Keeps.refl _ _⟩
  clear hm hmm hW2 b2 hMi hG hw2 HW1
  go_loopw [5] (fun i X => ∃ (k : Nat) (n : Int), n = n0 + (k : Int) ∧ n ≤ 12 ∧ i = .int .i64 n ∧ GoR G w.heap.size m W2 X A n k) (fun i _ => (12 - intOf i).toNat)
  case atStart => exact ⟨0, n0, by simp, by have := HN0.out; omega, rfl, HR0.out⟩
  case round =>
    clear HR0
    obtain ⟨k, n, hnk, hn12, rfl, V, D, f, hW, h2, hcn, hML, hMs, hMi, hf0, hfb, hK⟩ := hrel
    by_cases hlt : n < 12
    · have d0 : decide (n < 12) = true := decide_eq_true hlt
      have hk : (k : Int) ≤ 11 ∧ 1 ≤ n ∧ n ≤ 11 := by have := HN0.out; omega
      have HKN := Lib.hid (And.intro hnk hk)
      have HM0 := Lib.hid hMi
      have HNT := Lib.hid (And.intro hML hMs)
      have HF := Lib.hid (And.intro hf0 hfb)
      have HK := Lib.hid hK
      have c0 := hW.box.c0
      have CS := Lib.hid (gstore hW (a := 3) (v := a1) ⟨by decide, by decide⟩ HU1.out (by omega))
      have HC := Lib.hid hcn
      obtain ⟨V1, hV1⟩ : ∃ V1, V1 = V.acc (upd V.f 3 a1) 2 3 (V.f 3) a1 := ⟨_, rfl⟩
      rw [← hV1] at CS
      have HV1 := Lib.hid (show V1.f 2 = n ∧ V1.cnt = V.cnt + 1 ∧ V1.M = V.M by
        rw [hV1]
        exact ⟨(show upd V.f 3 a1 2 = n by rw [upd_other (by decide)]; exact h2), rfl, rfl⟩)
      clear hW h2 hcn hML hMs hMi hf0 hfb hK hlt hn12 hnk hV1
      generalize V.f 3 = v3 at *
      go_upto_region 9 with (go_at_call 10; ((with_reducible refine CS.out.mono ?_); rintro e w3 ⟨rfl, hW3, k3⟩))
      clear c0 d0 CS
      have c0 := hW3.box.c0
      have cp := gpeek hW3 (a := 2) ⟨by decide, by decide⟩
      rw [HV1.out.1] at cp
      have CP := Lib.hid cp
      have HW3 := Lib.hid hW3
      have HK3 := Lib.hid (Kp.to HK.out (k3.less HG.out.2.1))
      have hM3 := HM0.out.keep k3 (fun n => n HG.out.1)
      have hnU : isU n := ⟨by omega, by omega⟩
      have fn : f n = 0 := HF.out.1 n (by omega) (by omega)
      have LK := hM3.look hnU
      rw [fn] at LK
      have HM3 := Lib.hid hM3
      have HNU := Lib.hid hnU
      clear hW3 k3 cp hM3 hnU fn
      go_upto_region 10 with (go_at_call 12; ((with_reducible refine CP.out.mono ?_); rintro e w4 ⟨rfl, rfl⟩))
      clear c0 CP
      go_upto_region 11 with (at_mapUpdate; refine wpList_mapUpdate_own _ rfl _ _ _ 48 rfl 22 3 lawI Try.underlying48 (plainElem Try.prog 3) m (2 * k) D rfl HM3.out.1 (by unfold maxLen; have := HKN.out; omega) _ _ (kA n) rfl rfl (keyI HNU.out) (.lit (.int .i64 1)) [] (plainElem_int Try.underlying3 (isC_wf ⟨by decide, by decide⟩)) ?_; intro w4 own4 hg4)
      have k34 : Keeps (fun j => j = m) w3 w4 := (Keeps.refl _ w3).grown hg4 (fun j e => by simp at e; exact .inl e.symm)
      have HW4 := Lib.hid (HW3.out.keepX k34 (fun j e => e ▸ HG.out.1))
      have HM4 := Lib.hid (Mi.put HM3.out HNU.out ⟨by decide, by decide⟩ own4)
      have HK4 := Lib.hid (HK3.out.trans (T := fun j => ¬ j < w.heap.size) (k34.mono (fun j _ e => by rw [e]; exact HG.out.2.2)) (fun _ _ s => s))
      obtain ⟨f4, hf4⟩ : ∃ f4, f4 = upd f n 1 := ⟨_, rfl⟩
      rw [← hf4] at HM4
      have HF4 := Lib.hid (show (∀ z, n + 1 ≤ z → z ≤ 12 → f4 z = 0) ∧ ∀ z, isU z → f4 z ≤ 2 * (k : Int) + 1 from ⟨fun z h1 h2 => by rw [hf4, upd_other (by omega)]; exact HF.out.1 z (by omega) h2, fun z hz => by
        rw [hf4]
        by_cases e : z = n
        · rw [e, upd_same]; omega
        · rw [upd_other e]; have := HF.out.2 z hz; omega⟩)
      have hn1 := asO_one (b := n) ⟨HKN.out.2.2.1, by have := HKN.out; omega⟩
      have C1 := Lib.hid (fun X => newSwap_no n X HNU.out hn1.2)
      have C2 := Lib.hid (fun X => newGrow n X HNU.out hn1.2 hn1.1 (by have := HKN.out; omega))
      clear own4 hg4 k34 hf4 LK hn1
      go_wp2_with fail
      refine (C1.out _).mono ?_
      rintro e w5 ⟨q, rfl, hq, hs, lq, k5⟩
      have CO := Lib.hid (sov_t hq)
      have hw5 := HW4.out.new k5
      have HW5 := Lib.hid hw5
      have HM5 := Lib.hid (HM4.out.keep (S := fun _ => False) (Keeps.of_new k5) (fun s => s))
      have HK5 := Lib.hid (Kp.to HK4.out (Kp.of k5))
      clear hq hs lq k5 hw5 C1
      go_wp2_with fail
      refine CO.out.mono ?_
      rintro e w6 ⟨rfl, rfl⟩
      clear CO
      go_wp2_with fail
      refine (C2.out _).mono ?_
      rintro e w6 ⟨q, b, rfl, hq, hb, hs, lq, lb, hqb, k6⟩
      obtain ⟨t2, ht2⟩ : ∃ t2, t2 = wordf n (n + 1) := ⟨_, rfl⟩
      have htU : isU t2 := by rw [ht2]; have := HKN.out; unfold wordf; exact ⟨by omega, by omega⟩
      have CR := Lib.hid (gwRun HW5.out k6 hq hb hs lq lb hqb (t := t2) (by have := HV1.out; have := HC.out; have := HKN.out; omega) (by rw [HV1.out.2.2]; have := HNT.out.1; have := HKN.out; omega) ht2.symm htU)
      have HM6 := Lib.hid (HM5.out.keep (S := fun _ => False) (Keeps.of_new k6) (fun s => s))
      have HK6 := Lib.hid (Kp.to HK5.out (Kp.of k6))
      have HT2 := Lib.hid (And.intro ht2 htU)
      clear hq hb hs lq lb hqb k6 C2 ht2 htU
      go_wp2_with fail
      refine CR.out.mono ?_
      rintro e w7 ⟨rfl, V7, hW7, ⟨g2, g3, gc, gh, gg, gM⟩, k7⟩
      have c0 := hW7.box.c0
      have cp := gpeek hW7 (a := 3) ⟨by decide, by decide⟩
      rw [g3] at cp
      have CP := Lib.hid cp
      have cp2 := gpeek hW7 (a := 2) ⟨by decide, by decide⟩
      rw [g2] at cp2
      have CP2 := Lib.hid cp2
      have HW7 := Lib.hid hW7
      have HM7 := Lib.hid (HM6.out.keep k7 (fun n => n HG.out.1))
      have HK7 := Lib.hid (Kp.to HK6.out (k7.less HG.out.2.1))
      have HV7 := Lib.hid (show V7.f 2 = t2 ∧ V7.cnt = V.cnt + 3 ∧ V7.M = V.M ++ [(V.cnt + 3, V1.h, 4, 0, 0, 0, 0, n + 1)] by
        refine ⟨g2, by rw [gc, HV1.out.2.1]; omega, ?_⟩
        rw [gM, HV1.out.2.2, HV1.out.2.1, show V.cnt + 1 + 2 = V.cnt + 3 by omega]
        exact addL_snoc (fun y hy => by have := HNT.out.2 y hy; show y.s ≤ V.cnt + 3; omega) (by have := HNT.out.1; have := HKN.out; omega) (show iskf 4 = true by decide))
      clear CR hW7 g2 g3 gc gh gg gM k7 cp cp2
      go_wp2_with fail
      refine CP.out.mono ?_
      rintro e w8 ⟨rfl, rfl⟩
      clear CP
      go_wp2_with fail
      refine CP2.out.mono ?_
      rintro e w8 ⟨rfl, rfl⟩
      clear CP2 c0
      obtain ⟨y, hy⟩ : ∃ y, f4 t2 = y := ⟨_, rfl⟩
      have hyr : 0 ≤ y ∧ y ≤ 30 := by
        have h1 := HF4.out.2 t2 HT2.out.2
        have h2 := (HM7.out.2.2 t2 HT2.out.2).1
        have := HKN.out
        omega
      have LK := HM7.out.look HT2.out.2
      rw [hy] at LK
      have HTU := Lib.hid HT2.out.2
      have HY := Lib.hid hyr
      obtain ⟨y1, hy1⟩ : ∃ y1, y1 = y + 1 := ⟨_, rfl⟩
      have yw : IntKind.i64.wrap (y + 1) = y1 := by rw [IntWalk.i64_in _ (by omega)]; exact hy1.symm
      have HY1 := Lib.hid (show isC y1 ∧ y1 ≤ 2 * (k : Int) + 2 by have h1 := HF4.out.2 t2 HT2.out.2; exact ⟨⟨by omega, by omega⟩, by omega⟩)
      clear hyr hy hy1
      go_upto_region 15 with (at_mapUpdate; refine wpList_mapUpdate_own _ rfl _ _ _ 48 rfl 22 3 lawI Try.underlying48 (plainElem Try.prog 3) m (2 * k + 1) _ rfl HM7.out.1 (by unfold maxLen; have := HKN.out; omega) _ _ (kA t2) rfl rfl (keyI HTU.out) (.lit (.int .i64 y1)) [] (plainElem_int Try.underlying3 (isC_wf HY1.out.1)) ?_; intro w8 own8 hg8)
      have k78 : Keeps (fun j => j = m) w7 w8 := (Keeps.refl _ w7).grown hg8 (fun j e => by simp at e; exact .inl e.symm)
      have HW8 := Lib.hid (HW7.out.keepX k78 (fun j e => e ▸ HG.out.1))
      have HM8 := Lib.hid (Mi.put HM7.out HTU.out HY1.out.1 own8)
      have HK8 := Lib.hid (HK7.out.trans (T := fun j => ¬ j < w.heap.size) (k78.mono (fun j _ e => by rw [e]; exact HG.out.2.2)) (fun _ _ s => s))
      obtain ⟨f8, hf8⟩ : ∃ f8, f8 = upd f4 t2 y1 := ⟨_, rfl⟩
      rw [← hf8] at HM8
      have HF8 := Lib.hid (show (∀ z, n + 1 ≤ z → z ≤ 12 → f8 z = 0) ∧ ∀ z, isU z → f8 z ≤ 2 * ((k + 1 : Nat) : Int) from ⟨fun z h1 h2 => by rw [hf8, upd_other (by have e2 := HT2.out.1; unfold wordf at e2; have := HKN.out; omega)]; exact HF4.out.1 z h1 h2, fun z hz => by
        rw [hf8]
        by_cases e : z = t2
        · rw [e, upd_same]; have := HY1.out.2; omega
        · rw [upd_other e]; have := HF4.out.2 z hz; omega⟩)
      have hto := asO_two (b := n) ⟨HKN.out.2.2.1, HKN.out.2.2.2⟩
      rw [← HT2.out.1] at hto
      have ca := fun X => asw t2 X HT2.out.2.1 (by have := HT2.out.2.2; omega)
      rw [hto.1, hto.2] at ca
      have CA := Lib.hid ca
      have C1 := Lib.hid (fun X => newGrow_no t2 X HT2.out.2 (.inl (by rw [hto.2]; have := HKN.out; omega)))
      have C2 := Lib.hid (fun X => newSwap t2 X HT2.out.2 hto.2 hto.1 (by have := HKN.out; omega))
      obtain ⟨n1, hn1⟩ : ∃ n1, n1 = n + 1 := ⟨_, rfl⟩
      have hn1r : 2 ≤ n1 ∧ n1 ≤ 12 := by have := HKN.out; omega
      have yn : IntKind.i64.wrap (n + 1) = n1 := by rw [IntWalk.i64_in _ (by omega)]; exact hn1.symm
      have HN1 := Lib.hid (And.intro hn1 hn1r)
      rw [← hn1] at CA C2 HV7 HF8
      have nn : (n != n) = false := by simp
      have nm : (n1 != n1) = false := by simp
      clear own8 hg8 k78 hf8 LK yw ca hto hn1 hn1r hk
      go_wp2_with fail
      refine (CA.out _).mono ?_
      rintro e w9 ⟨rfl, k9⟩
      have HW9 := Lib.hid (HW8.out.new k9)
      have HM9 := Lib.hid (HM8.out.keep (S := fun _ => False) (Keeps.of_new k9) (fun s => s))
      have HK9 := Lib.hid (Kp.to HK8.out (Kp.of k9))
      clear k9 CA
      go_wp2_with fail
      refine (C1.out _).mono ?_
      rintro e w10 ⟨q, rfl, hq, hs, lq, k10⟩
      have CO := Lib.hid (gov_t hq)
      have HW10 := Lib.hid (HW9.out.new k10)
      have HM10 := Lib.hid (HM9.out.keep (S := fun _ => False) (Keeps.of_new k10) (fun s => s))
      have HK10 := Lib.hid (Kp.to HK9.out (Kp.of k10))
      clear hq hs lq k10 C1
      go_wp2_with fail
      refine CO.out.mono ?_
      rintro e w11 ⟨rfl, rfl⟩
      clear CO
      go_wp2_with fail
      refine (C2.out _).mono ?_
      rintro e w11 ⟨q, b, rfl, hq, hb, hs, lq, lb, hqb, k11⟩
      have CR := Lib.hid (swRun HW10.out k11 hq hb hs lq lb hqb (t := n1) (by have := HV7.out.2.1; have := HC.out; have := HKN.out; omega) (by rw [HV7.out.2.2, List.length_append]; simp; have := HNT.out.1; have := HKN.out; omega) (by have := HN1.out; unfold wordf; omega) ⟨by have := HN1.out; omega, by have := HN1.out; omega⟩)
      have HM11 := Lib.hid (HM10.out.keep (S := fun _ => False) (Keeps.of_new k11) (fun s => s))
      have HK11 := Lib.hid (Kp.to HK10.out (Kp.of k11))
      clear hq hb hs lq lb hqb k11 C2
      go_wp2_with fail
      refine CR.out.mono ?_
      rintro e w12 ⟨rfl, V12, hW12, ⟨g2, g3, gc, gh, gg, gM⟩, k12⟩
      have c0 := hW12.box.c0
      have c2 := hW12.box.c2
      have cp2 := gpeek hW12 (a := 2) ⟨by decide, by decide⟩
      rw [g2] at cp2
      have CP2 := Lib.hid cp2
      have HW12 := Lib.hid hW12
      have HM12 := Lib.hid (HM11.out.keep k12 (fun n => n HG.out.1))
      have HK12 := Lib.hid (Kp.to HK11.out (k12.less HG.out.2.1))
      have hM12 : V12.M = V.M ++ [(V.cnt + 3, V1.h, 4, 0, 0, 0, 0, n1)] ++ [(V.cnt + 4, V7.h, 5, 0, 0, 0, 0, n1)] := by
        rw [gM, HV7.out.2.2, HV7.out.2.1, show V.cnt + 3 + 1 = V.cnt + 4 by omega]
        refine addL_snoc (fun y hy => ?_) ?_ (show iskf 5 = true by decide)
        · simp at hy
          show y.s ≤ V.cnt + 4
          rcases hy with hy | rfl
          · have := HNT.out.2 y hy; omega
          · show V.cnt + 3 ≤ V.cnt + 4; omega
        · rw [List.length_append]; simp; have := HNT.out.1; have := HKN.out; omega
      have HV12 := Lib.hid (show V12.f 2 = n1 ∧ V12.cnt = V.cnt + 4 ∧ V12.M = V.M ++ [(V.cnt + 3, V1.h, 4, 0, 0, 0, 0, n1)] ++ [(V.cnt + 4, V7.h, 5, 0, 0, 0, 0, n1)] from ⟨g2, by rw [gc, HV7.out.2.1]; omega, hM12⟩)
      obtain ⟨ml, hml⟩ : ∃ ml, ml = V.M.length := ⟨_, rfl⟩
      obtain ⟨m2, hm2⟩ : ∃ m2, m2 = ml + 2 := ⟨_, rfl⟩
      have hl12 : V12.M.length = m2 := by rw [hM12]; simp; omega
      have cn := gnotes hW12 (by omega) (by have := HNT.out.1; have := HKN.out; omega)
      rw [hl12] at cn
      have CN := Lib.hid cn
      have CAn := Lib.hid (fun X => asw n1 X (by have := HN1.out; omega) (by have := HN1.out; omega))
      have hn1a := asO_one (b := n1) ⟨by have := HN1.out; omega, by have := HN1.out; omega⟩
      rw [hn1a.1, hn1a.2] at CAn
      have HML := Lib.hid (And.intro hml (And.intro hm2 (show ml ≤ 30 by have := HNT.out.1; have := HKN.out; omega)))
      clear CR hW12 g2 g3 gc gh gg gM k12 cp2 cn hM12 hml hm2 hl12 hn1a
      go_wp2_with fail
      refine CP2.out.mono ?_
      rintro e w13 ⟨rfl, rfl⟩
      clear CP2 c0
      go_wp2_with fail
      refine (CAn.out _).mono ?_
      rintro e w13 ⟨rfl, k13⟩
      have HW13 := Lib.hid (HW12.out.new k13)
      have HM13 := Lib.hid (HM12.out.keep (S := fun _ => False) (Keeps.of_new k13) (fun s => s))
      have HK13 := Lib.hid (Kp.to HK12.out (Kp.of k13))
      replace c2 := (k13.cell (p := ⟨A.p, 2, none⟩) (World.block_lt_of_cell? _ _ c2)).trans c2
      have cn := fun X (hb : Below w12.heap.size w12 X) => gnotes (HW12.out.new hb) (by rw [HV12.out.2.2]; simp) (by rw [HV12.out.2.2]; simp; have := HML.out; omega)
      have hl12 : V12.M.length = m2 := by rw [HV12.out.2.2]; simp; have := HML.out; omega
      rw [hl12] at cn
      have CN13 := Lib.hid (cn w13 k13)
      clear CAn CN cn hl12 k13
      go_wp2_with fail
      refine CN13.out.mono ?_
      rintro e w14 ⟨g, cap, rfl, hcap, hN, k14⟩
      have HW14 := Lib.hid (HW13.out.new k14)
      have HM14 := Lib.hid (HM13.out.keep (S := fun _ => False) (Keeps.of_new k14) (fun s => s))
      have HK14 := Lib.hid (Kp.to HK13.out (Kp.of k14))
      obtain ⟨m1, hm1⟩ : ∃ m1, m1 = ml + 1 := ⟨_, rfl⟩
      obtain ⟨sc, hsc⟩ : ∃ sc, sc = V.cnt + 4 := ⟨_, rfl⟩
      have hat1 : V12.M[m1]? = some (sc, V7.h, 5, 0, 0, 0, 0, n1) := by
        rw [HV12.out.2.2, hm1, HML.out.1, hsc]
        exact (two_last _ _ _).2
      have hat0 : V12.M[ml]? = some (V.cnt + 3, V1.h, 4, 0, 0, 0, 0, n1) := by
        rw [HV12.out.2.2, HML.out.1]
        exact (two_last _ _ _).1
      have d0 : w14.cell? ⟨g, m1 * 8, none⟩ = some (.int .i64 sc) := hN.2 m1 _ hat1 0 _ (by decide) rfl
      have d7 : w14.cell? ⟨g, m1 * 8 + 7, none⟩ = some (.int .i64 n1) := hN.2 m1 _ hat1 7 _ (by decide) rfl
      have e7 : w14.cell? ⟨g, ml * 8 + 7, none⟩ = some (.int .i64 n1) := hN.2 ml _ hat0 7 _ (by decide) rfl
      have LK : ∀ n', (Instr.lookup 48 (.map (some m)) (.int .u64 n1) false).run Try.prog (w14.drewN n') = .ok (.int .i64 0) (w14.drewN n') := fun n' => by
        have := (HM14.out.keep (S := fun _ => False) (Keeps.of_new (belowWd (Below.refl _ _) n')) (fun s => s)).look (a := n1) ⟨by have := HN1.out; omega, by have := HN1.out; omega⟩
        rwa [HF8.out.1 n1 (by have := HN1.out; omega) (by have := HN1.out; omega)] at this
      have CSt := Lib.hid (fun n' => by
        have := gsteps (HW14.out.new (belowWd (Below.refl w14.heap.size w14) n'))
        rwa [HV12.out.2.1, ← hsc] at this)
      have ym1 : IntKind.i64.wrap ((m2 : Int) - 1) = (m1 : Int) := by rw [IntWalk.i64_in _ (by have := HML.out; omega)]; have := HML.out; omega
      have ym2 : IntKind.i64.wrap ((m2 : Int) - 2) = (ml : Int) := by rw [IntWalk.i64_in _ (by have := HML.out; omega)]; have := HML.out; omega
      have i1 : (0 : Int) ≤ (m1 : Int) := by omega
      have i2 : (m1 : Int) < (m2 : Int) := by have := HML.out; omega
      have i3 : (0 : Int) ≤ (ml : Int) := by omega
      have i4 : (ml : Int) < (m2 : Int) := by have := HML.out; omega
      have t2' : decide ((m2 : Int) < 2) = false := decide_eq_false (by have := HML.out; omega)
      have t3' : decide (m2 < 2) = false := decide_eq_false (by have := HML.out; omega)
      have ns : (sc != sc) = false := by simp
      have z1 : ((0 : Int) != 0) = false := by simp
      have hm12 : m2 ≤ 9223372036854775807 := by have := HML.out; omega
      clear hat0 hat1 hN k14 c2 CN13 hm1 hsc
      go_wp2_with fail
      go_quiet ((go_at_call 25; exact quiet_left (CSt.out _)))
      clear d0 d7 e7 LK ym1 ym2 i1 i2 i3 i4 t2' t3' ns nm nn z1 hm12
      have hn11 : n ≤ 11 := by have := HKN.out; omega
      have hn1' : 1 ≤ n := by have := HKN.out; omega
      go_wp2_with fail
      go_roundw
      case rel =>
        have hbq : Below w14.heap.size w14 (w14.drewN nq) := belowWd (Below.refl _ _) nq
        have hMx := HM14.out.keep (S := fun _ => False) (Keeps.of_new hbq) (fun s => s)
        rw [show 2 * k + 1 + 1 = 2 * (k + 1) by omega] at hMx
        refine ⟨k + 1, n1, by have h1 := HKN.out.1; have h2 := HN1.out.1; omega, by have := HN1.out; omega, rfl, V12, _, f8, HW14.out.new hbq, HV12.out.1, ?_, ?_, ?_, hMx, ?_, HF8.out.2, Kp.to HK14.out (Kp.of hbq)⟩
        · rw [HV12.out.2.1]; have := HC.out; omega
        · rw [HV12.out.2.2]; simp; have := HNT.out.1; omega
        · intro x hx
          rw [HV12.out.2.2] at hx
          rw [HV12.out.2.1]
          simp at hx
          rcases hx with hx | rfl | rfl
          · have := HNT.out.2 x hx; omega
          · show V.cnt + 3 ≤ V.cnt + 4; omega
          · show V.cnt + 4 ≤ V.cnt + 4; omega
        · intro z h1 h2
          exact HF8.out.1 z (by have := HN1.out; omega) h2
      case measure => have := HN1.out; simp [intOf]; omega
    · obtain rfl : n = 12 := by omega
      have c0 := hW.box.c0
      have cp := gpeek hW (a := 2) ⟨by decide, by decide⟩
      rw [h2] at cp
      have CP := Lib.hid cp
      have C1 := Lib.hid (fun X => newGrow_no 12 X ⟨by decide, by decide⟩ (.inr (by decide)))
      have C2 := Lib.hid (fun X => newSwap_no 12 X ⟨by decide, by decide⟩ (by decide))
      have HBX := Lib.hid (HB2.out.trans (Kp.below hK HB2.out.size))
      clear hW h2 hcn hML hMs hMi hf0 hfb hK hlt hn12 hnk cp
      go_wp2_with fail
      refine CP.out.mono ?_
      rintro e w3 ⟨rfl, rfl⟩
      clear c0 CP
      go_wp2_with fail
      refine (C1.out _).mono ?_
      rintro e w5 ⟨q, rfl, hq, hs, lq, k5⟩
      have CO := Lib.hid (gov_t hq)
      have HB5 := Lib.hid (below_then HBX.out k5)
      clear hq hs lq k5
      go_wp2_with fail
      refine CO.out.mono ?_
      rintro e w6 ⟨rfl, rfl⟩
      clear CO
      go_wp2_with fail
      refine (C2.out _).mono ?_
      rintro e w6 ⟨q, rfl, hq, hs, lq, k6⟩
      have CO := Lib.hid (sov_t hq)
      have HB6 := Lib.hid (below_then HB5.out k6)
      clear hq hs lq k6
      go_wp2_with fail
      refine CO.out.mono ?_
      rintro e w7 ⟨rfl, rfl⟩
      clear CO
      go_wp2_with fail
      refine (lives19 _).mono ?_
      rintro e w8 ⟨rfl, k8⟩
      go_wp2_with fail
      go_ret
      exact ⟨rfl, below_then HB6.out k8⟩
end Go.Proofs.Ytepkpbhhiianpaa
