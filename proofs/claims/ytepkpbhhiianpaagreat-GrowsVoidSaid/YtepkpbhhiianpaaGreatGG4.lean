/- A world of first bits. -/
import Derived.Test.YtepkpbhhiianpaaGreatWd2
import Derived.Test.YtepkpbhhiianpaaGreatGGw
import Derived.LoopTactic
namespace Go.Proofs.YtepkpbhhiianpaaGreat
open Go.RowKit Go.Maps
set_option linter.unusedVariables false
def IsWn (w : World) (b : Int) (e : Ending) (w' : World) : Prop := ∃ A, e = .returned (.pointer (some ⟨A.p, 0, none⟩)) ∧ WdB w' A (V0 ⟨b, 8, 3, 1, 16⟩) w.heap.size ∧ Below w.heap.size w w'
theorem worldN (b : Int) (hb : 1 ≤ b ∧ b ≤ 12) (w : World) : Calls Tryz.prog 43 #[.int .i64 b] w (IsWn w b) := by
  have C := Lib.hid (newW b 8 3 1 16 w (by unfold mayc; simp; omega))
  clear hb
  go_enter Tryz.func43, Tryz.ntmps43
  go_wp2_with fail
  refine C.out.mono ?_
  rintro e w1 ⟨A, rfl, hW, K⟩
  have HW := Lib.hid hW
  have HK := Lib.hid K
  clear hW K C
  go_wp2_with fail
  go_ret
  exact ⟨A, rfl, HW.out, HK.out⟩
end Go.Proofs.YtepkpbhhiianpaaGreat
/- Next: Growths and swaps of tables: Run; the examples of chapter 19. -/
namespace Go.Proofs.YtepkpbhhiianpaaGreat
open Go.RowKit Go.Maps
set_option linter.unusedVariables false
section
variable {G : Nat → Prop} {w W : World} {A : Ad} {V : Wv} {q b : Nat} {o n t : Int} {a : Option Addr} {l c : Nat}
/-- A new operation beside a world. -/
theorem opwG {C : List Value} (h : WdG G w A V) (ho : Ob W q C) (hq : w.heap.size ≤ q) (hb : Below w.heap.size w W) : Opw G W A V q C := by
  obtain ⟨S, h1, h2, h3⟩ := h
  exact ⟨S, h1.new hb, h2, fun s => by have := h1.lt _ s; omega, ho, fun g => by have := h3 _ g; omega, fun k g => Nat.lt_of_lt_of_le (h3 k g) hb.size⟩
/-- The same beside one block more of the operation's. -/
theorem opwGb {C : List Value} (h : WdG G w A V) (ho : Ob W q C) (hq : w.heap.size ≤ q) (hb : Below w.heap.size w W) (hB : w.heap.size ≤ b) (hb2 : b < W.heap.size) (hqb : q ≠ b) : Opw (fun k => G k ∨ k = b) W A V q C := by
  obtain ⟨S, h1, h2, h3⟩ := h
  refine ⟨S, h1.new hb, fun k g s => ?_, fun s => by have := h1.lt _ s; omega, ho, fun g => ?_, fun k g => ?_⟩
  · rcases g with g | rfl
    · exact h2 k g s
    · have := h1.lt _ s; omega
  · rcases g with g | g
    · have := h3 _ g; omega
    · exact hqb g
  · rcases g with g | rfl
    · exact Nat.lt_of_lt_of_le (h3 k g) hb.size
    · exact hb2
/-- What a run leaves. -/
def RunW (G : Nat → Prop) (w : World) (A : Ad) (V : Wv) (t z k kd n : Int) (e : Ending) (w' : World) : Prop := e = .returned (.int .i64 k) ∧ ∃ V' : Wv, WdG G w' A V' ∧ (V'.f 2 = t ∧ V'.f 3 = z ∧ V'.cnt = V.cnt + k ∧ V'.h = V.h ∧ V'.c = V.c ∧ V'.M = addL V.M (V.cnt + k, V.h, kd, 0, 0, 0, 0, n)) ∧ Kp G w w'
set_option maxHeartbeats 1000000 in
set_option maxRecDepth 100000 in
theorem gwRun (h : WdG G w A V) (hW : Below w.heap.size w W) (ho : Ob W q (gwC (.slice (some ⟨b, 0, none⟩) 2 2) o n)) (hob : Ob W b [.int .i64 0, .int .i64 1]) (hs : Shp W q 84) (hq : w.heap.size ≤ q) (hB : w.heap.size ≤ b) (hqb : q ≠ b) (hc : V.cnt < 100000000) (hM : V.M.length ≤ 1000000) (ht : wordf o n = t) (hu : isU t) :
    Calls Tryz.prog 45 #[.pointer (some ⟨A.p, 0, none⟩), .iface 62 (.pointer (some ⟨q, 0, none⟩)), .int .i64 9] W (RunW G W A V t 0 2 4 n) := by
  have h0 := opwGb (b := b) h ho hq hW hB hob.lt hqb
  have C1 := Lib.hid (gst (P := fun w' => Opw (fun k => G k ∨ k = b) w' A (V.acc (upd V.f 3 0) 2 3 (V.f 3) 0) q (gwC (.slice (some ⟨b, 1, none⟩) 1 1) o n) ∧ Shp w' q 84 ∧ Kp (fun k => G k ∨ k = b) W w') (gcstep2 h0 hs (hob.at_ 0 _ rfl) (by omega)))
  have CO := Lib.hid (gov_f ho (by decide))
  have HOB := Lib.hid hob
  have HC := Lib.hid (And.intro hc (And.intro hM (And.intro ht hu)))
  clear h h0 hW ho hob hs hq hB hqb hc hM ht hu
  go_enter Tryz.func45, Tryz.ntmps45
  go_wp2_with fail
  refine wp_loop_rounds 3 ?_
  rw [rounds_succ]
  go_wp2_with fail
  refine CO.out.mono ?_
  rintro e w100 ⟨rfl, rfl⟩
  go_wp2_with fail
  refine C1.out.mono ?_
  rintro e w1 ⟨rfl, hT, hS, K⟩
  clear CO C1
  have HK1 := Lib.hid K
  have CO := Lib.hid (gov_f hT.ob (by decide))
  obtain ⟨V1, hV1⟩ : ∃ V1, V1 = V.acc (upd V.f 3 0) 2 3 (V.f 3) 0 := ⟨_, rfl⟩
  have HV1 := Lib.hid hV1
  rw [← hV1] at hT
  have C1 := Lib.hid (gst (P := fun w' => Opw (fun k => G k ∨ k = b) w' A ((V1.acc (upd V1.f 2 t) 2 2 (V1.f 2) t).note (V1.cnt + 1, V1.h, 4, 0, 0, 0, 0, n)) q (gwC (.slice (some ⟨b, 1, none⟩) 0 0) o n) ∧ Shp w' q 84 ∧ Kp (fun k => G k ∨ k = b) w1 w') (gcstep1 hT hS (K.cell (p := ⟨b, 1, none⟩) (fun n => n (.inr rfl)) (HOB.out.at_ 1 _ rfl)) (by rw [hV1]; show V.cnt + 1 < _; have := HC.out.1; omega) (by rw [hV1]; have := HC.out.2.1; show V.M.length ≤ _; omega) HC.out.2.2.1 HC.out.2.2.2))
  clear hT hS K hV1
  go_wp2_with fail
  rw [rounds_succ]
  go_wp2_with fail
  refine CO.out.mono ?_
  rintro e w101 ⟨rfl, rfl⟩
  go_wp2_with fail
  refine C1.out.mono ?_
  rintro e w2 ⟨rfl, hT, hS, K⟩
  clear CO C1
  have CO := Lib.hid (gov_t hT.ob)
  have HT := Lib.hid hT
  have HK := Lib.hid (Kp.to HK1.out K)
  clear hT hS K
  go_wp2_with fail
  rw [rounds_succ]
  go_wp2_with fail
  refine CO.out.mono ?_
  rintro e w200 ⟨rfl, rfl⟩
  go_wp2_with fail
  go_ret
  have hv := HV1.out
  refine ⟨rfl, _, HT.out.wdG.less (fun k g => .inl (.inl g)), ⟨?_, ?_, ?_, ?_, ?_, ?_⟩, HK.out.less (fun k g => .inl g)⟩
  · show upd V1.f 2 t 2 = t
    exact upd_same _ _ _
  · show upd V1.f 2 t 3 = 0
    rw [upd_other (by decide), hv]
    show upd V.f 3 0 3 = 0
    exact upd_same _ _ _
  · rw [hv]; show V.cnt + 1 + 1 = V.cnt + 2; omega
  · rw [hv]; rfl
  · rw [hv]; rfl
  · rw [hv]; show addL V.M (V.cnt + 1 + 1, V.h, 4, 0, 0, 0, 0, n) = _; rw [show V.cnt + 1 + 1 = V.cnt + 2 by omega]
set_option maxHeartbeats 1000000 in
set_option maxRecDepth 100000 in
theorem swRun (h : WdG G w A V) (hW : Below w.heap.size w W) (ho : Ob W q (gwC (.slice (some ⟨b, 0, none⟩) 1 1) o n)) (hob : Ob W b [.int .i64 2]) (hs : Shp W q 90) (hq : w.heap.size ≤ q) (hB : w.heap.size ≤ b) (hqb : q ≠ b) (hc : V.cnt < 100000000) (hM : V.M.length ≤ 1000000) (ht : wordf n 0 = t) (hu : isU t) :
    Calls Tryz.prog 45 #[.pointer (some ⟨A.p, 0, none⟩), .iface 66 (.pointer (some ⟨q, 0, none⟩)), .int .i64 9] W (RunW G W A V t (V.f 3) 1 5 n) := by
  have h0 := opwG h ho hq hW
  have C1 := Lib.hid (sst (P := fun w' => Opw G w' A ((V.acc (upd V.f 2 t) 2 2 (V.f 2) t).note (V.cnt + 1, V.h, 5, 0, 0, 0, 0, n)) q (gwC (.slice (some ⟨b, 0, none⟩) 0 0) o n) ∧ Shp w' q 90 ∧ Kp G W w') (scstep1 h0 hs (hob.at_ 0 _ rfl) (by omega) (by omega) ht hu))
  have CO := Lib.hid (sov_f ho (by decide))
  clear h h0 hW ho hob hs hq hB hqb hc hM ht hu
  go_enter Tryz.func45, Tryz.ntmps45
  go_wp2_with fail
  refine wp_loop_rounds 2 ?_
  rw [rounds_succ]
  go_wp2_with fail
  refine CO.out.mono ?_
  rintro e w100 ⟨rfl, rfl⟩
  go_wp2_with fail
  refine C1.out.mono ?_
  rintro e w2 ⟨rfl, hT, hS, K⟩
  clear CO C1
  have CO := Lib.hid (sov_t hT.ob)
  have HT := Lib.hid hT
  have HK := Lib.hid K
  clear hT hS K
  go_wp2_with fail
  rw [rounds_succ]
  go_wp2_with fail
  refine CO.out.mono ?_
  rintro e w200 ⟨rfl, rfl⟩
  go_wp2_with fail
  go_ret
  refine ⟨rfl, _, HT.out.wdG.less (fun k g => .inl g), ⟨(show upd V.f 2 t 2 = t from upd_same _ _ _), (show upd V.f 2 t 3 = V.f 3 from upd_other (by decide)), rfl, rfl, rfl, rfl⟩, HK.out⟩
end
end Go.Proofs.YtepkpbhhiianpaaGreat
/- Next: Growths and swaps of tables: the examples of chapter 19. -/
namespace Go.Proofs.YtepkpbhhiianpaaGreat
open Go.RowKit Go.Maps
set_option linter.unusedVariables false
theorem asO_one {b : Int} (h : 1 ≤ b ∧ b ≤ 12) : asO b = b ∧ asN b = 0 := by
  have e : b % 256 = b := by omega
  have ho : asO b = b := by unfold asO; rw [e, if_pos h]
  refine ⟨ho, ?_⟩
  unfold asN
  rw [ho, if_neg (by omega)]
theorem asO_two {b : Int} (h : 1 ≤ b ∧ b ≤ 11) : asO (wordf b (b + 1)) = b ∧ asN (wordf b (b + 1)) = b + 1 := by
  have hw : wordf b (b + 1) = b + (b + 1) * 256 := by unfold wordf; omega
  have e : (b + (b + 1) * 256) % 256 = b := by omega
  have e2 : (b + (b + 1) * 256) / 256 % 256 = b + 1 := by omega
  have ho : asO (b + (b + 1) * 256) = b := by unfold asO; rw [e, if_pos ⟨h.1, by omega⟩]
  rw [hw]
  refine ⟨ho, ?_⟩
  unfold asN
  rw [ho, e2, if_pos ⟨rfl, by omega⟩]
theorem addL_len19 (L : List Nv) (x : Nv) : (addL L x).length ≤ L.length + 1 := by
  unfold addL
  split <;> simp
set_option maxHeartbeats 2000000 in
set_option maxRecDepth 100000 in
theorem lives19 (w : World) : Calls Tryz.prog 22 #[] w fun e w' => e = .returned (.bool true) ∧ Below w.heap.size w w' := by
  have CN := Lib.hid (fun X => newGrow 2 X ⟨by decide, by decide⟩ (o := 2) (by decide) (by decide) (by decide))
  have CS := Lib.hid (fun X => newSwap 770 X ⟨by decide, by decide⟩ (o := 2) (n := 3) (by decide) (by decide) (by decide))
  have N1 := Lib.hid (fun X => newGrow_no 770 X ⟨by decide, by decide⟩ (.inl (by decide)))
  have N2 := Lib.hid (fun X => newSwap_no 3 X ⟨by decide, by decide⟩ (by decide))
  have N3 := Lib.hid (fun X => newGrow_no 12 X ⟨by decide, by decide⟩ (.inr (by decide)))
  have CW := Lib.hid (fun X => worldN 2 ⟨by decide, by decide⟩ X)
  go_enter Tryz.func22, Tryz.ntmps22
  go_wp2_with fail
  refine (CW.out _).mono ?_
  rintro e w1 ⟨A, rfl, hW1, K1⟩
  have g1 := hW1.g K1.size
  have HK1 := Lib.hid K1
  have HG1 := Lib.hid g1
  clear hW1 K1 g1
  go_wp2_with fail
  refine (CN.out _).mono ?_
  rintro e w2 ⟨q, b, rfl, hq, hb, hs, lq, lb, hqb, k2⟩
  have CR := Lib.hid (gwRun HG1.out k2 hq hb hs lq lb hqb (t := 770) (by decide) (by decide) (by decide) ⟨by decide, by decide⟩)
  have HK2 := Lib.hid (Kp.of (G := fun k => k < w.heap.size) k2)
  clear hq hb hs lq lb hqb k2
  go_wp2_with fail
  refine CR.out.mono ?_
  rintro e w3 ⟨rfl, V3, hW3, ⟨f2, f3, fc, fh, fg, fM⟩, K3⟩
  clear CR
  have c0 := hW3.box.c0
  have cp := gpeek hW3 (a := 2) ⟨by decide, by decide⟩
  rw [f2] at cp
  have CP := Lib.hid cp
  have HW3 := Lib.hid hW3
  have HV3 := Lib.hid (show V3.cnt ≤ 10 ∧ V3.M.length ≤ 10 by
    refine ⟨by rw [fc]; decide, ?_⟩
    rw [fM]
    have := addL_len19 (V0 ⟨2, 8, 3, 1, 16⟩).M ((V0 ⟨2, 8, 3, 1, 16⟩).cnt + 2, (V0 ⟨2, 8, 3, 1, 16⟩).h, 4, 0, 0, 0, 0, 2 + 1)
    have e0 : (V0 ⟨2, 8, 3, 1, 16⟩).M.length = 0 := rfl
    omega)
  have HF3 := Lib.hid f3
  have HK3 := Lib.hid (Kp.to HK2.out K3)
  clear hW3 f2 f3 fc fh fg fM K3 cp
  go_wp2_with fail
  refine CP.out.mono ?_
  rintro e w4 ⟨rfl, rfl⟩
  clear c0 CP
  go_wp2_with fail
  refine (CS.out _).mono ?_
  rintro e w5 ⟨q, b, rfl, hq, hb, hs, lq, lb, hqb, k5⟩
  have CR := Lib.hid (swRun HW3.out k5 hq hb hs lq lb hqb (t := 3) (by have := HV3.out; omega) (by have := HV3.out; omega) (by decide) ⟨by decide, by decide⟩)
  have HK5 := Lib.hid (Kp.to HK3.out (Kp.of k5))
  clear hq hb hs lq lb hqb k5
  go_wp2_with fail
  refine CR.out.mono ?_
  rintro e w6 ⟨rfl, V6, hW6, ⟨f2, f3, fc, fh, fg, fM⟩, K6⟩
  clear CR
  have c0 := hW6.box.c0
  have cp := gpeek hW6 (a := 2) ⟨by decide, by decide⟩
  rw [f2] at cp
  have CP := Lib.hid cp
  have cp3 := gpeek hW6 (a := 3) ⟨by decide, by decide⟩
  rw [f3, HF3.out] at cp3
  have CP3 := Lib.hid cp3
  have HK6 := Lib.hid (HK1.out.trans (Kp.below (Kp.to HK5.out K6) HK1.out.size))
  clear hW6 f2 f3 fc fh fg fM K6 cp cp3
  go_wp2_with fail
  refine CP3.out.mono ?_
  rintro e w7 ⟨rfl, rfl⟩
  go_wp2_with fail
  refine CP.out.mono ?_
  rintro e w7 ⟨rfl, rfl⟩
  clear c0
  go_wp2_with fail
  refine (N1.out _).mono ?_
  rintro e w8 ⟨q, rfl, hq, hs, lq, k8⟩
  have CO := Lib.hid (gov_t hq)
  have HK8 := Lib.hid (below_then HK6.out k8)
  clear hq hs lq k8
  go_wp2_with fail
  refine CO.out.mono ?_
  rintro e w9 ⟨rfl, rfl⟩
  clear CO
  go_wp2_with fail
  refine (N2.out _).mono ?_
  rintro e w9 ⟨q, rfl, hq, hs, lq, k9⟩
  have CO := Lib.hid (sov_t hq)
  have HK9 := Lib.hid (below_then HK8.out k9)
  clear hq hs lq k9
  go_wp2_with fail
  refine CO.out.mono ?_
  rintro e w10 ⟨rfl, rfl⟩
  clear CO
  go_wp2_with fail
  refine (N3.out _).mono ?_
  rintro e w10 ⟨q, rfl, hq, hs, lq, k10⟩
  have CO := Lib.hid (gov_t hq)
  have HK10 := Lib.hid (below_then HK9.out k10)
  clear hq hs lq k10
  go_wp2_with fail
  refine CO.out.mono ?_
  rintro e w11 ⟨rfl, rfl⟩
  clear CO
  go_wp2_with fail
  go_ret
  exact ⟨rfl, HK10.out⟩
end Go.Proofs.YtepkpbhhiianpaaGreat
