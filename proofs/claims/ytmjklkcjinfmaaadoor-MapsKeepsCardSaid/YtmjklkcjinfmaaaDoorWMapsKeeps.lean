/- MapsKeeps. -/
import Derived.Test.YtmjklkcjinfmaaaDoorMaW
namespace Go.Proofs.YtmjklkcjinfmaaaDoor
open Go.RowKit Go.Maps
set_option linter.unusedVariables false
def calS (c : Cal) : Cal := ⟨3, c.key, c.val, c.fl, c.exp, c.id, c.by_⟩
def recS (c : Cal) : Itm := ⟨c.key, c.val, c.fl, 1, diesf 0 c.exp, 0⟩
theorem kp_first (c : Cal) (hk : okB c.key = true) : Mst.new.does (calS c) 0 = (⟨1, 1, Itm.none⟩, ⟨[recS c], 0, 1⟩) := by
  unfold Mst.does Mst.gives
  rw [if_pos ⟨show comes Mst.new.e 0 = true from by decide, .inr hk⟩]
  rfl
theorem kp_look (c : Cal) : mlook [recS c] c.key = some (recS c) := by simp [mlook, recS]
theorem str_eql (a b : ByteArray) (W : World) : (binOp .eql 9 (.string a) (.string b)).run Tryd.prog W = .ok (.bool (decide (a = b))) W := by
  have e : (a.toList == b.toList) = decide (a = b) := by
    by_cases h : a = b
    · subst h; simp
    · have h2 : ¬ a.toList = b.toList := fun e => h ((bytes_inj a b).mp e)
      rw [decide_eq_false h]
      simpa using h2
  simp [go_sem, e]
theorem exec_bin {P : Program} {ρ : Operand → Value} {op : Oper} {k : BinOp} {t u : TypeId} {a b : Operand} {va vb r : Value} {w : World} (ho : op.op = .binOp k t a b u) (ha : ρ a = va) (hb : ρ b = vb) (hg : (eqGuard k t a b va vb).run P w = .ok () w) (hr : (binOp k t va vb).run P w = .ok r w) : (execOp ρ op).run P w = .ok (.value r) w := by
  unfold execOp
  rw [ho]
  simp only [ha, hb]
  simp only [Sem.run_bind, hg, hr, Sem.run_pure, Result.andThen_ok]
theorem Lv.base {w0 w W : World} {m : Nat} {mv : Option Nat} {S : Mst} {n : Nat} (h : Lv w W m mv S n) (hb : Below w0.heap.size w0 w) : Lv w0 W m mv S n := ⟨h.mp, h.ok, fun k s => Nat.le_trans hb.size (h.low k s), fr_new hb h.below, h.len⟩
/-- What stands between two calls of other keys. -/
structure KI (w W : World) (m : Nat) (mv : Option Nat) (S : Mst) (k : Nat) (z : Int) (c : Cal) (q2 q6 : Nat) : Prop where
  lv : Lv w W m mv S (k + 1)
  rn : Rn S z
  lk : mlook S.L c.key = some (recS c)
  a2 : Ap W m mv q2 (calC (calS c))
  a6 : Ap W m mv q6 (itC (recS c))
theorem kp_does {S : Mst} {z : Int} {c y : Cal} (h : Rn S z) (hl : mlook S.L c.key = some (recS c)) (hy : CalOk y) (hk : ¬ y.key = c.key) (hv : ¬ y.verb = 11) : Rn (S.does y z).2 z ∧ mlook (S.does y z).2.L c.key = some (recS c) ∧ (S.does y z).2.i = if (S.does y z).1.kind = 1 ∨ (S.does y z).1.kind = 8 then u64 (S.i + 1) else S.i := by
  have h1 := h.does (c := y) hy
  unfold Mst.does at h1 ⊢
  cases e : S.gives y z with
  | none => exact ⟨h, hl, rfl⟩
  | some g =>
    obtain ⟨_, _, h3⟩ := gives_verb e
    rw [e] at h1
    simp only at h1
    have hn : ¬ g.a.kind = 10 := by
      rcases verb_epoch h3 with ⟨e1, _⟩ | ⟨e1, _⟩
      · exact absurd e1 hv
      · exact e1
    rw [if_neg hn] at h1
    exact ⟨h1, by rw [verb_keep h3 (fun e => hk e.symm)]; exact hl, verb_ids h3⟩
/-- The answer at the end. -/
def wantK (c : Cal) (z : Int) : Ans := if aliveI (recS c) z then ⟨11, 0, recS c⟩ else Ans.of 12
theorem kp_get {S : Mst} {z : Int} {c : Cal} (h : Rn S z) (hl : mlook S.L c.key = some (recS c)) (hk : okB c.key = true) : gAns S (calN 1 c.key ⟨#[]⟩) z = wantK c z ∧ (S.gives (calN 1 c.key ⟨#[]⟩) z).isSome = true := by
  have hc := h.bhd.comes h.ok.e
  unfold gAns Mst.gives
  rw [if_pos ⟨hc, .inr hk⟩]
  have ht : S.there (calN 1 c.key ⟨#[]⟩) z = if aliveI (recS c) z then some (recS c) else none := by
    unfold Mst.there
    simp only [calN]
    rw [hl]
    simp [Option.filter]
  unfold Mst.verb wantK
  rw [ht]
  cases aliveI (recS c) z <;> exact ⟨rfl, rfl⟩
section
variable {a : Option Addr} {n cp : Nat} {L : List Stp} {c : Cal} {w : World}
set_option maxHeartbeats 8000000 in
set_option maxRecDepth 100000 in
theorem kp_a (hl : L.length = n) (hn : n ≤ cp) (hcp : cp ≤ maxLen) (hR : RdS w a L) (hK : ∀ x ∈ L, StpOk x) (hc : CalOk c) (htab : Lib.TabIs Tryd.prog w "internal/strconv.uint64pow10" .u64 Lib.pow10Tab) (hb1 : longB L = true) : Calls Tryd.prog 6 #[.agg (calC c).toArray, .slice a n cp] w fun e w' => e = .returned (.bool true) ∧ Below w.heap.size w w' := by
  have HT := Lib.hid htab
  have HR := Lib.hid hR
  have HK := Lib.hid hK
  have HC := Lib.hid hc
  have HL := Lib.hid hl
  have HN := Lib.hid hn
  have HCP := Lib.hid hcp
  unfold maxLen at hcp
  have HL1 : Hid (∀ W, Below w.heap.size w W → Calls Tryd.prog 25 #[.slice a n cp] W (LgP W L)) := Lib.hid fun W hb => longw a n cp L W HL.out HN.out HCP.out (HR.out.below hb (Nat.le_refl _)) HK.out
  have HB1 := Lib.hid hb1
  clear hR hK hc htab hl hb1
  go_enter Tryd.func6, Tryd.ntmps6
  go_wp2_with (first
    | ((with_reducible refine at_wq ?_); refine wpList_box_bk rfl 35 (.tmp 0) rfl (calC c) rfl ?_; intro U1 q2 u1; have HU := Lib.hid u1.below; have HLQ := Lib.hid (show w.heap.size ≤ q2 by rw [u1.eq]; exact Nat.le_refl _); have HQ2 := Lib.hid u1.bk; clear u1)
    | (go_at_call 25; (with_reducible refine (HL1.out _ HU.out).mono ?_); rintro e V1 ⟨rfl, f1⟩; have HW1 := Lib.hid (fr_new HU.out f1); have HP2 := Lib.hid (HQ2.out.new f1); clear f1 HQ2; rw [HB1.out]; obtain ⟨c0, c1, c2, c3, c4, c5, c6⟩ := call_cells HP2.out)
    | (go_at_call 10; refine (lives36 _ (tab_below HT.out HW1.out)).mono ?_; rintro e WL ⟨rfl, bl⟩))
  go_ret
  exact ⟨rfl, fr_new HW1.out bl⟩
set_option maxHeartbeats 8000000 in
set_option maxRecDepth 100000 in
theorem kp_b (hl : L.length = n) (hn : n ≤ cp) (hcp : cp ≤ maxLen) (hR : RdS w a L) (hK : ∀ x ∈ L, StpOk x) (hc : CalOk c) (htab : Lib.TabIs Tryd.prog w "internal/strconv.uint64pow10" .u64 Lib.pow10Tab) (hb1 : longB L = false) (hb2 : longB [⟨c, 0⟩] = true) : Calls Tryd.prog 6 #[.agg (calC c).toArray, .slice a n cp] w fun e w' => e = .returned (.bool true) ∧ Below w.heap.size w w' := by
  have HT := Lib.hid htab
  have HR := Lib.hid hR
  have HK := Lib.hid hK
  have HC := Lib.hid hc
  have HL := Lib.hid hl
  have HN := Lib.hid hn
  have HCP := Lib.hid hcp
  unfold maxLen at hcp
  have HL1 : Hid (∀ W, Below w.heap.size w W → Calls Tryd.prog 25 #[.slice a n cp] W (LgP W L)) := Lib.hid fun W hb => longw a n cp L W HL.out HN.out HCP.out (HR.out.below hb (Nat.le_refl _)) HK.out
  have HB1 := Lib.hid hb1
  have HB2 := Lib.hid hb2
  have HO : Hid (∀ x ∈ [(⟨c, 0⟩ : Stp)], StpOk x) := Lib.hid fun x hx => by simp at hx; subst hx; exact ⟨HC.out, by show (0 : Int) ≤ 0; decide, by show (0 : Int) ≤ 255; decide⟩
  clear hR hK hc htab hl hb1 hb2
  go_enter Tryd.func6, Tryd.ntmps6
  go_wp2_with (first
    | ((with_reducible refine at_wq ?_); refine wpList_box_bk rfl 35 (.tmp 0) rfl (calC c) rfl ?_; intro U1 q2 u1; have HU := Lib.hid u1.below; have HLQ := Lib.hid (show w.heap.size ≤ q2 by rw [u1.eq]; exact Nat.le_refl _); have HQ2 := Lib.hid u1.bk; clear u1)
    | (go_at_call 25; (with_reducible refine (HL1.out _ HU.out).mono ?_); rintro e V1 ⟨rfl, f1⟩; have HW1 := Lib.hid (fr_new HU.out f1); have HP2 := Lib.hid (HQ2.out.new f1); clear f1 HQ2; rw [HB1.out]; obtain ⟨c0, c1, c2, c3, c4, c5, c6⟩ := call_cells HP2.out)
    | (go_at_call 25; refine (longw (some ⟨V1.heap.size, 0, none⟩) 1 1 [⟨c, 0⟩] _ rfl (Nat.le_refl _) (by decide) (rd_one _ _ _) HO.out).mono ?_; rintro e V2 ⟨rfl, f2⟩; have HF2 := Lib.hid (((Below.refl _ _).alloc (Nat.le_refl _) _).trans (f2.mono (by simp)) : Below V1.heap.size V1 V2); have HV2 := Lib.hid (fr_new HW1.out HF2.out); clear f2; rw [HB2.out]; have HP22 := Lib.hid (HP2.out.new HF2.out); clear c0 c1 c2 c3 c4 c5 c6; obtain ⟨c0, c1, c2, c3, c4, c5, c6⟩ := call_cells HP22.out)
    | (go_at_call 10; refine (lives36 _ (tab_below HT.out HV2.out)).mono ?_; rintro e WL ⟨rfl, bl⟩))
  go_ret
  exact ⟨rfl, fr_new HV2.out bl⟩
set_option maxHeartbeats 8000000 in
set_option maxRecDepth 100000 in
theorem kp_c (hl : L.length = n) (hn : n ≤ cp) (hcp : cp ≤ maxLen) (hR : RdS w a L) (hK : ∀ x ∈ L, StpOk x) (hc : CalOk c) (htab : Lib.TabIs Tryd.prog w "internal/strconv.uint64pow10" .u64 Lib.pow10Tab) (hb1 : longB L = false) (hb2 : longB [⟨c, 0⟩] = false) (hok : okB c.key = false) : Calls Tryd.prog 6 #[.agg (calC c).toArray, .slice a n cp] w fun e w' => e = .returned (.bool true) ∧ Below w.heap.size w w' := by
  have HT := Lib.hid htab
  have HR := Lib.hid hR
  have HK := Lib.hid hK
  have HC := Lib.hid hc
  have HL := Lib.hid hl
  have HN := Lib.hid hn
  have HCP := Lib.hid hcp
  unfold maxLen at hcp
  have HL1 : Hid (∀ W, Below w.heap.size w W → Calls Tryd.prog 25 #[.slice a n cp] W (LgP W L)) := Lib.hid fun W hb => longw a n cp L W HL.out HN.out HCP.out (HR.out.below hb (Nat.le_refl _)) HK.out
  have HB1 := Lib.hid hb1
  have HB2 := Lib.hid hb2
  have HO : Hid (∀ x ∈ [(⟨c, 0⟩ : Stp)], StpOk x) := Lib.hid fun x hx => by simp at hx; subst hx; exact ⟨HC.out, by show (0 : Int) ≤ 0; decide, by show (0 : Int) ≤ 255; decide⟩
  have HOK := Lib.hid hok
  clear hR hK hc htab hl hb1 hb2 hok
  go_enter Tryd.func6, Tryd.ntmps6
  go_wp2_with (first
    | ((with_reducible refine at_wq ?_); refine wpList_box_bk rfl 35 (.tmp 0) rfl (calC c) rfl ?_; intro U1 q2 u1; have HU := Lib.hid u1.below; have HLQ := Lib.hid (show w.heap.size ≤ q2 by rw [u1.eq]; exact Nat.le_refl _); have HQ2 := Lib.hid u1.bk; clear u1)
    | (go_at_call 25; (with_reducible refine (HL1.out _ HU.out).mono ?_); rintro e V1 ⟨rfl, f1⟩; have HW1 := Lib.hid (fr_new HU.out f1); have HP2 := Lib.hid (HQ2.out.new f1); clear f1 HQ2; rw [HB1.out]; obtain ⟨c0, c1, c2, c3, c4, c5, c6⟩ := call_cells HP2.out)
    | (go_at_call 25; refine (longw (some ⟨V1.heap.size, 0, none⟩) 1 1 [⟨c, 0⟩] _ rfl (Nat.le_refl _) (by decide) (rd_one _ _ _) HO.out).mono ?_; rintro e V2 ⟨rfl, f2⟩; have HF2 := Lib.hid (((Below.refl _ _).alloc (Nat.le_refl _) _).trans (f2.mono (by simp)) : Below V1.heap.size V1 V2); have HV2 := Lib.hid (fr_new HW1.out HF2.out); clear f2; rw [HB2.out]; have HP22 := Lib.hid (HP2.out.new HF2.out); clear c0 c1 c2 c3 c4 c5 c6; obtain ⟨c0, c1, c2, c3, c4, c5, c6⟩ := call_cells HP22.out)
    | (go_at_call 27; refine (okcw _ _ HC.out.key).mono ?_; rintro e VO ⟨rfl, rfl⟩; rw [HOK.out])
    | (go_at_call 10; refine (lives36 _ (tab_below HT.out HV2.out)).mono ?_; rintro e WL ⟨rfl, bl⟩))
  go_ret
  exact ⟨rfl, fr_new HV2.out bl⟩
set_option maxHeartbeats 8000000 in
set_option maxRecDepth 100000 in
theorem kp_main (hl : L.length = n) (hn : n ≤ cp) (hcp : cp ≤ maxLen) (hR : RdS w a L) (hK : ∀ x ∈ L, StpOk x) (hc : CalOk c) (htab : Lib.TabIs Tryd.prog w "internal/strconv.uint64pow10" .u64 Lib.pow10Tab) (hb1 : longB L = false) (hb2 : longB [⟨c, 0⟩] = false) (hok : okB c.key = true) : Calls Tryd.prog 6 #[.agg (calC c).toArray, .slice a n cp] w fun e w' => e = .returned (.bool true) ∧ Below w.heap.size w w' := by
  have HT := Lib.hid htab
  have HR := Lib.hid hR
  have HK := Lib.hid hK
  have HC := Lib.hid hc
  have HL := Lib.hid hl
  have HN := Lib.hid hn
  have HCP := Lib.hid hcp
  unfold maxLen at hcp
  have HL1 : Hid (∀ W, Below w.heap.size w W → Calls Tryd.prog 25 #[.slice a n cp] W (LgP W L)) := Lib.hid fun W hb => longw a n cp L W HL.out HN.out HCP.out (HR.out.below hb (Nat.le_refl _)) HK.out
  have HB1 := Lib.hid hb1
  have HB2 := Lib.hid hb2
  have HO : Hid (∀ x ∈ [(⟨c, 0⟩ : Stp)], StpOk x) := Lib.hid fun x hx => by simp at hx; subst hx; exact ⟨HC.out, by show (0 : Int) ≤ 0; decide, by show (0 : Int) ≤ 255; decide⟩
  have HOK := Lib.hid hok
  have h100 := longB_no hb1
  rw [hl] at h100
  have OS : Hid (CalOk (calS c)) := Lib.hid ⟨by show (0 : Int) ≤ 3 ∧ (3 : Int) < 256; decide, hc.key, hc.val, hc.fl, hc.exp, hc.id, hc.by_⟩
  have OG : Hid (CalOk (calN 1 c.key ⟨#[]⟩)) := Lib.hid (calN_ok 1 (by decide) _ _ hc.key (by decide))
  have hq0 : ∀ W, (binOp .neq 40 (.agg (ansC ⟨1, 1, Itm.none⟩).toArray) (.agg #[.int .u8 1, .int .u64 1, .string ⟨#[]⟩, .string ⟨#[]⟩, .int .u32 0, .int .u64 0, .int .i64 0, .int .i64 0])).run Tryd.prog W = .ok (.bool false) W := fun W => by
    have := an_neq ⟨1, 1, Itm.none⟩ ⟨1, 1, Itm.none⟩ W
    rw [decide_eq_false (by simp)] at this
    exact this
  clear hR hK hc htab hl hb1 hb2 hok
  go_enter Tryd.func6, Tryd.ntmps6
  go_wp2_with (first
    | ((with_reducible refine at_wq ?_); refine wpList_box_bk rfl 35 (.tmp 0) rfl (calC c) rfl ?_; intro U1 q2 u1; have HU := Lib.hid u1.below; have HLQ := Lib.hid (show w.heap.size ≤ q2 by rw [u1.eq]; exact Nat.le_refl _); have HQ2 := Lib.hid u1.bk; clear u1)
    | (go_at_call 25; (with_reducible refine (HL1.out _ HU.out).mono ?_); rintro e V1 ⟨rfl, f1⟩; have HW1 := Lib.hid (fr_new HU.out f1); have HP2 := Lib.hid (HQ2.out.new f1); clear f1 HQ2; rw [HB1.out]; obtain ⟨c0, c1, c2, c3, c4, c5, c6⟩ := call_cells HP2.out)
    | (go_at_call 25; refine (longw (some ⟨V1.heap.size, 0, none⟩) 1 1 [⟨c, 0⟩] _ rfl (Nat.le_refl _) (by decide) (rd_one _ _ _) HO.out).mono ?_; rintro e V2 ⟨rfl, f2⟩; have HF2 := Lib.hid (((Below.refl _ _).alloc (Nat.le_refl _) _).trans (f2.mono (by simp)) : Below V1.heap.size V1 V2); have HV2 := Lib.hid (fr_new HW1.out HF2.out); clear f2; rw [HB2.out]; have HP22 := Lib.hid (HP2.out.new HF2.out); clear c0 c1 c2 c3 c4 c5 c6; obtain ⟨c0, c1, c2, c3, c4, c5, c6⟩ := call_cells HP22.out)
    | (go_at_call 27; refine (okcw _ _ HC.out.key).mono ?_; rintro e VO ⟨rfl, rfl⟩; rw [HOK.out])
    | (go_at_call 11; refine (Lv.start _).mono ?_; rintro e V3 ⟨m, rfl, l0⟩; have A20 := Lib.hid (show Ap V3 m none q2 (calC c) from ⟨HP22.out.new l0.below, fun s => absurd (l0.low q2 s) (Nat.not_le_of_lt HP22.out.lt)⟩); have HL0 := Lib.hid (l0.base HV2.out); clear l0 c0 c1 c2 c3 c4 c5 c6)
    | ((with_reducible refine at_wq ?_); refine wpList_set_bk rfl 32 (.tmp 34) (.const (.int .u8 3)) rfl q2 0 (calC c) (.int .u8 3) (calC (calS c)) A20.out.bk (by show 0 < 7; decide) rfl (by kernel_rfl) rfl rfl rfl ?_; intro V4 h4 k4; have K4 := Lib.hid (HL0.out.st k4 A20.out.ne HLQ.out); have A24 := Lib.hid (show Ap V4 m none q2 (calC (calS c)) from ⟨h4, A20.out.ne⟩); clear h4 k4 HL0 A20; obtain ⟨c0, c1, c2, c3, c4, c5, c6⟩ := call_cells A24.out.bk)
    | (go_at_call 28; refine (K4.out.does (c := calS c) (x := 0) OS.out (by decide) HT.out (by decide)).mono ?_; rintro e V5 ⟨rfl, mv5, l, ap⟩; rw [kp_first c HOK.out] at l ⊢; have K5 := Lib.hid l; have A25 := Lib.hid (ap _ _ A24.out); clear l ap K4 A24 c0 c1 c2 c3 c4 c5 c6; obtain ⟨c0, c1, c2, c3, c4, c5, c6⟩ := call_cells A25.out.bk)
    | (go_at_call 20; refine (Atw K5.out.mp c.key HC.out.key).mono ?_; rintro e V6 ⟨rfl, b6⟩; unfold atV; rw [kp_look c]; have K6 := Lib.hid (K5.out.new b6); have A26 := Lib.hid (A25.out.new b6); clear b6 K5 A25 c0 c1 c2 c3 c4 c5 c6 hq0)
    | ((with_reducible refine at_wq ?_); refine wpList_alloc_bk rfl 38 (itC Itm.none) alloc_it rfl ?_; intro V7 q6 h7)
    | ((with_reducible refine at_wq ?_); refine wpList_store_bk rfl 38 (.tmp 6) (.tmp 45) rfl q6 0 (itC Itm.none) (itC (recS c)) (itC (recS c)) h7.bk (Nat.le_refl 6) rfl info_it (itC_one _) rfl rfl ?_; intro V8 hs ks; have K8 := Lib.hid ((K6.out.new h7.below).st ks (K6.out.fresh h7) (h7.at K6.out.below)); have A28 := Lib.hid ((A26.out.new h7.below).st ks (by have e1 := A26.out.bk.lt; have e2 := h7.eq; omega)); have A68 := Lib.hid (show Ap _ _ _ q6 (itC (recS c)) from ⟨hs, K6.out.fresh h7⟩); clear hs ks h7 K6 A26))
  have RN0 : Rn ⟨[recS c], 0, 1⟩ 0 := by
    have := Rn.new.does OS.out
    rw [kp_first c HOK.out] at this
    exact this
  have HKI := Lib.hid (show KI w V8 m mv5 ⟨[recS c], 0, 1⟩ 0 0 c q2 q6 from ⟨K8.out, RN0, kp_look c, A28.out, A68.out⟩)
  clear K8 A28 A68 RN0
  go_loopw [8, 9, 10] (fun e d i wr => ∃ (k : Nat) (z : Int) (mv : Option Nat) (S : Mst), k ≤ n ∧ e = .int .u64 z ∧ d = .int .u64 S.i ∧ i = .int .i64 k ∧ KI w wr m mv S k z c q2 q6) (fun _ _ i _ => n - (intOf i).toNat)
  case atStart => exact ⟨0, 0, mv5, _, by omega, rfl, rfl, rfl, HKI.out⟩
  case round =>
    obtain ⟨k, z, mv, S, hk, rfl, rfl, rfl, hki⟩ := hrel
    have KI0 := Lib.hid hki
    by_cases hlt : k < n
    · obtain ⟨b, off, y, rfl, hb, hx, hcell⟩ := (HR.out.below hki.lv.below (Nat.le_refl _)).at (i := k) (by rw [HL.out]; exact hlt)
      have x7 := hcell 7 _ rfl
      have ok := HK.out y (List.mem_of_getElem? hx)
      have HCL := Lib.hid hcell
      have HY := Lib.hid ok
      have HLT := Lib.hid hb
      obtain ⟨t, ht⟩ : ∃ t, y.t = t := ⟨_, rfl⟩
      have t0 := ok.2.1
      have t1 := ok.2.2
      rw [ht] at t0 t1 x7
      obtain ⟨r, hr⟩ : ∃ r : Nat, t % 5 = r := ⟨(t % 5).toNat, by omega⟩
      have hr4 : r ≤ 4 := by omega
      clear hki hcell ok hx hb hk
      go_wp2_with fail
      go_loopw [8, 11] (fun x i wr2 => ∃ j : Nat, j ≤ r ∧ x = .int .u64 (tickN j z) ∧ i = .int .i64 j ∧ Below wr.heap.size wr wr2) (fun _ i _ => r - (intOf i).toNat)
      case atStart => exact ⟨0, by omega, rfl, rfl, Below.refl _ _⟩
      case round =>
        obtain ⟨j, hj, rfl, rfl, hnx⟩ := hrel
        have y7 := (hnx.cell (p := ⟨b, off + k * 8 + 7, none⟩) HLT.out).trans x7
        have hz := tickN_range KI0.out.rn.range j
        by_cases hjr : j < r
        · clear x7
          go_wp2_with (go_at_call 29; refine (tickw _ _ hz.1 hz.2).mono ?_; rintro e W5 ⟨rfl, b5⟩)
          go_roundw
          case rel => exact ⟨j + 1, by omega, rfl, by go_num, fr_new hnx b5⟩
          case measure => simp [intOf]; omega
        · have hjd : decide ((j : Int) < r) = false := decide_eq_false (by omega)
          obtain rfl : j = r := by omega
          have HZ := Lib.hid hz
          have HKJ := Lib.hid (show KI w wr m mv S k (tickN j z) c q2 q6 from ⟨KI0.out.lv.new hnx, KI0.out.rn.ticks j, KI0.out.lk, KI0.out.a2.new hnx, KI0.out.a6.new hnx⟩)
          have hrg : ∀ W, Below wr.heap.size wr W → W.rangeAt b (off + k * 8) (calC y.c) := fun W hbw i v hv => by
            have hi := (List.getElem?_eq_some_iff.1 hv).1
            refine (hbw.cell (p := ⟨b, off + k * 8 + i, none⟩) (Nat.lt_of_lt_of_le HLT.out hnx.size)).trans ((hnx.cell (p := ⟨b, off + k * 8 + i, none⟩) HLT.out).trans (HCL.out i v ?_))
            rw [← hv]
            match i, hi with
            | 0, _ => rfl
            | 1, _ => rfl
            | 2, _ => rfl
            | 3, _ => rfl
            | 4, _ => rfl
            | 5, _ => rfl
            | 6, _ => rfl
          have HRG := Lib.hid hrg
          have r0 := (hrg wr (Below.refl _ _)) 0 _ rfl
          have r1 := (hrg wr (Below.refl _ _)) 1 _ rfl
          rw [Nat.add_zero] at r0
          have s1 := HKJ.out.a2.bk.at_ 1 _ rfl
          obtain ⟨x, hx⟩ : ∃ x, tickN j z = x := ⟨_, rfl⟩
          rw [hx] at HZ HKJ ⊢
          have hstr := str_eql y.c.key c.key
          obtain ⟨ke, hke⟩ : ∃ b, decide (y.c.key = c.key) = b := ⟨_, rfl⟩
          rw [hke] at hstr
          have HKE := Lib.hid hke
          obtain ⟨ve, hve⟩ : ∃ b, (y.c.verb == 11) = b := ⟨_, rfl⟩
          have HVE := Lib.hid hve
          clear hz hnx x7 hrg hx hj hke
          have hcs : (ke = true) ∨ (ke = false ∧ ve = true) ∨ (ke = false ∧ ve = false) := by cases ke <;> cases ve <;> simp
          rcases hcs with rfl | ⟨rfl, rfl⟩ | ⟨rfl, rfl⟩
          · clear hve
            go_wp2_with fail
            have hbd : Below wr.heap.size wr wr.drew := (Below.refl _ _).drew
            have HRD := Lib.hid (And.intro ((hbd.cell (World.block_lt_of_cell? wr _ r0)).trans r0) (And.intro ((hbd.cell (World.block_lt_of_cell? wr _ r1)).trans r1) ((hbd.cell (World.block_lt_of_cell? wr _ s1)).trans s1)))
            clear r0 r1 s1
            refine wp_region_held_drew (S := fun X => X.cell? ⟨b, off + k * 8, none⟩ = some (.int .u8 y.c.verb) ∧ X.cell? ⟨b, off + k * 8 + 1, none⟩ = some (.string y.c.key) ∧ X.cell? ⟨q2, 1, none⟩ = some (.string c.key)) (by kernel_rfl) (⟨HRD.out.1, HRD.out.2.1, HRD.out.2.2⟩) (fun hHeld => ?_)
            refine wpAnyH_take (i := 0) (oi := ({ dst := some 66, op := Op.move (Operand.tmp 1), type := 61, pos := "outright.go:106", after := #[], guard := none })) (v := ?_) rfl (by kernel_rfl) (by kernel_rfl) (by kernel_rfl) (fun _ _ _ h => h) (Or.inl ⟨by rfl, ?_⟩) (by assumption) ?_
            rotate_left 1
            · (intro w9 hSw; (try dsimp only at hSw); go_simp; try with_reducible rfl)
            try simp only [Act.put, List.setIfInBounds_toArray, List.set_cons_zero, List.set_cons_succ]
            refine wpAnyH_take (i := 1) (oi := ({ dst := some 67, op := Op.move (Operand.tmp 10), type := 3, pos := "outright.go:106", after := #[], guard := none })) (v := ?_) rfl (by kernel_rfl) (by kernel_rfl) (by kernel_rfl) (fun _ _ _ h => h) (Or.inl ⟨by rfl, ?_⟩) (by assumption) ?_
            rotate_left 1
            · (intro w9 hSw; (try dsimp only at hSw); go_simp; try with_reducible rfl)
            try simp only [Act.put, List.setIfInBounds_toArray, List.set_cons_zero, List.set_cons_succ]
            refine wpAnyH_take (i := 2) (oi := ({ dst := some 68, op := Op.indexAddr 61 (Operand.tmp 66) (Operand.tmp 67), type := 0, pos := "outright.go:106", after := #[{ on := 0, ground := Ground.data }, { on := 1, ground := Ground.data }], guard := none })) (v := ?_) rfl (by kernel_rfl) (by kernel_rfl) (by kernel_rfl) (fun _ _ _ h => h) (Or.inl ⟨by rfl, ?_⟩) (by assumption) ?_
            rotate_left 1
            · (intro w9 hSw; (try dsimp only at hSw); go_simp; try with_reducible rfl)
            try simp only [Act.put, List.setIfInBounds_toArray, List.set_cons_zero, List.set_cons_succ]
            refine wpAnyH_take (i := 3) (oi := ({ dst := some 69, op := Op.fieldAddr 64 (Operand.tmp 68) 0, type := 0, pos := "outright.go:106", after := #[{ on := 2, ground := Ground.data }], guard := none })) (v := ?_) rfl (by kernel_rfl) (by kernel_rfl) (by kernel_rfl) (fun _ _ _ h => h) (Or.inl ⟨by rfl, ?_⟩) (by assumption) ?_
            rotate_left 1
            · (intro w9 hSw; (try dsimp only at hSw); go_simp; try with_reducible rfl)
            try simp only [Act.put, List.setIfInBounds_toArray, List.set_cons_zero, List.set_cons_succ]
            refine wpAnyH_take (i := 4) (oi := ({ dst := some 70, op := Op.fieldAddr 35 (Operand.tmp 69) 1, type := 0, pos := "outright.go:106", after := #[{ on := 3, ground := Ground.data }], guard := none })) (v := ?_) rfl (by kernel_rfl) (by kernel_rfl) (by kernel_rfl) (fun _ _ _ h => h) (Or.inl ⟨by rfl, ?_⟩) (by assumption) ?_
            rotate_left 1
            · (intro w9 hSw; (try dsimp only at hSw); go_simp; try with_reducible rfl)
            try simp only [Act.put, List.setIfInBounds_toArray, List.set_cons_zero, List.set_cons_succ]
            refine wpAnyH_take (i := 5) (oi := ({ dst := some 71, op := Op.load 9 (Operand.tmp 70), type := 9, pos := "outright.go:106", after := #[{ on := 4, ground := Ground.data }], guard := none })) (v := ?_) rfl (by kernel_rfl) (by kernel_rfl) (by kernel_rfl) (fun _ _ _ h => h) (Or.inl ⟨by rfl, ?_⟩) (by assumption) ?_
            rotate_left 1
            · (intro w9 hSw; (try dsimp only at hSw); go_simp; try with_reducible rfl)
            try simp only [Act.put, List.setIfInBounds_toArray, List.set_cons_zero, List.set_cons_succ]
            refine wpAnyH_take (i := 6) (oi := ({ dst := some 72, op := Op.fieldAddr 35 (Operand.tmp 2) 1, type := 0, pos := "outright.go:106", after := #[], guard := none })) (v := ?_) rfl (by kernel_rfl) (by kernel_rfl) (by kernel_rfl) (fun _ _ _ h => h) (Or.inl ⟨by rfl, ?_⟩) (by assumption) ?_
            rotate_left 1
            · (intro w9 hSw; (try dsimp only at hSw); go_simp; try with_reducible rfl)
            try simp only [Act.put, List.setIfInBounds_toArray, List.set_cons_zero, List.set_cons_succ]
            refine wpAnyH_take (i := 7) (oi := ({ dst := some 73, op := Op.load 9 (Operand.tmp 72), type := 9, pos := "outright.go:106", after := #[{ on := 6, ground := Ground.data }], guard := none })) (v := ?_) rfl (by kernel_rfl) (by kernel_rfl) (by kernel_rfl) (fun _ _ _ h => h) (Or.inl ⟨by rfl, ?_⟩) (by assumption) ?_
            rotate_left 1
            · (intro w9 hSw; (try dsimp only at hSw); go_simp; try with_reducible rfl)
            try simp only [Act.put, List.setIfInBounds_toArray, List.set_cons_zero, List.set_cons_succ]
            refine wpAnyH_take (i := 8) (oi := ({ dst := some 74, op := Op.binOp BinOp.eql 9 (Operand.tmp 71) (Operand.tmp 73) 9, type := 4, pos := "outright.go:106", after := #[{ on := 5, ground := Ground.data }, { on := 7, ground := Ground.data }], guard := none })) (v := (.bool true)) rfl (by kernel_rfl) (by kernel_rfl) (by kernel_rfl) (fun _ _ _ h => h) (Or.inl ⟨by rfl, ?_⟩) (by assumption) ?_
            · (intro w9 hSw; (try dsimp only at hSw); exact exec_bin rfl rfl rfl rfl (hstr w9))
            try simp only [Act.put, List.setIfInBounds_toArray, List.set_cons_zero, List.set_cons_succ]
            refine wpAnyH_take (i := 9) (oi := ({ dst := some 75, op := Op.move (Operand.tmp 74), type := 4, pos := "outright.go:106", after := #[{ on := 8, ground := Ground.data }], guard := none })) (v := ?_) rfl (by kernel_rfl) (by kernel_rfl) (by kernel_rfl) (fun _ _ _ h => h) (Or.inl ⟨by rfl, ?_⟩) (by assumption) ?_
            rotate_left 1
            · (intro w9 hSw; (try dsimp only at hSw); go_simp; try with_reducible rfl)
            try simp only [Act.put, List.setIfInBounds_toArray, List.set_cons_zero, List.set_cons_succ]
            refine wpAnyH_take (i := 10) (oi := ({ dst := some 76, op := Op.move (Operand.tmp 1), type := 61, pos := "outright.go:106", after := #[{ on := 9, ground := Ground.guard }], guard := some (9, false) })) (v := undef) rfl (by kernel_rfl) (by kernel_rfl) (by kernel_rfl) (fun _ _ _ h => h) (Or.inr ⟨by rfl, rfl⟩) (by assumption) ?_
            try simp only [Act.put, List.setIfInBounds_toArray, List.set_cons_zero, List.set_cons_succ]
            refine wpAnyH_take (i := 11) (oi := ({ dst := some 77, op := Op.move (Operand.tmp 10), type := 3, pos := "outright.go:106", after := #[{ on := 9, ground := Ground.guard }], guard := some (9, false) })) (v := undef) rfl (by kernel_rfl) (by kernel_rfl) (by kernel_rfl) (fun _ _ _ h => h) (Or.inr ⟨by rfl, rfl⟩) (by assumption) ?_
            try simp only [Act.put, List.setIfInBounds_toArray, List.set_cons_zero, List.set_cons_succ]
            refine wpAnyH_take (i := 12) (oi := ({ dst := some 78, op := Op.indexAddr 61 (Operand.tmp 76) (Operand.tmp 77), type := 0, pos := "outright.go:106", after := #[{ on := 10, ground := Ground.data }, { on := 11, ground := Ground.data }, { on := 9, ground := Ground.guard }], guard := some (9, false) })) (v := undef) rfl (by kernel_rfl) (by kernel_rfl) (by kernel_rfl) (fun _ _ _ h => h) (Or.inr ⟨by rfl, rfl⟩) (by assumption) ?_
            try simp only [Act.put, List.setIfInBounds_toArray, List.set_cons_zero, List.set_cons_succ]
            refine wpAnyH_take (i := 13) (oi := ({ dst := some 79, op := Op.fieldAddr 64 (Operand.tmp 78) 0, type := 0, pos := "outright.go:106", after := #[{ on := 12, ground := Ground.data }, { on := 9, ground := Ground.guard }], guard := some (9, false) })) (v := undef) rfl (by kernel_rfl) (by kernel_rfl) (by kernel_rfl) (fun _ _ _ h => h) (Or.inr ⟨by rfl, rfl⟩) (by assumption) ?_
            try simp only [Act.put, List.setIfInBounds_toArray, List.set_cons_zero, List.set_cons_succ]
            refine wpAnyH_take (i := 14) (oi := ({ dst := some 80, op := Op.fieldAddr 35 (Operand.tmp 79) 0, type := 0, pos := "outright.go:106", after := #[{ on := 13, ground := Ground.data }, { on := 9, ground := Ground.guard }], guard := some (9, false) })) (v := undef) rfl (by kernel_rfl) (by kernel_rfl) (by kernel_rfl) (fun _ _ _ h => h) (Or.inr ⟨by rfl, rfl⟩) (by assumption) ?_
            try simp only [Act.put, List.setIfInBounds_toArray, List.set_cons_zero, List.set_cons_succ]
            refine wpAnyH_take (i := 15) (oi := ({ dst := some 81, op := Op.load 32 (Operand.tmp 80), type := 32, pos := "outright.go:106", after := #[{ on := 14, ground := Ground.data }, { on := 9, ground := Ground.guard }], guard := some (9, false) })) (v := undef) rfl (by kernel_rfl) (by kernel_rfl) (by kernel_rfl) (fun _ _ _ h => h) (Or.inr ⟨by rfl, rfl⟩) (by assumption) ?_
            try simp only [Act.put, List.setIfInBounds_toArray, List.set_cons_zero, List.set_cons_succ]
            refine wpAnyH_take (i := 16) (oi := ({ dst := some 82, op := Op.binOp BinOp.eql 32 (Operand.tmp 81) (Operand.const (Value.int IntKind.u8 11)) 32, type := 4, pos := "outright.go:106", after := #[{ on := 15, ground := Ground.data }, { on := 9, ground := Ground.guard }], guard := some (9, false) })) (v := undef) rfl (by kernel_rfl) (by kernel_rfl) (by kernel_rfl) (fun _ _ _ h => h) (Or.inr ⟨by rfl, rfl⟩) (by assumption) ?_
            try simp only [Act.put, List.setIfInBounds_toArray, List.set_cons_zero, List.set_cons_succ]
            refine wpAnyH_take (i := 17) (oi := ({ dst := some 83, op := Op.pick (Operand.tmp 75) (Operand.const (Value.bool true)) (Operand.tmp 82), type := 4, pos := "outright.go:106", after := #[{ on := 9, ground := Ground.data }, { on := 16, ground := Ground.data }], guard := none })) (v := ?_) rfl (by kernel_rfl) (by kernel_rfl) (by kernel_rfl) (fun _ _ _ h => h) (Or.inl ⟨by rfl, ?_⟩) (by assumption) ?_
            rotate_left 1
            · (intro w9 hSw; (try dsimp only at hSw); go_simp; try with_reducible rfl)
            try simp only [Act.put, List.setIfInBounds_toArray, List.set_cons_zero, List.set_cons_succ]
            refine wpAnyH_done (by kernel_rfl) ?_ _
            go_wp2_with fail
            go_roundw
            case rel => exact ⟨k + 1, x, mv, S, by omega, rfl, rfl, by go_num, ⟨⟨(HKJ.out.lv.new hbd).mp, HKJ.out.lv.ok, HKJ.out.lv.low, fr_new HKJ.out.lv.below hbd, Nat.le_succ_of_le HKJ.out.lv.len⟩, HKJ.out.rn, HKJ.out.lk, HKJ.out.a2.new hbd, HKJ.out.a6.new hbd⟩⟩
            case measure => simp [intOf]; omega
          · go_wp2_with fail
            have hbd : Below wr.heap.size wr wr.drew := (Below.refl _ _).drew
            have HRD := Lib.hid (And.intro ((hbd.cell (World.block_lt_of_cell? wr _ r0)).trans r0) (And.intro ((hbd.cell (World.block_lt_of_cell? wr _ r1)).trans r1) ((hbd.cell (World.block_lt_of_cell? wr _ s1)).trans s1)))
            clear r0 r1 s1
            refine wp_region_held_drew (S := fun X => X.cell? ⟨b, off + k * 8, none⟩ = some (.int .u8 y.c.verb) ∧ X.cell? ⟨b, off + k * 8 + 1, none⟩ = some (.string y.c.key) ∧ X.cell? ⟨q2, 1, none⟩ = some (.string c.key)) (by kernel_rfl) (⟨HRD.out.1, HRD.out.2.1, HRD.out.2.2⟩) (fun hHeld => ?_)
            refine wpAnyH_take (i := 0) (oi := ({ dst := some 66, op := Op.move (Operand.tmp 1), type := 61, pos := "outright.go:106", after := #[], guard := none })) (v := ?_) rfl (by kernel_rfl) (by kernel_rfl) (by kernel_rfl) (fun _ _ _ h => h) (Or.inl ⟨by rfl, ?_⟩) (by assumption) ?_
            rotate_left 1
            · (intro w9 hSw; (try dsimp only at hSw); go_simp; try with_reducible rfl)
            try simp only [Act.put, List.setIfInBounds_toArray, List.set_cons_zero, List.set_cons_succ]
            refine wpAnyH_take (i := 1) (oi := ({ dst := some 67, op := Op.move (Operand.tmp 10), type := 3, pos := "outright.go:106", after := #[], guard := none })) (v := ?_) rfl (by kernel_rfl) (by kernel_rfl) (by kernel_rfl) (fun _ _ _ h => h) (Or.inl ⟨by rfl, ?_⟩) (by assumption) ?_
            rotate_left 1
            · (intro w9 hSw; (try dsimp only at hSw); go_simp; try with_reducible rfl)
            try simp only [Act.put, List.setIfInBounds_toArray, List.set_cons_zero, List.set_cons_succ]
            refine wpAnyH_take (i := 2) (oi := ({ dst := some 68, op := Op.indexAddr 61 (Operand.tmp 66) (Operand.tmp 67), type := 0, pos := "outright.go:106", after := #[{ on := 0, ground := Ground.data }, { on := 1, ground := Ground.data }], guard := none })) (v := ?_) rfl (by kernel_rfl) (by kernel_rfl) (by kernel_rfl) (fun _ _ _ h => h) (Or.inl ⟨by rfl, ?_⟩) (by assumption) ?_
            rotate_left 1
            · (intro w9 hSw; (try dsimp only at hSw); go_simp; try with_reducible rfl)
            try simp only [Act.put, List.setIfInBounds_toArray, List.set_cons_zero, List.set_cons_succ]
            refine wpAnyH_take (i := 3) (oi := ({ dst := some 69, op := Op.fieldAddr 64 (Operand.tmp 68) 0, type := 0, pos := "outright.go:106", after := #[{ on := 2, ground := Ground.data }], guard := none })) (v := ?_) rfl (by kernel_rfl) (by kernel_rfl) (by kernel_rfl) (fun _ _ _ h => h) (Or.inl ⟨by rfl, ?_⟩) (by assumption) ?_
            rotate_left 1
            · (intro w9 hSw; (try dsimp only at hSw); go_simp; try with_reducible rfl)
            try simp only [Act.put, List.setIfInBounds_toArray, List.set_cons_zero, List.set_cons_succ]
            refine wpAnyH_take (i := 4) (oi := ({ dst := some 70, op := Op.fieldAddr 35 (Operand.tmp 69) 1, type := 0, pos := "outright.go:106", after := #[{ on := 3, ground := Ground.data }], guard := none })) (v := ?_) rfl (by kernel_rfl) (by kernel_rfl) (by kernel_rfl) (fun _ _ _ h => h) (Or.inl ⟨by rfl, ?_⟩) (by assumption) ?_
            rotate_left 1
            · (intro w9 hSw; (try dsimp only at hSw); go_simp; try with_reducible rfl)
            try simp only [Act.put, List.setIfInBounds_toArray, List.set_cons_zero, List.set_cons_succ]
            refine wpAnyH_take (i := 5) (oi := ({ dst := some 71, op := Op.load 9 (Operand.tmp 70), type := 9, pos := "outright.go:106", after := #[{ on := 4, ground := Ground.data }], guard := none })) (v := ?_) rfl (by kernel_rfl) (by kernel_rfl) (by kernel_rfl) (fun _ _ _ h => h) (Or.inl ⟨by rfl, ?_⟩) (by assumption) ?_
            rotate_left 1
            · (intro w9 hSw; (try dsimp only at hSw); go_simp; try with_reducible rfl)
            try simp only [Act.put, List.setIfInBounds_toArray, List.set_cons_zero, List.set_cons_succ]
            refine wpAnyH_take (i := 6) (oi := ({ dst := some 72, op := Op.fieldAddr 35 (Operand.tmp 2) 1, type := 0, pos := "outright.go:106", after := #[], guard := none })) (v := ?_) rfl (by kernel_rfl) (by kernel_rfl) (by kernel_rfl) (fun _ _ _ h => h) (Or.inl ⟨by rfl, ?_⟩) (by assumption) ?_
            rotate_left 1
            · (intro w9 hSw; (try dsimp only at hSw); go_simp; try with_reducible rfl)
            try simp only [Act.put, List.setIfInBounds_toArray, List.set_cons_zero, List.set_cons_succ]
            refine wpAnyH_take (i := 7) (oi := ({ dst := some 73, op := Op.load 9 (Operand.tmp 72), type := 9, pos := "outright.go:106", after := #[{ on := 6, ground := Ground.data }], guard := none })) (v := ?_) rfl (by kernel_rfl) (by kernel_rfl) (by kernel_rfl) (fun _ _ _ h => h) (Or.inl ⟨by rfl, ?_⟩) (by assumption) ?_
            rotate_left 1
            · (intro w9 hSw; (try dsimp only at hSw); go_simp; try with_reducible rfl)
            try simp only [Act.put, List.setIfInBounds_toArray, List.set_cons_zero, List.set_cons_succ]
            refine wpAnyH_take (i := 8) (oi := ({ dst := some 74, op := Op.binOp BinOp.eql 9 (Operand.tmp 71) (Operand.tmp 73) 9, type := 4, pos := "outright.go:106", after := #[{ on := 5, ground := Ground.data }, { on := 7, ground := Ground.data }], guard := none })) (v := (.bool false)) rfl (by kernel_rfl) (by kernel_rfl) (by kernel_rfl) (fun _ _ _ h => h) (Or.inl ⟨by rfl, ?_⟩) (by assumption) ?_
            · (intro w9 hSw; (try dsimp only at hSw); exact exec_bin rfl rfl rfl rfl (hstr w9))
            try simp only [Act.put, List.setIfInBounds_toArray, List.set_cons_zero, List.set_cons_succ]
            refine wpAnyH_take (i := 9) (oi := ({ dst := some 75, op := Op.move (Operand.tmp 74), type := 4, pos := "outright.go:106", after := #[{ on := 8, ground := Ground.data }], guard := none })) (v := ?_) rfl (by kernel_rfl) (by kernel_rfl) (by kernel_rfl) (fun _ _ _ h => h) (Or.inl ⟨by rfl, ?_⟩) (by assumption) ?_
            rotate_left 1
            · (intro w9 hSw; (try dsimp only at hSw); go_simp; try with_reducible rfl)
            try simp only [Act.put, List.setIfInBounds_toArray, List.set_cons_zero, List.set_cons_succ]
            refine wpAnyH_take (i := 10) (oi := ({ dst := some 76, op := Op.move (Operand.tmp 1), type := 61, pos := "outright.go:106", after := #[{ on := 9, ground := Ground.guard }], guard := some (9, false) })) (v := ?_) rfl (by kernel_rfl) (by kernel_rfl) (by kernel_rfl) (fun _ _ _ h => h) (Or.inl ⟨by rfl, ?_⟩) (by assumption) ?_
            rotate_left 1
            · (intro w9 hSw; (try dsimp only at hSw); go_simp; try with_reducible rfl)
            try simp only [Act.put, List.setIfInBounds_toArray, List.set_cons_zero, List.set_cons_succ]
            refine wpAnyH_take (i := 11) (oi := ({ dst := some 77, op := Op.move (Operand.tmp 10), type := 3, pos := "outright.go:106", after := #[{ on := 9, ground := Ground.guard }], guard := some (9, false) })) (v := ?_) rfl (by kernel_rfl) (by kernel_rfl) (by kernel_rfl) (fun _ _ _ h => h) (Or.inl ⟨by rfl, ?_⟩) (by assumption) ?_
            rotate_left 1
            · (intro w9 hSw; (try dsimp only at hSw); go_simp; try with_reducible rfl)
            try simp only [Act.put, List.setIfInBounds_toArray, List.set_cons_zero, List.set_cons_succ]
            refine wpAnyH_take (i := 12) (oi := ({ dst := some 78, op := Op.indexAddr 61 (Operand.tmp 76) (Operand.tmp 77), type := 0, pos := "outright.go:106", after := #[{ on := 10, ground := Ground.data }, { on := 11, ground := Ground.data }, { on := 9, ground := Ground.guard }], guard := some (9, false) })) (v := ?_) rfl (by kernel_rfl) (by kernel_rfl) (by kernel_rfl) (fun _ _ _ h => h) (Or.inl ⟨by rfl, ?_⟩) (by assumption) ?_
            rotate_left 1
            · (intro w9 hSw; (try dsimp only at hSw); go_simp; try with_reducible rfl)
            try simp only [Act.put, List.setIfInBounds_toArray, List.set_cons_zero, List.set_cons_succ]
            refine wpAnyH_take (i := 13) (oi := ({ dst := some 79, op := Op.fieldAddr 64 (Operand.tmp 78) 0, type := 0, pos := "outright.go:106", after := #[{ on := 12, ground := Ground.data }, { on := 9, ground := Ground.guard }], guard := some (9, false) })) (v := ?_) rfl (by kernel_rfl) (by kernel_rfl) (by kernel_rfl) (fun _ _ _ h => h) (Or.inl ⟨by rfl, ?_⟩) (by assumption) ?_
            rotate_left 1
            · (intro w9 hSw; (try dsimp only at hSw); go_simp; try with_reducible rfl)
            try simp only [Act.put, List.setIfInBounds_toArray, List.set_cons_zero, List.set_cons_succ]
            refine wpAnyH_take (i := 14) (oi := ({ dst := some 80, op := Op.fieldAddr 35 (Operand.tmp 79) 0, type := 0, pos := "outright.go:106", after := #[{ on := 13, ground := Ground.data }, { on := 9, ground := Ground.guard }], guard := some (9, false) })) (v := ?_) rfl (by kernel_rfl) (by kernel_rfl) (by kernel_rfl) (fun _ _ _ h => h) (Or.inl ⟨by rfl, ?_⟩) (by assumption) ?_
            rotate_left 1
            · (intro w9 hSw; (try dsimp only at hSw); go_simp; try with_reducible rfl)
            try simp only [Act.put, List.setIfInBounds_toArray, List.set_cons_zero, List.set_cons_succ]
            refine wpAnyH_take (i := 15) (oi := ({ dst := some 81, op := Op.load 32 (Operand.tmp 80), type := 32, pos := "outright.go:106", after := #[{ on := 14, ground := Ground.data }, { on := 9, ground := Ground.guard }], guard := some (9, false) })) (v := ?_) rfl (by kernel_rfl) (by kernel_rfl) (by kernel_rfl) (fun _ _ _ h => h) (Or.inl ⟨by rfl, ?_⟩) (by assumption) ?_
            rotate_left 1
            · (intro w9 hSw; (try dsimp only at hSw); go_simp; try with_reducible rfl)
            try simp only [Act.put, List.setIfInBounds_toArray, List.set_cons_zero, List.set_cons_succ]
            refine wpAnyH_take (i := 16) (oi := ({ dst := some 82, op := Op.binOp BinOp.eql 32 (Operand.tmp 81) (Operand.const (Value.int IntKind.u8 11)) 32, type := 4, pos := "outright.go:106", after := #[{ on := 15, ground := Ground.data }, { on := 9, ground := Ground.guard }], guard := some (9, false) })) (v := ?_) rfl (by kernel_rfl) (by kernel_rfl) (by kernel_rfl) (fun _ _ _ h => h) (Or.inl ⟨by rfl, ?_⟩) (by assumption) ?_
            rotate_left 1
            · (intro w9 hSw; (try dsimp only at hSw); go_simp; try with_reducible rfl)
            try simp only [Act.put, List.setIfInBounds_toArray, List.set_cons_zero, List.set_cons_succ]
            refine wpAnyH_take (i := 17) (oi := ({ dst := some 83, op := Op.pick (Operand.tmp 75) (Operand.const (Value.bool true)) (Operand.tmp 82), type := 4, pos := "outright.go:106", after := #[{ on := 9, ground := Ground.data }, { on := 16, ground := Ground.data }], guard := none })) (v := ?_) rfl (by kernel_rfl) (by kernel_rfl) (by kernel_rfl) (fun _ _ _ h => h) (Or.inl ⟨by rfl, ?_⟩) (by assumption) ?_
            rotate_left 1
            · (intro w9 hSw; (try dsimp only at hSw); go_simp; try with_reducible rfl)
            try simp only [Act.put, List.setIfInBounds_toArray, List.set_cons_zero, List.set_cons_succ]
            refine wpAnyH_done (by kernel_rfl) ?_ _
            go_wp2_with fail
            go_roundw
            case rel => exact ⟨k + 1, x, mv, S, by omega, rfl, rfl, by go_num, ⟨⟨(HKJ.out.lv.new hbd).mp, HKJ.out.lv.ok, HKJ.out.lv.low, fr_new HKJ.out.lv.below hbd, Nat.le_succ_of_le HKJ.out.lv.len⟩, HKJ.out.rn, HKJ.out.lk, HKJ.out.a2.new hbd, HKJ.out.a6.new hbd⟩⟩
            case measure => simp [intOf]; omega
          · go_wp2_with fail
            have hbd : Below wr.heap.size wr wr.drew := (Below.refl _ _).drew
            have HRD := Lib.hid (And.intro ((hbd.cell (World.block_lt_of_cell? wr _ r0)).trans r0) (And.intro ((hbd.cell (World.block_lt_of_cell? wr _ r1)).trans r1) ((hbd.cell (World.block_lt_of_cell? wr _ s1)).trans s1)))
            clear r0 r1 s1
            refine wp_region_held_drew (S := fun X => X.cell? ⟨b, off + k * 8, none⟩ = some (.int .u8 y.c.verb) ∧ X.cell? ⟨b, off + k * 8 + 1, none⟩ = some (.string y.c.key) ∧ X.cell? ⟨q2, 1, none⟩ = some (.string c.key)) (by kernel_rfl) (⟨HRD.out.1, HRD.out.2.1, HRD.out.2.2⟩) (fun hHeld => ?_)
            refine wpAnyH_take (i := 0) (oi := ({ dst := some 66, op := Op.move (Operand.tmp 1), type := 61, pos := "outright.go:106", after := #[], guard := none })) (v := ?_) rfl (by kernel_rfl) (by kernel_rfl) (by kernel_rfl) (fun _ _ _ h => h) (Or.inl ⟨by rfl, ?_⟩) (by assumption) ?_
            rotate_left 1
            · (intro w9 hSw; (try dsimp only at hSw); go_simp; try with_reducible rfl)
            try simp only [Act.put, List.setIfInBounds_toArray, List.set_cons_zero, List.set_cons_succ]
            refine wpAnyH_take (i := 1) (oi := ({ dst := some 67, op := Op.move (Operand.tmp 10), type := 3, pos := "outright.go:106", after := #[], guard := none })) (v := ?_) rfl (by kernel_rfl) (by kernel_rfl) (by kernel_rfl) (fun _ _ _ h => h) (Or.inl ⟨by rfl, ?_⟩) (by assumption) ?_
            rotate_left 1
            · (intro w9 hSw; (try dsimp only at hSw); go_simp; try with_reducible rfl)
            try simp only [Act.put, List.setIfInBounds_toArray, List.set_cons_zero, List.set_cons_succ]
            refine wpAnyH_take (i := 2) (oi := ({ dst := some 68, op := Op.indexAddr 61 (Operand.tmp 66) (Operand.tmp 67), type := 0, pos := "outright.go:106", after := #[{ on := 0, ground := Ground.data }, { on := 1, ground := Ground.data }], guard := none })) (v := ?_) rfl (by kernel_rfl) (by kernel_rfl) (by kernel_rfl) (fun _ _ _ h => h) (Or.inl ⟨by rfl, ?_⟩) (by assumption) ?_
            rotate_left 1
            · (intro w9 hSw; (try dsimp only at hSw); go_simp; try with_reducible rfl)
            try simp only [Act.put, List.setIfInBounds_toArray, List.set_cons_zero, List.set_cons_succ]
            refine wpAnyH_take (i := 3) (oi := ({ dst := some 69, op := Op.fieldAddr 64 (Operand.tmp 68) 0, type := 0, pos := "outright.go:106", after := #[{ on := 2, ground := Ground.data }], guard := none })) (v := ?_) rfl (by kernel_rfl) (by kernel_rfl) (by kernel_rfl) (fun _ _ _ h => h) (Or.inl ⟨by rfl, ?_⟩) (by assumption) ?_
            rotate_left 1
            · (intro w9 hSw; (try dsimp only at hSw); go_simp; try with_reducible rfl)
            try simp only [Act.put, List.setIfInBounds_toArray, List.set_cons_zero, List.set_cons_succ]
            refine wpAnyH_take (i := 4) (oi := ({ dst := some 70, op := Op.fieldAddr 35 (Operand.tmp 69) 1, type := 0, pos := "outright.go:106", after := #[{ on := 3, ground := Ground.data }], guard := none })) (v := ?_) rfl (by kernel_rfl) (by kernel_rfl) (by kernel_rfl) (fun _ _ _ h => h) (Or.inl ⟨by rfl, ?_⟩) (by assumption) ?_
            rotate_left 1
            · (intro w9 hSw; (try dsimp only at hSw); go_simp; try with_reducible rfl)
            try simp only [Act.put, List.setIfInBounds_toArray, List.set_cons_zero, List.set_cons_succ]
            refine wpAnyH_take (i := 5) (oi := ({ dst := some 71, op := Op.load 9 (Operand.tmp 70), type := 9, pos := "outright.go:106", after := #[{ on := 4, ground := Ground.data }], guard := none })) (v := ?_) rfl (by kernel_rfl) (by kernel_rfl) (by kernel_rfl) (fun _ _ _ h => h) (Or.inl ⟨by rfl, ?_⟩) (by assumption) ?_
            rotate_left 1
            · (intro w9 hSw; (try dsimp only at hSw); go_simp; try with_reducible rfl)
            try simp only [Act.put, List.setIfInBounds_toArray, List.set_cons_zero, List.set_cons_succ]
            refine wpAnyH_take (i := 6) (oi := ({ dst := some 72, op := Op.fieldAddr 35 (Operand.tmp 2) 1, type := 0, pos := "outright.go:106", after := #[], guard := none })) (v := ?_) rfl (by kernel_rfl) (by kernel_rfl) (by kernel_rfl) (fun _ _ _ h => h) (Or.inl ⟨by rfl, ?_⟩) (by assumption) ?_
            rotate_left 1
            · (intro w9 hSw; (try dsimp only at hSw); go_simp; try with_reducible rfl)
            try simp only [Act.put, List.setIfInBounds_toArray, List.set_cons_zero, List.set_cons_succ]
            refine wpAnyH_take (i := 7) (oi := ({ dst := some 73, op := Op.load 9 (Operand.tmp 72), type := 9, pos := "outright.go:106", after := #[{ on := 6, ground := Ground.data }], guard := none })) (v := ?_) rfl (by kernel_rfl) (by kernel_rfl) (by kernel_rfl) (fun _ _ _ h => h) (Or.inl ⟨by rfl, ?_⟩) (by assumption) ?_
            rotate_left 1
            · (intro w9 hSw; (try dsimp only at hSw); go_simp; try with_reducible rfl)
            try simp only [Act.put, List.setIfInBounds_toArray, List.set_cons_zero, List.set_cons_succ]
            refine wpAnyH_take (i := 8) (oi := ({ dst := some 74, op := Op.binOp BinOp.eql 9 (Operand.tmp 71) (Operand.tmp 73) 9, type := 4, pos := "outright.go:106", after := #[{ on := 5, ground := Ground.data }, { on := 7, ground := Ground.data }], guard := none })) (v := (.bool false)) rfl (by kernel_rfl) (by kernel_rfl) (by kernel_rfl) (fun _ _ _ h => h) (Or.inl ⟨by rfl, ?_⟩) (by assumption) ?_
            · (intro w9 hSw; (try dsimp only at hSw); exact exec_bin rfl rfl rfl rfl (hstr w9))
            try simp only [Act.put, List.setIfInBounds_toArray, List.set_cons_zero, List.set_cons_succ]
            refine wpAnyH_take (i := 9) (oi := ({ dst := some 75, op := Op.move (Operand.tmp 74), type := 4, pos := "outright.go:106", after := #[{ on := 8, ground := Ground.data }], guard := none })) (v := ?_) rfl (by kernel_rfl) (by kernel_rfl) (by kernel_rfl) (fun _ _ _ h => h) (Or.inl ⟨by rfl, ?_⟩) (by assumption) ?_
            rotate_left 1
            · (intro w9 hSw; (try dsimp only at hSw); go_simp; try with_reducible rfl)
            try simp only [Act.put, List.setIfInBounds_toArray, List.set_cons_zero, List.set_cons_succ]
            refine wpAnyH_take (i := 10) (oi := ({ dst := some 76, op := Op.move (Operand.tmp 1), type := 61, pos := "outright.go:106", after := #[{ on := 9, ground := Ground.guard }], guard := some (9, false) })) (v := ?_) rfl (by kernel_rfl) (by kernel_rfl) (by kernel_rfl) (fun _ _ _ h => h) (Or.inl ⟨by rfl, ?_⟩) (by assumption) ?_
            rotate_left 1
            · (intro w9 hSw; (try dsimp only at hSw); go_simp; try with_reducible rfl)
            try simp only [Act.put, List.setIfInBounds_toArray, List.set_cons_zero, List.set_cons_succ]
            refine wpAnyH_take (i := 11) (oi := ({ dst := some 77, op := Op.move (Operand.tmp 10), type := 3, pos := "outright.go:106", after := #[{ on := 9, ground := Ground.guard }], guard := some (9, false) })) (v := ?_) rfl (by kernel_rfl) (by kernel_rfl) (by kernel_rfl) (fun _ _ _ h => h) (Or.inl ⟨by rfl, ?_⟩) (by assumption) ?_
            rotate_left 1
            · (intro w9 hSw; (try dsimp only at hSw); go_simp; try with_reducible rfl)
            try simp only [Act.put, List.setIfInBounds_toArray, List.set_cons_zero, List.set_cons_succ]
            refine wpAnyH_take (i := 12) (oi := ({ dst := some 78, op := Op.indexAddr 61 (Operand.tmp 76) (Operand.tmp 77), type := 0, pos := "outright.go:106", after := #[{ on := 10, ground := Ground.data }, { on := 11, ground := Ground.data }, { on := 9, ground := Ground.guard }], guard := some (9, false) })) (v := ?_) rfl (by kernel_rfl) (by kernel_rfl) (by kernel_rfl) (fun _ _ _ h => h) (Or.inl ⟨by rfl, ?_⟩) (by assumption) ?_
            rotate_left 1
            · (intro w9 hSw; (try dsimp only at hSw); go_simp; try with_reducible rfl)
            try simp only [Act.put, List.setIfInBounds_toArray, List.set_cons_zero, List.set_cons_succ]
            refine wpAnyH_take (i := 13) (oi := ({ dst := some 79, op := Op.fieldAddr 64 (Operand.tmp 78) 0, type := 0, pos := "outright.go:106", after := #[{ on := 12, ground := Ground.data }, { on := 9, ground := Ground.guard }], guard := some (9, false) })) (v := ?_) rfl (by kernel_rfl) (by kernel_rfl) (by kernel_rfl) (fun _ _ _ h => h) (Or.inl ⟨by rfl, ?_⟩) (by assumption) ?_
            rotate_left 1
            · (intro w9 hSw; (try dsimp only at hSw); go_simp; try with_reducible rfl)
            try simp only [Act.put, List.setIfInBounds_toArray, List.set_cons_zero, List.set_cons_succ]
            refine wpAnyH_take (i := 14) (oi := ({ dst := some 80, op := Op.fieldAddr 35 (Operand.tmp 79) 0, type := 0, pos := "outright.go:106", after := #[{ on := 13, ground := Ground.data }, { on := 9, ground := Ground.guard }], guard := some (9, false) })) (v := ?_) rfl (by kernel_rfl) (by kernel_rfl) (by kernel_rfl) (fun _ _ _ h => h) (Or.inl ⟨by rfl, ?_⟩) (by assumption) ?_
            rotate_left 1
            · (intro w9 hSw; (try dsimp only at hSw); go_simp; try with_reducible rfl)
            try simp only [Act.put, List.setIfInBounds_toArray, List.set_cons_zero, List.set_cons_succ]
            refine wpAnyH_take (i := 15) (oi := ({ dst := some 81, op := Op.load 32 (Operand.tmp 80), type := 32, pos := "outright.go:106", after := #[{ on := 14, ground := Ground.data }, { on := 9, ground := Ground.guard }], guard := some (9, false) })) (v := ?_) rfl (by kernel_rfl) (by kernel_rfl) (by kernel_rfl) (fun _ _ _ h => h) (Or.inl ⟨by rfl, ?_⟩) (by assumption) ?_
            rotate_left 1
            · (intro w9 hSw; (try dsimp only at hSw); go_simp; try with_reducible rfl)
            try simp only [Act.put, List.setIfInBounds_toArray, List.set_cons_zero, List.set_cons_succ]
            refine wpAnyH_take (i := 16) (oi := ({ dst := some 82, op := Op.binOp BinOp.eql 32 (Operand.tmp 81) (Operand.const (Value.int IntKind.u8 11)) 32, type := 4, pos := "outright.go:106", after := #[{ on := 15, ground := Ground.data }, { on := 9, ground := Ground.guard }], guard := some (9, false) })) (v := ?_) rfl (by kernel_rfl) (by kernel_rfl) (by kernel_rfl) (fun _ _ _ h => h) (Or.inl ⟨by rfl, ?_⟩) (by assumption) ?_
            rotate_left 1
            · (intro w9 hSw; (try dsimp only at hSw); go_simp; try with_reducible rfl)
            try simp only [Act.put, List.setIfInBounds_toArray, List.set_cons_zero, List.set_cons_succ]
            refine wpAnyH_take (i := 17) (oi := ({ dst := some 83, op := Op.pick (Operand.tmp 75) (Operand.const (Value.bool true)) (Operand.tmp 82), type := 4, pos := "outright.go:106", after := #[{ on := 9, ground := Ground.data }, { on := 16, ground := Ground.data }], guard := none })) (v := ?_) rfl (by kernel_rfl) (by kernel_rfl) (by kernel_rfl) (fun _ _ _ h => h) (Or.inl ⟨by rfl, ?_⟩) (by assumption) ?_
            rotate_left 1
            · (intro w9 hSw; (try dsimp only at hSw); go_simp; try with_reducible rfl)
            try simp only [Act.put, List.setIfInBounds_toArray, List.set_cons_zero, List.set_cons_succ]
            refine wpAnyH_done (by kernel_rfl) ?_ _
            have hnv : ¬ y.c.verb = 11 := by have := HVE.out; simpa using this
            have hnk : ¬ y.c.key = c.key := by have := HKE.out; simpa using this
            obtain ⟨e1, e2, e3⟩ := kp_does HKJ.out.rn HKJ.out.lk HY.out.1 hnk hnv
            have hbn := hbd
            obtain ⟨WQ, hWQ⟩ : ∃ W, W = wr.drew := ⟨_, rfl⟩
            rw [← hWQ] at hbn ⊢
            have HRQ := Lib.hid (HRG.out _ hbn)
            have KQ := Lib.hid (show Lv w WQ m mv S (k + 1) ∧ Ap WQ m mv q2 (calC (calS c)) ∧ Ap WQ m mv q6 (itC (recS c)) from ⟨HKJ.out.lv.new hbn, HKJ.out.a2.new hbn, HKJ.out.a6.new hbn⟩)
            obtain ⟨D, hD⟩ : ∃ D, S.does y.c x = D := ⟨_, rfl⟩
            obtain ⟨an, T⟩ := D
            rw [hD] at e1 e2 e3
            have HD := Lib.hid hD
            have HE := Lib.hid (And.intro e1 (And.intro e2 e3))
            have hqi : ∀ W, (binOp .neq 38 (.agg (itC (recS c)).toArray) (.agg (itC (recS c)).toArray)).run Tryd.prog W = .ok (.bool false) W := fun W => by
              have := it_neq (recS c) (recS c) W
              rw [decide_eq_false (by simp)] at this
              exact this
            obtain ⟨k1, hk1⟩ : ∃ b, (an.kind == 1) = b := ⟨_, rfl⟩
            obtain ⟨k8, hk8⟩ : ∃ b, (an.kind == 8) = b := ⟨_, rfl⟩
            have HK1 := Lib.hid (And.intro hk1 hk8)
            clear hnv hnk e1 e2 e3 hD hWQ hbn hbd hve hstr y7 hHeld
            have hcs : (k1 = true) ∨ (k1 = false ∧ k8 = true) ∨ (k1 = false ∧ k8 = false) := by cases k1 <;> cases k8 <;> simp
            rcases hcs with rfl | ⟨rfl, rfl⟩ | ⟨rfl, rfl⟩
            all_goals
              go_wp2_with (first
                | ((with_reducible refine at_wq ?_); refine wpList_load_mid rfl 35 (.tmp 88) rfl b (off + k * 8) rfl (calC y.c) _ HRQ.out Tryd.underlying35 rfl info_ca ?_)
                | (go_at_call 28; refine (KQ.out.1.does (c := y.c) (x := x) HY.out.1 HZ.out HT.out (by omega)).mono ?_; rintro e W6 ⟨rfl, mv', l, ap⟩; rw [HD.out] at l ⊢; have K6 := Lib.hid (And.intro l (And.intro (ap _ _ KQ.out.2.1) (ap _ _ KQ.out.2.2))); clear l ap KQ HRQ)
                | (have _ := K6; (with_reducible refine at_wq ?_); refine wpList_alloc_bk rfl 40 (ansC Ans.none) alloc_an rfl ?_; intro W7 q12 h7)
                | ((with_reducible refine at_wq ?_); refine wpList_store_bk rfl 40 (.tmp 12) (.tmp 91) rfl q12 0 (ansC Ans.none) (ansC an) (ansC an) h7.bk (Nat.le_refl 8) rfl info_an (ansC_one _) rfl rfl ?_; intro W8 hs ks; have K8 := Lib.hid (And.intro ((K6.out.1.new h7.below).st ks (K6.out.1.fresh h7) (h7.at K6.out.1.below)) (And.intro ((K6.out.2.1.new h7.below).st ks (by have e1 := K6.out.2.1.bk.lt; have e2 := h7.eq; omega)) ((K6.out.2.2.new h7.below).st ks (by have e1 := K6.out.2.2.bk.lt; have e2 := h7.eq; omega)))); have g0 := hs.at_ 0 _ rfl; have s1 := K8.out.2.1.bk.at_ 1 _ rfl; clear hs ks h7 K6)
                | (go_at_call 20; refine (Atw K8.out.1.mp c.key HC.out.key).mono ?_; rintro e W9 ⟨rfl, b9⟩; unfold atV; rw [HE.out.2.1]; have K9 := Lib.hid (And.intro (K8.out.1.new b9) (And.intro (K8.out.2.1.new b9) (K8.out.2.2.new b9))); clear b9 K8 g0 s1)
                | (have _ := K9; (with_reducible refine at_wq ?_); refine wpList_alloc_bk rfl 38 (itC Itm.none) alloc_it rfl ?_; intro W10 q13 h10)
                | ((with_reducible refine at_wq ?_); refine wpList_store_bk rfl 38 (.tmp 13) (.tmp 107) rfl q13 0 (itC Itm.none) (itC (recS c)) (itC (recS c)) h10.bk (Nat.le_refl 6) rfl info_it (itC_one _) rfl rfl ?_; intro W11 hs ks; have HS13 := Lib.hid hs; have K11 := Lib.hid (And.intro ((K9.out.1.new h10.below).st ks (K9.out.1.fresh h10) (h10.at K9.out.1.below)) (And.intro ((K9.out.2.1.new h10.below).st ks (by have e1 := K9.out.2.1.bk.lt; have e2 := h10.eq; omega)) ((K9.out.2.2.new h10.below).st ks (by have e1 := K9.out.2.2.bk.lt; have e2 := h10.eq; omega)))); clear hs ks h10 K9)
                | ((with_reducible refine at_wq ?_); refine wpList_load_bk rfl 38 (.tmp 13) rfl q13 0 (itC (recS c)) (itC (recS c)) HS13.out rfl _ Tryd.underlying38 rfl info_it rfl ?_)
                | ((with_reducible refine at_wq ?_); refine wpList_load_bk rfl 38 (.tmp 6) rfl q6 0 (itC (recS c)) (itC (recS c)) K11.out.2.2.bk rfl _ Tryd.underlying38 rfl info_it rfl ?_)
                | (go_at_call 24; refine (Idsw K11.out.1.mp).mono ?_; rintro e WI ⟨rfl, rfl⟩; have HTI := HE.out.2.2; have hkk := HK1.out; simp only [beq_iff_eq, beq_eq_false_iff_ne, ne_eq] at hkk; (first | (rw [if_pos (by omega)] at HTI; replace HTI : T.i = IntKind.u64.wrap (S.i + 1) := HTI) | rw [if_neg (by omega)] at HTI); rw [HTI]; clear hkk; have HTJ := Lib.hid HTI; clear HTI))
              go_roundw
              case rel => exact ⟨k + 1, x, mv', T, by omega, rfl, by rw [HTJ.out], by go_num, ⟨K11.out.1, HE.out.1, HE.out.2.1, K11.out.2.1, K11.out.2.2⟩⟩
              case measure => simp [intOf]; omega
    · have hkd : decide (k < n) = false := decide_eq_false hlt
      obtain ⟨hgs, hgi⟩ := kp_get hki.rn hki.lk HOK.out
      obtain ⟨al, hal⟩ : ∃ b, aliveI (recS c) z = b := ⟨_, rfl⟩
      obtain ⟨g, hg⟩ : ∃ g, wantK c z = g := ⟨_, rfl⟩
      have HAL := Lib.hid hal
      rw [hg] at hgs
      have HG := Lib.hid (And.intro hgs hgi)
      have HZ := Lib.hid hki.rn.range
      unfold wantK at hg
      rw [hal] at hg
      have HA2 := Lib.hid hki.a2
      have s1 := hki.a2.bk.at_ 1 _ rfl
      have e2 : ∀ W, (binOp .eql 40 (.agg #[.int .u8 g.kind, .int .u64 g.num, .string g.item.k, .string g.item.v, .int .u32 g.item.fl, .int .u64 g.item.id, .int .i64 g.item.dies, .int .i64 g.item.gen]) (.agg #[.int .u8 g.kind, .int .u64 g.num, .string g.item.k, .string g.item.v, .int .u32 g.item.fl, .int .u64 g.item.id, .int .i64 g.item.dies, .int .i64 g.item.gen])).run Tryd.prog W = .ok (.bool true) W := fun W => by
        have := an_eql g g W
        rw [decide_eq_true (by rfl)] at this
        exact this
      clear hgs hgi hal hki hk
      cases al with
      | false =>
        have HGG := Lib.hid (show Ans.of 12 = g from by rw [← hg]; simp)
        clear hg
        go_wp2_with (first
          | (go_at_call 12; refine (Givesw (c := calN 1 c.key ⟨#[]⟩) (x := z) KI0.out.lv.mp KI0.out.lv.ok OG.out HZ.out (KI0.out.lv.tab HT.out)).mono ?_; rintro e V9 ⟨rfl, b9⟩; rw [HG.out.1, HG.out.2]; have K9 := Lib.hid (And.intro (KI0.out.lv.new b9) (And.intro (KI0.out.a2.new b9) (KI0.out.a6.new b9))); clear b9 KI0 s1)
          | (have _ := K9; (with_reducible refine at_wq ?_); refine wpList_alloc_bk rfl 40 (ansC Ans.none) alloc_an rfl ?_; intro W10 q15 h15; have L9 := Lib.hid K9.out; clear K9)
          | ((with_reducible refine at_wq ?_); refine wpList_store_bk rfl 40 (.tmp 15) (.tmp 129) rfl q15 0 (ansC Ans.none) (ansC g) (ansC g) h15.bk (Nat.le_refl 8) rfl info_an (ansC_one _) rfl rfl ?_; intro W11 hs ks; have K11 := Lib.hid (And.intro ((L9.out.1.new h15.below).st ks (L9.out.1.fresh h15) (h15.at L9.out.1.below)) (And.intro ((L9.out.2.1.new h15.below).st ks (by have e1 := L9.out.2.1.bk.lt; have e2 := h15.eq; omega)) (And.intro ((L9.out.2.2.new h15.below).st ks (by have e1 := L9.out.2.2.bk.lt; have e2 := h15.eq; omega)) (show Ap _ _ _ q15 (ansC g) from ⟨hs, L9.out.1.fresh h15⟩)))); clear hs ks h15 L9)
          | (have _ := K11; (with_reducible refine at_wq ?_); refine wpList_alloc_bk rfl 40 (ansC Ans.none) alloc_an rfl ?_; intro W12 q17 h17; have L11 := Lib.hid K11.out; clear K11)
          | (have _ := L11; (with_reducible refine at_wq ?_); refine wpList_store_bk rfl 40 (.tmp 17) (.tmp 131) rfl q17 0 (ansC Ans.none) (ansC (Ans.of 12)) (ansC (Ans.of 12)) h17.bk (Nat.le_refl 8) rfl info_an (ansC_one _) rfl rfl ?_; intro W13 hs ks; have HNE := Lib.hid (show q2 ≠ q17 ∧ q6 ≠ q17 ∧ q15 ≠ q17 ∧ ¬ MpB m mv q17 ∧ w.heap.size ≤ q17 from ⟨by have e1 := L11.out.2.1.bk.lt; have e2 := h17.eq; omega, by have e1 := L11.out.2.2.1.bk.lt; have e2 := h17.eq; omega, by have e1 := L11.out.2.2.2.bk.lt; have e2 := h17.eq; omega, L11.out.1.fresh h17, h17.at L11.out.1.below⟩); have K13 := Lib.hid (And.intro ((L11.out.1.new h17.below).st ks HNE.out.2.2.2.1 HNE.out.2.2.2.2) (And.intro ((L11.out.2.1.new h17.below).st ks HNE.out.1) (And.intro ((L11.out.2.2.1.new h17.below).st ks HNE.out.2.1) ((L11.out.2.2.2.new h17.below).st ks HNE.out.2.2.1)))); have A17 := Lib.hid (show Ap _ _ _ q17 (ansC (Ans.of 12)) from ⟨hs, L11.out.1.fresh h17⟩); clear hs ks h17 L11)
          | (have _ := K13; (with_reducible refine at_wq ?_); refine wpList_load_bk rfl 38 (.tmp 6) rfl q6 0 (itC (recS c)) [.string c.key, .string c.val, .int .u32 c.fl, .int .u64 1, .int .i64 (diesf 0 c.exp), .int .i64 0] K13.out.2.2.1.bk rfl _ Tryd.underlying38 rfl info_it rfl ?_)
          | (go_at_call 30; refine (alivew c.key c.val c.fl 1 (diesf 0 c.exp) 0 z _ HZ.out.1 HZ.out.2).mono ?_; rintro e V14 ⟨rfl, b14⟩; rw [show alivef 0 (diesf 0 c.exp) z = false from HAL.out]; have K15 := Lib.hid (K13.out.1.new b14); have p2 := K13.out.2.1.new b14; have p6 := K13.out.2.2.1.new b14; have p15 := K13.out.2.2.2.new b14; have p17 := (HGG.out ▸ A17.out.new b14 : Ap _ _ _ q17 (ansC g)); have y2 := p2.bk.at_ 2 _ rfl; have y3 := p2.bk.at_ 3 _ rfl; have z1 := p6.bk.at_ 1 _ rfl; have z2 := p6.bk.at_ 2 _ rfl; have z3 := p6.bk.at_ 3 _ rfl; obtain ⟨a0, a1, a2, a3, a4, a5, a6, a7⟩ := an_cells p15.bk; obtain ⟨g0, g1, g2, g3, g4, g5, g6, g7⟩ := an_cells p17.bk; clear p2 p6 p15 p17 b14 K13 A17)
          | (go_at_call 10; refine (lives36 _ (K15.out.tab HT.out)).mono ?_; rintro e WL ⟨rfl, bl⟩))
        go_ret
        exact ⟨rfl, fr_new K15.out.below bl⟩
      | true =>
        have HGG := Lib.hid (show (⟨11, 0, recS c⟩ : Ans) = g from by rw [← hg]; simp)
        clear hg
        go_wp2_with (first
          | (go_at_call 12; refine (Givesw (c := calN 1 c.key ⟨#[]⟩) (x := z) KI0.out.lv.mp KI0.out.lv.ok OG.out HZ.out (KI0.out.lv.tab HT.out)).mono ?_; rintro e V9 ⟨rfl, b9⟩; rw [HG.out.1, HG.out.2]; have K9 := Lib.hid (And.intro (KI0.out.lv.new b9) (And.intro (KI0.out.a2.new b9) (KI0.out.a6.new b9))); clear b9 KI0 s1)
          | (have _ := K9; (with_reducible refine at_wq ?_); refine wpList_alloc_bk rfl 40 (ansC Ans.none) alloc_an rfl ?_; intro W10 q15 h15; have L9 := Lib.hid K9.out; clear K9)
          | ((with_reducible refine at_wq ?_); refine wpList_store_bk rfl 40 (.tmp 15) (.tmp 129) rfl q15 0 (ansC Ans.none) (ansC g) (ansC g) h15.bk (Nat.le_refl 8) rfl info_an (ansC_one _) rfl rfl ?_; intro W11 hs ks; have K11 := Lib.hid (And.intro ((L9.out.1.new h15.below).st ks (L9.out.1.fresh h15) (h15.at L9.out.1.below)) (And.intro ((L9.out.2.1.new h15.below).st ks (by have e1 := L9.out.2.1.bk.lt; have e2 := h15.eq; omega)) (And.intro ((L9.out.2.2.new h15.below).st ks (by have e1 := L9.out.2.2.bk.lt; have e2 := h15.eq; omega)) (show Ap _ _ _ q15 (ansC g) from ⟨hs, L9.out.1.fresh h15⟩)))); clear hs ks h15 L9)
          | (have _ := K11; (with_reducible refine at_wq ?_); refine wpList_alloc_bk rfl 40 (ansC Ans.none) alloc_an rfl ?_; intro W12 q17 h17; have L11 := Lib.hid K11.out; clear K11)
          | (have _ := L11; (with_reducible refine at_wq ?_); refine wpList_store_bk rfl 40 (.tmp 17) (.tmp 131) rfl q17 0 (ansC Ans.none) (ansC (Ans.of 12)) (ansC (Ans.of 12)) h17.bk (Nat.le_refl 8) rfl info_an (ansC_one _) rfl rfl ?_; intro W13 hs ks; have HNE := Lib.hid (show q2 ≠ q17 ∧ q6 ≠ q17 ∧ q15 ≠ q17 ∧ ¬ MpB m mv q17 ∧ w.heap.size ≤ q17 from ⟨by have e1 := L11.out.2.1.bk.lt; have e2 := h17.eq; omega, by have e1 := L11.out.2.2.1.bk.lt; have e2 := h17.eq; omega, by have e1 := L11.out.2.2.2.bk.lt; have e2 := h17.eq; omega, L11.out.1.fresh h17, h17.at L11.out.1.below⟩); have K13 := Lib.hid (And.intro ((L11.out.1.new h17.below).st ks HNE.out.2.2.2.1 HNE.out.2.2.2.2) (And.intro ((L11.out.2.1.new h17.below).st ks HNE.out.1) (And.intro ((L11.out.2.2.1.new h17.below).st ks HNE.out.2.1) ((L11.out.2.2.2.new h17.below).st ks HNE.out.2.2.1)))); have A17 := Lib.hid (show Ap _ _ _ q17 (ansC (Ans.of 12)) from ⟨hs, L11.out.1.fresh h17⟩); clear hs ks h17 L11)
          | (have _ := K13; (with_reducible refine at_wq ?_); refine wpList_load_bk rfl 38 (.tmp 6) rfl q6 0 (itC (recS c)) [.string c.key, .string c.val, .int .u32 c.fl, .int .u64 1, .int .i64 (diesf 0 c.exp), .int .i64 0] K13.out.2.2.1.bk rfl _ Tryd.underlying38 rfl info_it rfl ?_)
          | (go_at_call 30; refine (alivew c.key c.val c.fl 1 (diesf 0 c.exp) 0 z _ HZ.out.1 HZ.out.2).mono ?_; rintro e V14 ⟨rfl, b14⟩; rw [show alivef 0 (diesf 0 c.exp) z = true from HAL.out]; have K14 := Lib.hid (And.intro (K13.out.1.new b14) (And.intro (K13.out.2.1.new b14) (And.intro (K13.out.2.2.1.new b14) (And.intro (K13.out.2.2.2.new b14) (A17.out.new b14))))); clear b14 K13 A17)
          | (have _ := K14; (with_reducible refine at_wq ?_); refine wpList_load_bk rfl 38 (.tmp 6) rfl q6 0 (itC (recS c)) [.string c.key, .string c.val, .int .u32 c.fl, .int .u64 1, .int .i64 (diesf 0 c.exp), .int .i64 0] K14.out.2.2.1.bk rfl _ Tryd.underlying38 rfl info_it rfl ?_)
          | (have _ := K14; (with_reducible refine at_wq ?_); refine wpList_store_bk rfl 40 (.tmp 17) (.tmp 136) rfl q17 0 (ansC (Ans.of 12)) (ansC ⟨11, 0, recS c⟩) (ansC ⟨11, 0, recS c⟩) K14.out.2.2.2.2.bk (Nat.le_refl 8) rfl info_an (ansC_one _) rfl rfl ?_; intro W15 hs ks; rw [HGG.out] at hs; have K15 := Lib.hid (K14.out.1.st ks HNE.out.2.2.2.1 HNE.out.2.2.2.2); have p2 := K14.out.2.1.st ks HNE.out.1; have p6 := K14.out.2.2.1.st ks HNE.out.2.1; have p15 := K14.out.2.2.2.1.st ks HNE.out.2.2.1; have p17 := (show Ap _ _ _ q17 (ansC g) from ⟨hs, HNE.out.2.2.2.1⟩); have y2 := p2.bk.at_ 2 _ rfl; have y3 := p2.bk.at_ 3 _ rfl; have z1 := p6.bk.at_ 1 _ rfl; have z2 := p6.bk.at_ 2 _ rfl; have z3 := p6.bk.at_ 3 _ rfl; obtain ⟨a0, a1, a2, a3, a4, a5, a6, a7⟩ := an_cells p15.bk; obtain ⟨g0, g1, g2, g3, g4, g5, g6, g7⟩ := an_cells p17.bk; clear p2 p6 p15 p17 ks hs K14)
          | (go_at_call 10; refine (lives36 _ (K15.out.tab HT.out)).mono ?_; rintro e WL ⟨rfl, bl⟩))
        go_ret
        exact ⟨rfl, fr_new K15.out.below bl⟩
end
theorem walk_MapsKeeps (a0_0 : Int) (a0_1 : ByteArray) (a0_2 : ByteArray) (a0_3 : Int) (a0_4 : Int) (a0_5 : Int) (a0_6 : Int) (a1 : Option Addr) (l1 c1 : Nat) (w : World) (w0_0 : (Lit.int .u8 a0_0).wf = true) (w0_1 : a0_1.size ≤ maxLen) (w0_2 : a0_2.size ≤ maxLen) (w0_3 : (Lit.int .u32 a0_3).wf = true) (w0_4 : (Lit.int .i64 a0_4).wf = true) (w0_5 : (Lit.int .u64 a0_5).wf = true) (w0_6 : (Lit.int .u64 a0_6).wf = true) (w1 : Reads Tryd.prog w 61 (.slice a1 l1 c1)) (htab : Lib.TabIs Tryd.prog w "internal/strconv.uint64pow10" .u64 Lib.pow10Tab) :
    Calls Tryd.prog 6 #[.agg #[.int .u8 a0_0, .string a0_1, .string a0_2, .int .u32 a0_3, .int .i64 a0_4, .int .u64 a0_5, .int .u64 a0_6], .slice a1 l1 c1] w fun e w' => e = .returned (.bool true) ∧ Below w.heap.size w w' := by
  obtain ⟨L, hl, hn, hcp, hR, hK⟩ := open_steps w1
  have b0 := bounds_u8 w0_0
  have b3 := bounds_u32 w0_3
  have b5 := bounds_u64 w0_5
  have hc : CalOk ⟨a0_0, a0_1, a0_2, a0_3, a0_4, a0_5, a0_6⟩ := ⟨by show 0 ≤ a0_0 ∧ a0_0 < 256; omega, w0_1, w0_2, by show 0 ≤ a0_3 ∧ a0_3 < 4294967296; omega, bounds_i64 w0_4, by show 0 ≤ a0_5 ∧ a0_5 < 18446744073709551616; omega, bounds_u64 w0_6⟩
  cases hb1 : longB L with
  | true => exact kp_a (c := ⟨a0_0, a0_1, a0_2, a0_3, a0_4, a0_5, a0_6⟩) hl hn hcp hR hK hc htab hb1
  | false =>
    cases hb2 : longB [⟨⟨a0_0, a0_1, a0_2, a0_3, a0_4, a0_5, a0_6⟩, 0⟩] with
    | true => exact kp_b (c := ⟨a0_0, a0_1, a0_2, a0_3, a0_4, a0_5, a0_6⟩) hl hn hcp hR hK hc htab hb1 hb2
    | false =>
      cases hok : okB a0_1 with
      | false => exact kp_c (c := ⟨a0_0, a0_1, a0_2, a0_3, a0_4, a0_5, a0_6⟩) hl hn hcp hR hK hc htab hb1 hb2 hok
      | true => exact kp_main (c := ⟨a0_0, a0_1, a0_2, a0_3, a0_4, a0_5, a0_6⟩) hl hn hcp hR hK hc htab hb1 hb2 hok
end Go.Proofs.YtmjklkcjinfmaaaDoor
