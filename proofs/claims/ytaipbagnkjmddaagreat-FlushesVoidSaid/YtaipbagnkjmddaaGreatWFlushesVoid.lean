/- The law FlushesVoid. -/
import Derived.Test.YtaipbagnkjmddaaGreatBg0
import Derived.Test.YtaipbagnkjmddaaGreatGPw
import Derived.Test.YtaipbagnkjmddaaGreatGFl
import Derived.Test.YtaipbagnkjmddaaGreatOpen
import Derived.Deep.Cut
import Derived.Deep.CutBlock
import Derived.Deep.QuietTactic
import Derived.BigQuiet
namespace Go.Proofs.YtaipbagnkjmddaaGreat
open Go.RowKit Go.Maps
set_option linter.unusedVariables false
theorem belowNv {w : World} (n : Nat) : Below w.heap.size w (w.drewN n) := by
  induction n with
  | zero => exact Below.refl _ _
  | succ n ih => exact ih.drew
/-- A Flush that is over, or none. -/
def OvF (w : World) (v : Value) : Prop := v = .pointer none ∨ ∃ q, v = .pointer (some ⟨q, 0, none⟩) ∧ Ob w q (flC .nilFunc 0 0 0)
theorem OvF.new {w W : World} {v : Value} (h : OvF w v) (hb : Below w.heap.size w W) : OvF W v := by
  rcases h with h | ⟨q, h, ho⟩
  · exact .inl h
  · exact .inr ⟨q, h, ho.new hb⟩
theorem OvF.keep {w W : World} {v : Value} {U : Nat → Prop} (h : OvF w v) (hk : Keeps U w W) (hU : ∀ q, v = .pointer (some ⟨q, 0, none⟩) → ¬ U q) : OvF W v := by
  rcases h with h | ⟨q, h, ho⟩
  · exact .inl h
  · exact .inr ⟨q, h, ho.keep hk (hU q h)⟩
theorem OvF.lt {w : World} {v : Value} (h : OvF w v) : ∀ q, v = .pointer (some ⟨q, 0, none⟩) → q < w.heap.size := by
  rcases h with rfl | ⟨q, rfl, ho⟩
  · intro q e; simp at e
  · intro q' e
    injection e with e; injection e with e; injection e with e
    subst e
    exact ho.lt
theorem ovf_over {w : World} {v : Value} (h : OvF w v) : Calls Tryz.prog 18 #[v] w fun e w' => e = .returned (.bool true) ∧ w = w' := by
  rcases h with rfl | ⟨q, rfl, ho⟩
  · exact fl_over_nil w
  · exact fl_over ho
theorem ovf_step {w : World} {v : Value} (h : OvF w v) (x : Value) : Calls Tryz.prog 14 #[v, x] w fun e w' => e = .returned (.bool true) ∧ w = w' := by
  rcases h with rfl | ⟨q, rfl, ho⟩
  · exact fl_st_nil w x
  · exact fl_st_over ho x
theorem ovf_got {w : World} {v : Value} (h : OvF w v) : Calls Tryz.prog 17 #[v] w fun e w' => e = .returned (.tuple #[.agg #[.int .u8 0, .int .u64 0, .string ⟨#[]⟩, .string ⟨#[]⟩, .int .u32 0, .int .u64 0, .int .i64 0, .int .i64 0], .int .u64 0, .int .i64 0]) ∧ Below w.heap.size w w' := by
  rcases h with rfl | ⟨q, rfl, ho⟩
  · exact fl_got_nil w
  · exact fl_got ho
/-- A list of Flushes that are over. -/
def LsF (w : World) (g : Nat) (vs : List Value) : Prop := ∀ i v, vs[i]? = some v → w.cell? ⟨g, i, none⟩ = some v ∧ OvF w v
theorem LsF.new {w W : World} {g : Nat} {vs : List Value} (h : LsF w g vs) (hb : Below w.heap.size w W) : LsF W g vs := fun i v hi => by
  obtain ⟨h1, h2⟩ := h i v hi
  exact ⟨(hb.cell (p := ⟨g, i, none⟩) (World.block_lt_of_cell? _ _ h1)).trans h1, h2.new hb⟩
theorem info_tp : (Tryz.prog.info? 36).map (fun i => (i.zero, i.size, i.bytes)) = some (some (.pointer none), 1, 8) := by kernel_rfl
theorem own4 (w : World) (e : TypeId) (a b c d : Value) : (w.alloc (.cells #[a, b, c, d] e)).ownsRow w.heap.size e 1 (.slice (some ⟨w.heap.size, 0, none⟩) 4 4) 4 [a, b, c, d] :=
  ⟨rfl, .inr ⟨w.heap.size, 4, #[a, b, c, d], rfl, Nat.le_refl _, heap_alloc_new w _, Nat.le_refl _, by decide, rfl, by simp⟩⟩
/-- What stands as the loop begins. -/
structure RvS (w : World) (A R : Ad) (S T : Nat → Prop) (P g : Nat) (vs : List Value) : Prop where
  p0 : w.cell? ⟨P, 0, none⟩ = some (.pointer (some ⟨A.p, 0, none⟩))
  p1 : w.cell? ⟨P, 1, none⟩ = some (.pointer (some ⟨R.p, 0, none⟩))
  pw : Pw w A R V10 S T
  ls : LsF w g vs
theorem RvS.new {w W : World} {A R : Ad} {S T : Nat → Prop} {P g : Nat} {vs : List Value} (h : RvS w A R S T P g vs) (hb : Below w.heap.size w W) : RvS W A R S T P g vs :=
  ⟨(hb.cell (p := ⟨P, 0, none⟩) (World.block_lt_of_cell? _ _ h.p0)).trans h.p0, (hb.cell (p := ⟨P, 1, none⟩) (World.block_lt_of_cell? _ _ h.p1)).trans h.p1, h.pw.new hb, h.ls.new hb⟩
set_option maxHeartbeats 4000000 in
set_option maxRecDepth 100000 in
theorem walk_FlushesVoid (a0 : Int) (a1 : Int) (w : World) (w0 : (Lit.int .i64 a0).wf = true) (w1 : (Lit.int .i64 a1).wf = true) :
    Calls Tryz.prog 4 #[.int .i64 a0, .int .i64 a1] w fun e w' => e = .returned (.bool true) ∧ Below w.heap.size w w' := by
  obtain ⟨b1, b2⟩ := bounds_i64 w0
  clear w0 w1
  have N0 := Lib.hid (fun W => newFlush_no (-1) a1 (by decide) W)
  have N1 := Lib.hid (fun W => newFlush_no 64 a1 (by decide) W)
  have N5 := Lib.hid (fun W => newFlush 5 a1 (by decide) W)
  go_enter Tryz.func4, Tryz.ntmps4
  go_wp2_with fail
  refine (begin0 _).mono ?_
  rintro e w1 ⟨A, R, S, T, rfl, hP, hST, hb1⟩
  have HP := Lib.hid hP
  have HB1 := Lib.hid hb1
  clear hP hST hb1
  go_wp2_with fail
  obtain ⟨P, hPq⟩ : ∃ P, P = w1.heap.size := ⟨_, rfl⟩
  generalize hW2 : World.alloc (World.alloc w1 _) _ = W2
  rw [← hPq]
  have k12 : Below w1.heap.size w1 W2 := by rw [← hW2]; exact bs_alloc (bs_alloc (Below.refl _ _))
  have p0 : W2.cell? ⟨P, 0, none⟩ = some (.pointer (some ⟨A.p, 0, none⟩)) := by rw [← hW2, hPq]; simp [World.cell?_alloc_some]
  have p1 : W2.cell? ⟨P, 1, none⟩ = some (.pointer (some ⟨R.p, 0, none⟩)) := by rw [← hW2, hPq]; simp [World.cell?_alloc_some]
  have ht : Ob W2 (P + 1) (flC .nilFunc 0 0 0) := by
    rw [← hW2, hPq]
    exact fl_at (by simp) rfl
  have RV2 := Lib.hid (show RvS W2 A R S T P 0 [] from ⟨p0, p1, HP.out.new k12, fun i v h => by simp at h⟩)
  have HT2 := Lib.hid (show OvF W2 (.pointer (some ⟨P + 1, 0, none⟩)) from .inr ⟨_, rfl, ht⟩)
  have HB2 := Lib.hid (below_then HB1.out k12)
  clear hW2 hPq k12 p0 p1 ht HP HB1
  refine (N0.out _).mono ?_
  rintro e w3 ⟨Q2, rfl, o3, l3, k3⟩
  have RV3 := Lib.hid (RV2.out.new k3)
  have HT3 := Lib.hid (HT2.out.new k3)
  have HB3 := Lib.hid (below_then HB2.out k3)
  have HO3 := Lib.hid (show OvF w3 (.pointer (some ⟨Q2, 0, none⟩)) from .inr ⟨_, rfl, o3⟩)
  clear o3 l3 k3 RV2 HT2 HB2
  go_wp2_with fail
  refine (N1.out _).mono ?_
  rintro e w4 ⟨Q3, rfl, o4, l4, k4⟩
  have RV4 := Lib.hid (RV3.out.new k4)
  have HT4 := Lib.hid (HT3.out.new k4)
  have HB4 := Lib.hid (below_then HB3.out k4)
  have HO3' := Lib.hid (HO3.out.new k4)
  have HO4 := Lib.hid (show OvF w4 (.pointer (some ⟨Q3, 0, none⟩)) from .inr ⟨_, rfl, o4⟩)
  clear o4 l4 k4 RV3 HT3 HB3 HO3
  obtain ⟨G, hG⟩ : ∃ G, G = w4.heap.size := ⟨_, rfl⟩
  have HG := Lib.hid hG
  clear hG
  have HLS : Hid (∀ T, LsF (w4.alloc (.cells #[.pointer (some ⟨P + 1, 0, none⟩), .pointer none, .pointer (some ⟨Q2, 0, none⟩), .pointer (some ⟨Q3, 0, none⟩)] T)) G [.pointer (some ⟨P + 1, 0, none⟩), .pointer none, .pointer (some ⟨Q2, 0, none⟩), .pointer (some ⟨Q3, 0, none⟩)]) := Lib.hid (fun T => by
    have k : Below w4.heap.size w4 (w4.alloc (.cells #[.pointer (some ⟨P + 1, 0, none⟩), .pointer none, .pointer (some ⟨Q2, 0, none⟩), .pointer (some ⟨Q3, 0, none⟩)] T)) := bs_alloc (Below.refl _ _)
    intro i v hi
    match i, hi with
    | 0, hi => simp at hi; subst hi; exact ⟨new_at HG.out rfl, HT4.out.new k⟩
    | 1, hi => simp at hi; subst hi; exact ⟨new_at HG.out rfl, .inl rfl⟩
    | 2, hi => simp at hi; subst hi; exact ⟨new_at HG.out rfl, HO3'.out.new k⟩
    | 3, hi => simp at hi; subst hi; exact ⟨new_at HG.out rfl, HO4.out.new k⟩
    | i + 4, hi => simp at hi)
  by_cases h0 : decide (0 ≤ a0 ∧ a0 < 64) = false
  · have h2 : a0 < 0 ∨ (¬ a0 < 0 ∧ 63 < a0) := by
      have := of_decide_eq_false h0
      omega
    have h3 : decide (a0 < 0) = true ∨ (decide (a0 < 0) = false ∧ decide (63 < a0) = true) := h2.imp (fun h => decide_eq_true h) (fun h => ⟨decide_eq_false h.1, decide_eq_true h.2⟩)
    clear h2
    rcases h3 with hd | ⟨hd, hd2⟩
    all_goals
      go_wp2_with fail
      generalize hW5 : World.alloc w4 _ = W5
      rw [show w4.heap.size = G from HG.out.symm]
      have k45 : Below w4.heap.size w4 W5 := by rw [← hW5]; exact bs_alloc (Below.refl _ _)
      have hls5 : LsF W5 G [.pointer (some ⟨P + 1, 0, none⟩), .pointer none, .pointer (some ⟨Q2, 0, none⟩), .pointer (some ⟨Q3, 0, none⟩)] := by rw [← hW5]; exact HLS.out _
      have hown5 : W5.ownsRow G 36 1 (.slice (some ⟨G, 0, none⟩) 4 4) 4 [.pointer (some ⟨P + 1, 0, none⟩), .pointer none, .pointer (some ⟨Q2, 0, none⟩), .pointer (some ⟨Q3, 0, none⟩)] := by rw [← hW5, HG.out]; exact own4 _ _ _ _ _ _
      clear hW5
      refine (newFlush_no a0 a1 h0 _).mono ?_
      rintro e w6 ⟨Q6, rfl, o6, l6, k6⟩
      have ov6 : OvF w6 (.pointer (some ⟨Q6, 0, none⟩)) := .inr ⟨_, rfl, o6⟩
      have RV6 := Lib.hid ((RV4.out.new k45).new k6)
      have hown6 := own_below hown5 k6
      have HB6 := Lib.hid (below_then (below_then HB4.out k45) k6)
      have HLS6 := Lib.hid (hls5.new k6)
      have HO6 := Lib.hid ov6
      have hG6 : G ≤ w6.heap.size := by have := HG.out; have := k45.size; have := k6.size; omega
      have hQ6 : G < W5.heap.size := World.block_lt_of_cell? _ _ (hls5 0 _ rfl).1
      have hPG : P < G := by rw [HG.out]; exact World.block_lt_of_cell? _ _ RV4.out.p0
      have hSG : (∀ j, S j → ¬ j = G) ∧ ∀ j, T j → ¬ j = G := by
        have hw := RV4.out.pw
        refine ⟨fun j s e => by have := hw.a.lt j s; have := HG.out; omega, fun j s e => ?_⟩
        obtain ⟨L, ⟨TC, TI, TN, r⟩, -⟩ := hw.r
        have := r.lt j s
        have := HG.out
        omega
      have hq0 : P + 1 < G := by rw [HG.out]; exact HT4.out.lt _ rfl
      have hq2 : Q2 < G := by rw [HG.out]; exact HO3'.out.lt _ rfl
      have hq3 : Q3 < G := by rw [HG.out]; exact HO4.out.lt _ rfl
      have HQ := Lib.hid (show P < G ∧ P + 1 < G ∧ Q2 < G ∧ Q3 < G ∧ G < Q6 from ⟨hPG, hq0, hq2, hq3, Nat.lt_of_lt_of_le hQ6 l6⟩)
      have HSG := Lib.hid hSG
      have HGW := Lib.hid (show w.heap.size ≤ G by rw [HG.out]; exact HB4.out.size)
      clear ov6 o6 l6 k45 k6 hls5 hown5 RV4 HT4 HB4 HO3' HO4 HLS hQ6 hPG hSG hq0 hq2 hq3
      obtain ⟨i0, hi, hz0, hz1, hz2⟩ := info_parts info_tp
      go_wp2_with (at_builtin; refine wpList_append_own _ rfl _ _ 65 rfl G 36 i0 (.pointer none) 1 8 Tryz.underlying65 hi hz0 hz1 hz2 rfl (by decide) _ _ _ rfl (hown6.alloc _) ⟨w6.heap.size, 0, none⟩ 1 1 [.pointer (some ⟨Q6, 0, none⟩)] rfl rfl ?p1 ?p2 ?p3 ?p4 ?p5 ?_)
      case p1 =>
        intro j u hj
        match j, hj with
        | 0, hj => simp at hj; subst hj; simp [Addr.add]
        | j + 1, hj => simp at hj
      case p2 => intro u hu; simp at hu; subst hu; rfl
      case p3 => unfold maxLen; decide
      case p4 => decide
      case p5 => simp; omega
      intro vz wz hownz hgrow _
      have kz : Keeps (fun j => j = G) w6 wz := ((Keeps.refl (fun j => j = G) w6).alloc _).grown hgrow (fun k hk => by simp [Value.ownBlock] at hk; exact .inl hk.symm)
      obtain ⟨q1, q2, q3, q4, q5⟩ := HQ.out
      obtain ⟨_, ⟨_, h0'⟩ | ⟨g, cap, rfl, hgB, hgl, hgn, hgc, hgx⟩⟩ := Lst.of_own hownz
      · omega
      obtain ⟨vs, hvs⟩ : ∃ vs : List Value, vs = [.pointer (some ⟨P + 1, 0, none⟩), .pointer none, .pointer (some ⟨Q2, 0, none⟩), .pointer (some ⟨Q3, 0, none⟩), .pointer (some ⟨Q6, 0, none⟩)] := ⟨_, rfl⟩
      have HVS := Lib.hid (show vs.length = 5 by rw [hvs]; rfl)
      have hlsz : LsF wz g vs := by
        rw [hvs]
        intro i v hi
        refine ⟨(hgx i v hi).1, ?_⟩
        match i, hi with
        | 0, hi => exact (HLS6.out 0 v hi).2.keep kz (fun q e => by simp at hi; subst hi; injection e with e; injection e with e; injection e with e; omega)
        | 1, hi => exact (HLS6.out 1 v hi).2.keep kz (fun q e => by simp at hi; subst hi; simp at e)
        | 2, hi => exact (HLS6.out 2 v hi).2.keep kz (fun q e => by simp at hi; subst hi; injection e with e; injection e with e; injection e with e; omega)
        | 3, hi => exact (HLS6.out 3 v hi).2.keep kz (fun q e => by simp at hi; subst hi; injection e with e; injection e with e; injection e with e; omega)
        | 4, hi => simp at hi; subst hi; exact HO6.out.keep kz (fun q e => by injection e with e; injection e with e; injection e with e; omega)
        | i + 5, hi => simp at hi
      have hgP : ¬ P = G := by omega
      have RV := Lib.hid (show RvS wz A R S T P g vs from ⟨kz.cell (p := ⟨P, 0, none⟩) hgP RV6.out.p0, kz.cell (p := ⟨P, 1, none⟩) hgP RV6.out.p1, RV6.out.pw.keep kz HSG.out.1 HSG.out.2, hlsz⟩)
      have HB8 := Lib.hid (HB6.out.trans (kz.to_below (B := w.heap.size) (fun k _ e => by have := HB6.out.size; have := HGW.out; omega) HB6.out.size))
      clear hownz hgrow kz hvs hlsz hgx hgB hgl hgc hown6 hi hz0 hz1 hz2 RV6 HB6 HLS6 HO6 q1 q2 q3 q4 q5 hgP
      generalize hW8 : wz = W8 at *
      clear hW8
      go_wp2_with fail
      go_loopw [9] (fun i X => ∃ k : Nat, k ≤ 5 ∧ i = .int .i64 k ∧ Below W8.heap.size W8 X) (fun i _ => 5 - (intOf i).toNat)
      case atStart => exact ⟨0, by omega, rfl, Below.refl _ _⟩
      case round =>
        obtain ⟨k, hk, rfl, hb⟩ := hrel
        have HB := Lib.hid hb
        by_cases hlt : k < 5
        · obtain ⟨v, hv⟩ : ∃ v, vs[k]? = some v := ⟨_, List.getElem?_eq_getElem (by rw [HVS.out]; exact hlt)⟩
          have KEEP : Hid (∀ X, Below wr.heap.size wr X → X.cell? ⟨g, k, none⟩ = some v ∧ X.cell? ⟨P, 0, none⟩ = some (.pointer (some ⟨A.p, 0, none⟩)) ∧ OvF X v) := Lib.hid (fun X hx => by
            have hr := (RV.out.new hb).new hx
            obtain ⟨h1, h2⟩ := hr.ls k v hv
            exact ⟨h1, hr.p0, h2⟩)
          obtain ⟨r0, -, hov⟩ := KEEP.out _ (Below.refl _ _)
          have CG := Lib.hid (ovf_got hov)
          have hk2 : k < cap := by omega
          have j0 : (0 : Int) ≤ (k : Int) := by omega
          have j1 : (k : Int) < 5 := by omega
          have HLT := Lib.hid hlt
          clear hv hb hov hk hlt
          go_upto_region 11 with (go_at_call 17; ((with_reducible refine CG.out.mono ?_); rintro e w2 ⟨rfl, hb2⟩; clear r0; have B2 := Lib.hid hb2; clear hb2))
          generalize hW3 : World.alloc w2 _ = W3
          obtain ⟨M, hM⟩ : ∃ M, M = w2.heap.size := ⟨_, rfl⟩
          rw [← hM]
          have b3 : Below w2.heap.size w2 W3 := by rw [← hW3]; exact bs_alloc (Below.refl _ _)
          have m0 : W3.cell? ⟨M, 0, none⟩ = some (.int .u8 0) := by rw [← hW3]; exact fl_new hM rfl
          have m1 : W3.cell? ⟨M, 1, none⟩ = some (.int .u64 0) := by rw [← hW3]; exact fl_new hM rfl
          have m2 : W3.cell? ⟨M, 2, none⟩ = some (.string ⟨#[]⟩) := by rw [← hW3]; exact fl_new hM rfl
          have m3 : W3.cell? ⟨M, 3, none⟩ = some (.string ⟨#[]⟩) := by rw [← hW3]; exact fl_new hM rfl
          have m4 : W3.cell? ⟨M, 4, none⟩ = some (.int .u32 0) := by rw [← hW3]; exact fl_new hM rfl
          have m5 : W3.cell? ⟨M, 5, none⟩ = some (.int .u64 0) := by rw [← hW3]; exact fl_new hM rfl
          have m6 : W3.cell? ⟨M, 6, none⟩ = some (.int .i64 0) := by rw [← hW3]; exact fl_new hM rfl
          have m7 : W3.cell? ⟨M, 7, none⟩ = some (.int .i64 0) := by rw [← hW3]; exact fl_new hM rfl
          have hb3 := below_then B2.out b3
          have B3 := Lib.hid hb3
          obtain ⟨s0, s1, -⟩ := KEEP.out _ hb3
          have KO := Lib.hid (fun n => (KEEP.out (W3.drewN n) (below_then hb3 (belowNv n))).2.2)
          have CO := Lib.hid (fun n => ovf_over (KO.out n))
          have CT := Lib.hid (fun n x => ovf_step (KO.out n) x)
          clear hW3 hM b3 hb3 KO CG B2
          go_quiet (first
            | (go_at_call 18; exact quiet_left (CO.out _))
            | (go_at_call 14; exact quiet_left (CT.out _ _)))
          clear s0 s1 m0 m1 m2 m3 m4 m5 m6 m7
          go_wp2_with fail
          go_roundw
          case rel => exact ⟨k + 1, by have := HLT.out; omega, by go_num, below_then HB.out (below_then B3.out (belowNv _))⟩
          case measure => have := HLT.out; simp [intOf]; omega
        · obtain rfl : k = 5 := by omega
          go_wp2_with fail
          refine (N5.out _).mono ?_
          rintro e w9 ⟨q, p, b6, b5, b3, rfl, hq, -, -, -, k9⟩
          have HB9 := Lib.hid (below_then HB.out k9)
          have HQ9 := Lib.hid (show ∃ C, Ob w9 q (flC (.func (.func 35) #[] C) 0 0 0) from ⟨_, hq⟩)
          clear hb k9 hq
          have KEEP2 : Hid (∀ X, Below w9.heap.size w9 X → (X.cell? ⟨P, 0, none⟩ = some (.pointer (some ⟨A.p, 0, none⟩)) ∧ X.cell? ⟨P, 1, none⟩ = some (.pointer (some ⟨R.p, 0, none⟩))) ∧ Pw X A R V10 S T) := Lib.hid (fun X hx => by
            have hr := (RV.out.new HB9.out).new hx
            exact ⟨⟨hr.p0, hr.p1⟩, hr.pw⟩)
          obtain ⟨C, hq⟩ := HQ9.out
          have D1 := Lib.hid (fl_st_no hq)
          have D2 := Lib.hid (fl_overn hq)
          obtain ⟨⟨f0, f1⟩, hpw⟩ := KEEP2.out w9 (Below.refl _ _)
          have CA := Lib.hid (pw_all hpw rfl (by decide) (by decide))
          clear hq hpw
          go_wp2_with (first
            | (go_at_call 14; ((with_reducible refine D1.out.mono ?_); rintro e w11 ⟨rfl, rfl⟩))
            | (go_at_call 18; ((with_reducible refine D2.out.mono ?_); rintro e w11 ⟨rfl, rfl⟩))
            | (go_at_call 16; ((with_reducible refine CA.out.mono ?_); rintro e w11 ⟨rfl, hk11⟩; have HK11 := Lib.hid (below_then HB9.out hk11); clear hk11))
            | (go_at_call 6; refine (lives27 _).mono ?_; rintro e w12 ⟨rfl, hk12⟩; have HK12 := Lib.hid (below_then HK11.out hk12); clear hk12))
          go_ret
          exact ⟨rfl, below_then HB8.out HK12.out⟩
  · have hd : decide (a0 < 0) = false := decide_eq_false (fun h => h0 (decide_eq_false (by omega)))
    have hd2 : decide (63 < a0) = false := decide_eq_false (fun h => h0 (decide_eq_false (by omega)))
    go_wp2_with fail
    generalize hW8 : World.alloc w4 _ = W8
    rw [show w4.heap.size = G from HG.out.symm]
    obtain ⟨vs, hvs⟩ : ∃ vs : List Value, vs = [.pointer (some ⟨P + 1, 0, none⟩), .pointer none, .pointer (some ⟨Q2, 0, none⟩), .pointer (some ⟨Q3, 0, none⟩)] := ⟨_, rfl⟩
    have k48 : Below w4.heap.size w4 W8 := by rw [← hW8]; exact bs_alloc (Below.refl _ _)
    have HVS := Lib.hid (show vs.length = 4 by rw [hvs]; rfl)
    have RV := Lib.hid (show RvS W8 A R S T P G vs from ⟨(RV4.out.new k48).p0, (RV4.out.new k48).p1, (RV4.out.new k48).pw, by rw [hvs, ← hW8]; exact HLS.out _⟩)
    have HB8 := Lib.hid (below_then HB4.out k48)
    clear hW8 hvs k48 RV4 HT4 HB4 HO3' HO4 HLS h0 hd hd2
    generalize G = g at *
    go_wp2_with fail
    go_loopw [9] (fun i X => ∃ k : Nat, k ≤ 4 ∧ i = .int .i64 k ∧ Below W8.heap.size W8 X) (fun i _ => 4 - (intOf i).toNat)
    case atStart => exact ⟨0, by omega, rfl, Below.refl _ _⟩
    case round =>
      obtain ⟨k, hk, rfl, hb⟩ := hrel
      have HB := Lib.hid hb
      by_cases hlt : k < 4
      · obtain ⟨v, hv⟩ : ∃ v, vs[k]? = some v := ⟨_, List.getElem?_eq_getElem (by rw [HVS.out]; exact hlt)⟩
        have KEEP : Hid (∀ X, Below wr.heap.size wr X → X.cell? ⟨g, k, none⟩ = some v ∧ X.cell? ⟨P, 0, none⟩ = some (.pointer (some ⟨A.p, 0, none⟩)) ∧ OvF X v) := Lib.hid (fun X hx => by
          have hr := (RV.out.new hb).new hx
          obtain ⟨h1, h2⟩ := hr.ls k v hv
          exact ⟨h1, hr.p0, h2⟩)
        obtain ⟨r0, -, hov⟩ := KEEP.out _ (Below.refl _ _)
        have CG := Lib.hid (ovf_got hov)
        have hk2 : k < 4 := by omega
        have j0 : (0 : Int) ≤ (k : Int) := by omega
        have j1 : (k : Int) < 4 := by omega
        have HLT := Lib.hid hlt
        clear hv hb hov hk hlt
        go_upto_region 11 with (go_at_call 17; ((with_reducible refine CG.out.mono ?_); rintro e w2 ⟨rfl, hb2⟩; clear r0; have B2 := Lib.hid hb2; clear hb2))
        generalize hW3 : World.alloc w2 _ = W3
        obtain ⟨M, hM⟩ : ∃ M, M = w2.heap.size := ⟨_, rfl⟩
        rw [← hM]
        have b3 : Below w2.heap.size w2 W3 := by rw [← hW3]; exact bs_alloc (Below.refl _ _)
        have m0 : W3.cell? ⟨M, 0, none⟩ = some (.int .u8 0) := by rw [← hW3]; exact fl_new hM rfl
        have m1 : W3.cell? ⟨M, 1, none⟩ = some (.int .u64 0) := by rw [← hW3]; exact fl_new hM rfl
        have m2 : W3.cell? ⟨M, 2, none⟩ = some (.string ⟨#[]⟩) := by rw [← hW3]; exact fl_new hM rfl
        have m3 : W3.cell? ⟨M, 3, none⟩ = some (.string ⟨#[]⟩) := by rw [← hW3]; exact fl_new hM rfl
        have m4 : W3.cell? ⟨M, 4, none⟩ = some (.int .u32 0) := by rw [← hW3]; exact fl_new hM rfl
        have m5 : W3.cell? ⟨M, 5, none⟩ = some (.int .u64 0) := by rw [← hW3]; exact fl_new hM rfl
        have m6 : W3.cell? ⟨M, 6, none⟩ = some (.int .i64 0) := by rw [← hW3]; exact fl_new hM rfl
        have m7 : W3.cell? ⟨M, 7, none⟩ = some (.int .i64 0) := by rw [← hW3]; exact fl_new hM rfl
        have hb3 := below_then B2.out b3
        have B3 := Lib.hid hb3
        obtain ⟨s0, s1, -⟩ := KEEP.out _ hb3
        have KO := Lib.hid (fun n => (KEEP.out (W3.drewN n) (below_then hb3 (belowNv n))).2.2)
        have CO := Lib.hid (fun n => ovf_over (KO.out n))
        have CT := Lib.hid (fun n x => ovf_step (KO.out n) x)
        clear hW3 hM b3 hb3 KO CG B2
        go_quiet (first
          | (go_at_call 18; exact quiet_left (CO.out _))
          | (go_at_call 14; exact quiet_left (CT.out _ _)))
        clear s0 s1 m0 m1 m2 m3 m4 m5 m6 m7
        go_wp2_with fail
        go_roundw
        case rel => exact ⟨k + 1, by have := HLT.out; omega, by go_num, below_then HB.out (below_then B3.out (belowNv _))⟩
        case measure => have := HLT.out; simp [intOf]; omega
      · obtain rfl : k = 4 := by omega
        go_wp2_with fail
        refine (N5.out _).mono ?_
        rintro e w9 ⟨q, p, b6, b5, b3, rfl, hq, -, -, -, k9⟩
        have HB9 := Lib.hid (below_then HB.out k9)
        have HQ9 := Lib.hid (show ∃ C, Ob w9 q (flC (.func (.func 35) #[] C) 0 0 0) from ⟨_, hq⟩)
        clear hb k9 hq
        have KEEP2 : Hid (∀ X, Below w9.heap.size w9 X → (X.cell? ⟨P, 0, none⟩ = some (.pointer (some ⟨A.p, 0, none⟩)) ∧ X.cell? ⟨P, 1, none⟩ = some (.pointer (some ⟨R.p, 0, none⟩))) ∧ Pw X A R V10 S T) := Lib.hid (fun X hx => by
          have hr := (RV.out.new HB9.out).new hx
          exact ⟨⟨hr.p0, hr.p1⟩, hr.pw⟩)
        obtain ⟨C, hq⟩ := HQ9.out
        have D1 := Lib.hid (fl_st_no hq)
        have D2 := Lib.hid (fl_overn hq)
        obtain ⟨⟨f0, f1⟩, hpw⟩ := KEEP2.out w9 (Below.refl _ _)
        have CA := Lib.hid (pw_all hpw rfl (by decide) (by decide))
        clear hq hpw
        go_wp2_with (first
          | (go_at_call 14; ((with_reducible refine D1.out.mono ?_); rintro e w11 ⟨rfl, rfl⟩))
          | (go_at_call 18; ((with_reducible refine D2.out.mono ?_); rintro e w11 ⟨rfl, rfl⟩))
          | (go_at_call 16; ((with_reducible refine CA.out.mono ?_); rintro e w11 ⟨rfl, hk11⟩; have HK11 := Lib.hid (below_then HB9.out hk11); clear hk11))
          | (go_at_call 6; refine (lives27 _).mono ?_; rintro e w12 ⟨rfl, hk12⟩; have HK12 := Lib.hid (below_then HK11.out hk12); clear hk12))
        go_ret
        exact ⟨rfl, below_then HB8.out HK12.out⟩
end Go.Proofs.YtaipbagnkjmddaaGreat
