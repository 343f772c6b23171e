/- The law TicketsVoid. -/
import Derived.Test.YtjkpgihhamogmaaGreatTi4
import Derived.Test.YtjkpgihhamogmaaGreatOpen
namespace Go.Proofs.YtjkpgihhamogmaaGreat
open Go.RowKit Go.Maps
set_option linter.unusedVariables false
theorem ob_at {W : World} {n : Nat} {C : Array Value} {T : TypeId} {L : List Value} (hn : n = W.heap.size) (hL : L = C.toList) : Ob (W.alloc (.cells C T)) n L := by
  subst hn
  exact ob_new hL
/-- A Take that is over, or is not there. -/
def OvT (w : World) (v : Value) : Prop := v = .pointer none ∨ ∃ q t, v = .pointer (some ⟨q, 0, none⟩) ∧ Ob w q (tkC t 0 false .nilFunc)
theorem OvT.keep {w W : World} {v : Value} {T : Nat → Prop} (h : OvT w v) (hk : Keeps T w W) (hT : ∀ q, v = .pointer (some ⟨q, 0, none⟩) → ¬ T q) : OvT W v := by
  rcases h with h | ⟨q, t, rfl, h⟩
  · exact .inl h
  · exact .inr ⟨q, t, rfl, h.keep hk (hT q rfl)⟩
theorem OvT.new {w W : World} {v : Value} (h : OvT w v) (hb : Below w.heap.size w W) : OvT W v := h.keep (T := fun _ => False) (Keeps.of_new hb) (fun _ _ s => s)
theorem OvT.lt {w : World} {v : Value} (h : OvT w v) : ∀ q, v = .pointer (some ⟨q, 0, none⟩) → q < w.heap.size := fun q e => by
  rcases h with h | ⟨q', t, h, ht⟩
  · rw [h] at e; simp at e
  · rw [h] at e
    injection e with e
    injection e with e
    injection e with e
    rw [← e]
    exact ht.lt
theorem ov_over {w : World} {v : Value} (h : OvT w v) : Calls Tryz.prog 10 #[v] w fun e w' => e = .returned (.bool true) ∧ w = w' := by
  rcases h with rfl | ⟨q, t, rfl, h⟩
  · exact tk_over_nil w
  · exact tk_over h
theorem ov_got {w : World} {v : Value} (h : OvT w v) : Calls Tryz.prog 9 #[v] w fun e w' => e = .returned (.tuple #[.int .u64 0, .bool false]) ∧ w = w' := by
  rcases h with rfl | ⟨q, t, rfl, h⟩
  · exact tk_got_nil w
  · exact tk_got_no h
theorem ov_step {w : World} {v : Value} (h : OvT w v) (x : Value) : Calls Tryz.prog 11 #[v, x] w fun e w' => e = .returned (.bool true) ∧ w = w' := by
  rcases h with rfl | ⟨q, t, rfl, h⟩
  · exact tk_step_nil x w
  · exact tk_step0 h x
theorem new_no (r : Int) (hr : decide (0 ≤ r ∧ r < 64) = false) (w : World) : Calls Tryz.prog 7 #[.int .i64 r] w fun e w' => e = .returned (.pointer (some ⟨w.heap.size, 0, none⟩)) ∧ OvT w' (.pointer (some ⟨w.heap.size, 0, none⟩)) ∧ Below w.heap.size w w' := by
  refine (newTake_no r hr w).mono ?_
  rintro e w' ⟨rfl, ho, hb⟩
  exact ⟨rfl, .inr ⟨_, r, rfl, ho⟩, hb⟩
/-- A list of Takes that are over. -/
def LsT (w : World) (g : Nat) (vs : List Value) : Prop := ∀ i v, vs[i]? = some v → w.cell? ⟨g, i, none⟩ = some v ∧ OvT w v
theorem LsT.new {w W : World} {g : Nat} {vs : List Value} (h : LsT w g vs) (hb : Below w.heap.size w W) : LsT W g vs := fun i v hi => by
  obtain ⟨h1, h2⟩ := h i v hi
  exact ⟨(hb.cell (p := ⟨g, i, none⟩) (World.block_lt_of_cell? _ _ h1)).trans h1, h2.new hb⟩
theorem info_tp : (Tryz.prog.info? 38).map (fun i => (i.zero, i.size, i.bytes)) = some (some (.pointer none), 1, 8) := by kernel_rfl
theorem own4 (w : World) (e : TypeId) (a b c d : Value) : (w.alloc (.cells #[a, b, c, d] e)).ownsRow w.heap.size e 1 (.slice (some ⟨w.heap.size, 0, none⟩) 4 4) 4 [a, b, c, d] :=
  ⟨rfl, .inr ⟨w.heap.size, 4, #[a, b, c, d], rfl, Nat.le_refl _, heap_alloc_new w _, Nat.le_refl _, by decide, rfl, by simp⟩⟩
/-- What stands as the loop begins. -/
structure RvS (w : World) (A R : Ad) (S T : Nat → Prop) (P g : Nat) (vs : List Value) : Prop where
  p0 : w.cell? ⟨P, 0, none⟩ = some (.pointer (some ⟨A.p, 0, none⟩))
  p1 : w.cell? ⟨P, 1, none⟩ = some (.pointer (some ⟨R.p, 0, none⟩))
  pw : Pw w A R V10 S T
  ls : LsT w g vs
  gv : Ob w (P + 1 + 1) [.nilFunc]
theorem RvS.new {w W : World} {A R : Ad} {S T : Nat → Prop} {P g : Nat} {vs : List Value} (h : RvS w A R S T P g vs) (hb : Below w.heap.size w W) : RvS W A R S T P g vs :=
  ⟨(hb.cell (p := ⟨P, 0, none⟩) (World.block_lt_of_cell? _ _ h.p0)).trans h.p0, (hb.cell (p := ⟨P, 1, none⟩) (World.block_lt_of_cell? _ _ h.p1)).trans h.p1, h.pw.new hb, h.ls.new hb, h.gv.new hb⟩
set_option maxHeartbeats 4000000 in
set_option maxRecDepth 100000 in
theorem walk_TicketsVoid (a0 : Int) (w : World) (w0 : (Lit.int .i64 a0).wf = true) :
    Calls Tryz.prog 3 #[.int .i64 a0] w fun e w' => e = .returned (.bool true) ∧ Below w.heap.size w w' := by
  obtain ⟨b1, b2⟩ := bounds_i64 w0
  clear w0
  have N0 := Lib.hid (fun W => new_no (-1) (by decide) W)
  have N1 := Lib.hid (fun W => new_no 64 (by decide) W)
  go_enter Tryz.func3, Tryz.ntmps3
  go_wp2_with fail
  refine (begin0 _).mono ?_
  rintro e w1 ⟨A, R, S, T, rfl, hP, hST, hb1⟩
  have HP := Lib.hid hP
  have HB1 := Lib.hid hb1
  clear hP hST hb1
  go_wp2_with fail
  obtain ⟨P, hPq⟩ : ∃ P, P = w1.heap.size := ⟨_, rfl⟩
  generalize hW2 : World.alloc (World.alloc (World.alloc w1 _) _) _ = W2
  rw [← hPq]
  have k12 : Below w1.heap.size w1 W2 := by rw [← hW2]; exact bs_alloc (bs_alloc (bs_alloc (Below.refl _ _)))
  have p0 : W2.cell? ⟨P, 0, none⟩ = some (.pointer (some ⟨A.p, 0, none⟩)) := by rw [← hW2, hPq]; simp [World.cell?_alloc_some]
  have p1 : W2.cell? ⟨P, 1, none⟩ = some (.pointer (some ⟨R.p, 0, none⟩)) := by rw [← hW2, hPq]; simp [World.cell?_alloc_some]
  have ht : Ob W2 (P + 1) (tkC 0 0 false .nilFunc) := by
    rw [← hW2, hPq]
    exact (ob_at (by simp) rfl).new (bs_alloc (Below.refl _ _))
  have hgv : Ob W2 (P + 1 + 1) [.nilFunc] := by
    rw [← hW2, hPq]
    exact ob_at (by simp) rfl
  have RV2 := Lib.hid (show RvS W2 A R S T P 0 [] from ⟨p0, p1, HP.out.new k12, fun i v h => by simp at h, hgv⟩)
  have HT2 := Lib.hid (show OvT W2 (.pointer (some ⟨P + 1, 0, none⟩)) from .inr ⟨_, _, rfl, ht⟩)
  have HB2 := Lib.hid (below_then HB1.out k12)
  clear hW2 hPq k12 p0 p1 ht hgv HP HB1
  refine (N0.out _).mono ?_
  rintro e w3 ⟨rfl, ov3, k3⟩
  have RV3 := Lib.hid (RV2.out.new k3)
  have HT3 := Lib.hid (HT2.out.new k3)
  have HB3 := Lib.hid (below_then HB2.out k3)
  have HO3 := Lib.hid ov3
  clear ov3 k3 RV2 HT2 HB2
  generalize W2.heap.size = Q2 at *
  go_wp2_with fail
  refine (N1.out _).mono ?_
  rintro e w4 ⟨rfl, ov4, k4⟩
  have RV4 := Lib.hid (RV3.out.new k4)
  have HT4 := Lib.hid (HT3.out.new k4)
  have HB4 := Lib.hid (below_then HB3.out k4)
  have HO3' := Lib.hid (HO3.out.new k4)
  have HO4 := Lib.hid ov4
  clear ov4 k4 RV3 HT3 HB3 HO3
  generalize w3.heap.size = Q3 at *
  obtain ⟨G, hG⟩ : ∃ G, G = w4.heap.size := ⟨_, rfl⟩
  have HG := Lib.hid hG
  clear hG
  have HLS : Hid (∀ T, LsT (w4.alloc (.cells #[.pointer (some ⟨P + 1, 0, none⟩), .pointer none, .pointer (some ⟨Q2, 0, none⟩), .pointer (some ⟨Q3, 0, none⟩)] T)) G [.pointer (some ⟨P + 1, 0, none⟩), .pointer none, .pointer (some ⟨Q2, 0, none⟩), .pointer (some ⟨Q3, 0, none⟩)]) := Lib.hid (fun T => by
    have k : Below w4.heap.size w4 (w4.alloc (.cells #[.pointer (some ⟨P + 1, 0, none⟩), .pointer none, .pointer (some ⟨Q2, 0, none⟩), .pointer (some ⟨Q3, 0, none⟩)] T)) := bs_alloc (Below.refl _ _)
    intro i v hi
    match i, hi with
    | 0, hi => simp at hi; subst hi; exact ⟨new_at HG.out rfl, HT4.out.new k⟩
    | 1, hi => simp at hi; subst hi; exact ⟨new_at HG.out rfl, .inl rfl⟩
    | 2, hi => simp at hi; subst hi; exact ⟨new_at HG.out rfl, HO3'.out.new k⟩
    | 3, hi => simp at hi; subst hi; exact ⟨new_at HG.out rfl, HO4.out.new k⟩
    | i + 4, hi => simp at hi)
  by_cases h0 : decide (0 ≤ a0 ∧ a0 < 64) = false
  · have h2 : a0 < 0 ∨ (¬ a0 < 0 ∧ 63 < a0) := by
      have := of_decide_eq_false h0
      omega
    have h3 : decide (a0 < 0) = true ∨ (decide (a0 < 0) = false ∧ decide (63 < a0) = true) := h2.imp (fun h => decide_eq_true h) (fun h => ⟨decide_eq_false h.1, decide_eq_true h.2⟩)
    clear h2
    rcases h3 with hd | ⟨hd, hd2⟩
    all_goals
      go_wp2_with fail
      generalize hW5 : World.alloc w4 _ = W5
      rw [show w4.heap.size = G from HG.out.symm]
      have k45 : Below w4.heap.size w4 W5 := by rw [← hW5]; exact bs_alloc (Below.refl _ _)
      have hls5 : LsT W5 G [.pointer (some ⟨P + 1, 0, none⟩), .pointer none, .pointer (some ⟨Q2, 0, none⟩), .pointer (some ⟨Q3, 0, none⟩)] := by rw [← hW5]; exact HLS.out _
      have hown5 : W5.ownsRow G 38 1 (.slice (some ⟨G, 0, none⟩) 4 4) 4 [.pointer (some ⟨P + 1, 0, none⟩), .pointer none, .pointer (some ⟨Q2, 0, none⟩), .pointer (some ⟨Q3, 0, none⟩)] := by rw [← hW5, HG.out]; exact own4 _ _ _ _ _ _
      clear hW5
      refine (new_no a0 h0 _).mono ?_
      rintro e w6 ⟨rfl, ov6, k6⟩
      have RV6 := Lib.hid ((RV4.out.new k45).new k6)
      have hown6 := own_below hown5 k6
      have HB6 := Lib.hid (below_then (below_then HB4.out k45) k6)
      have HLS6 := Lib.hid (hls5.new k6)
      have HO6 := Lib.hid ov6
      have hG6 : G ≤ w6.heap.size := by have := HG.out; have := k45.size; have := k6.size; omega
      have hQ6 : G < W5.heap.size := World.block_lt_of_cell? _ _ (hls5 0 _ rfl).1
      have HGVP := Lib.hid (show ¬ P + 1 + 1 = G by have := RV4.out.gv.lt; have := HG.out; omega)
      have hPG : P < G := by rw [HG.out]; exact World.block_lt_of_cell? _ _ RV4.out.p0
      have hSG : (∀ j, S j → ¬ j = G) ∧ ∀ j, T j → ¬ j = G := by
        have hw := RV4.out.pw
        refine ⟨fun j s e => by have := hw.a.lt j s; have := HG.out; omega, fun j s e => ?_⟩
        obtain ⟨L, ⟨TC, TI, TN, r⟩, -⟩ := hw.r
        have := r.lt j s
        have := HG.out
        omega
      have hq0 : P + 1 < G := by rw [HG.out]; exact HT4.out.lt _ rfl
      have hq2 : Q2 < G := by rw [HG.out]; exact HO3'.out.lt _ rfl
      have hq3 : Q3 < G := by rw [HG.out]; exact HO4.out.lt _ rfl
      have HQ := Lib.hid (show P < G ∧ P + 1 < G ∧ Q2 < G ∧ Q3 < G ∧ G < W5.heap.size from ⟨hPG, hq0, hq2, hq3, hQ6⟩)
      have HSG := Lib.hid hSG
      have HGW := Lib.hid (show w.heap.size ≤ G by rw [HG.out]; exact HB4.out.size)
      clear ov6 k45 k6 hls5 hown5 RV4 HT4 HB4 HO3' HO4 HLS hQ6 hPG hSG hq0 hq2 hq3
      generalize W5.heap.size = Q6 at *
      obtain ⟨i0, hi, hz0, hz1, hz2⟩ := info_parts info_tp
      go_wp2_with (at_builtin; refine wpList_append_own _ rfl _ _ 43 rfl G 38 i0 (.pointer none) 1 8 Tryz.underlying43 hi hz0 hz1 hz2 rfl (by decide) _ _ _ rfl (hown6.alloc _) ⟨w6.heap.size, 0, none⟩ 1 1 [.pointer (some ⟨Q6, 0, none⟩)] rfl rfl ?p1 ?p2 ?p3 ?p4 ?p5 ?_)
      case p1 =>
        intro j u hj
        match j, hj with
        | 0, hj => simp at hj; subst hj; simp [Addr.add]
        | j + 1, hj => simp at hj
      case p2 => intro u hu; simp at hu; subst hu; rfl
      case p3 => unfold maxLen; decide
      case p4 => decide
      case p5 => simp; omega
      intro vz wz hownz hgrow _
      have kz : Keeps (fun j => j = G) w6 wz := ((Keeps.refl (fun j => j = G) w6).alloc _).grown hgrow (fun k hk => by simp [Value.ownBlock] at hk; exact .inl hk.symm)
      obtain ⟨q1, q2, q3, q4, q5⟩ := HQ.out
      obtain ⟨_, ⟨_, h0'⟩ | ⟨g, cap, rfl, hgB, hgl, hgn, hgc, hgx⟩⟩ := Lst.of_own hownz
      · omega
      obtain ⟨vs, hvs⟩ : ∃ vs : List Value, vs = [.pointer (some ⟨P + 1, 0, none⟩), .pointer none, .pointer (some ⟨Q2, 0, none⟩), .pointer (some ⟨Q3, 0, none⟩), .pointer (some ⟨Q6, 0, none⟩)] := ⟨_, rfl⟩
      have HVS := Lib.hid (show vs.length = 5 by rw [hvs]; rfl)
      have hlsz : LsT wz g vs := by
        rw [hvs]
        intro i v hi
        refine ⟨(hgx i v hi).1, ?_⟩
        match i, hi with
        | 0, hi => exact (HLS6.out 0 v hi).2.keep kz (fun q e => by simp at hi; subst hi; injection e with e; injection e with e; injection e with e; omega)
        | 1, hi => exact (HLS6.out 1 v hi).2.keep kz (fun q e => by simp at hi; subst hi; simp at e)
        | 2, hi => exact (HLS6.out 2 v hi).2.keep kz (fun q e => by simp at hi; subst hi; injection e with e; injection e with e; injection e with e; omega)
        | 3, hi => exact (HLS6.out 3 v hi).2.keep kz (fun q e => by simp at hi; subst hi; injection e with e; injection e with e; injection e with e; omega)
        | 4, hi => simp at hi; subst hi; exact HO6.out.keep kz (fun q e => by injection e with e; injection e with e; injection e with e; omega)
        | i + 5, hi => simp at hi
      have hgP : ¬ P = G := by omega
      have RV := Lib.hid (show RvS wz A R S T P g vs from ⟨kz.cell (p := ⟨P, 0, none⟩) hgP RV6.out.p0, kz.cell (p := ⟨P, 1, none⟩) hgP RV6.out.p1, RV6.out.pw.keep kz HSG.out.1 HSG.out.2, hlsz, RV6.out.gv.keep kz HGVP.out⟩)
      have HB8 := Lib.hid (HB6.out.trans (kz.to_below (B := w.heap.size) (fun k _ e => by have := HB6.out.size; have := HGW.out; omega) HB6.out.size))
      clear hownz hgrow kz hvs hlsz hgx hgB hgl hgc hown6 hi hz0 hz1 hz2 RV6 HB6 HLS6 HO6 q1 q2 q3 q4 q5 hgP
      generalize hW8 : wz = W8 at *
      clear hW8
      have p0z := RV.out.p0
      go_wp2_with (go_at_call 8; refine (waits_no A.p a0 h0 _).mono ?_; rintro e wq ⟨rfl, rfl⟩)
      clear p0z
      go_loopw [9] (fun i X => ∃ k : Nat, k ≤ 5 ∧ i = .int .i64 k ∧ Below W8.heap.size W8 X) (fun i _ => 5 - (intOf i).toNat)
      case atStart => exact ⟨0, by omega, rfl, Below.refl _ _⟩
      case round =>
        obtain ⟨k, hk, rfl, hb⟩ := hrel
        have HB := Lib.hid hb
        by_cases hlt : k < 5
        · obtain ⟨v, hv⟩ : ∃ v, vs[k]? = some v := ⟨_, List.getElem?_eq_getElem (by rw [HVS.out]; exact hlt)⟩
          have KEEP : Hid (∀ X, Below wr.heap.size wr X → X.cell? ⟨g, k, none⟩ = some v ∧ X.cell? ⟨P, 0, none⟩ = some (.pointer (some ⟨A.p, 0, none⟩)) ∧ OvT X v) := Lib.hid (fun X hx => by
            have hr := (RV.out.new hb).new hx
            obtain ⟨h1, h2⟩ := hr.ls k v hv
            exact ⟨h1, hr.p0, h2⟩)
          have hbr : Below wr.heap.size wr wr := Below.refl _ _
          have hb0 : Below wr.heap.size wr wr.drew := (Below.refl _ _).drew
          have hk2 : k < cap := by omega
          obtain ⟨r0, -, -⟩ := KEEP.out _ hbr
          clear hv hb
          go_wp2_with (go_at_call 9; refine (ov_got (KEEP.out _ hbr).2.2).mono ?_; rintro e w2 ⟨rfl, rfl⟩)
          obtain ⟨s0, s1, -⟩ := KEEP.out _ hb0
          clear r0
          go_region_held3 (fun X => X.cell? ⟨g, k, none⟩ = some v ∧ X.cell? ⟨P, 0, none⟩ = some (.pointer (some ⟨A.p, 0, none⟩)))
            (first | exact ⟨by assumption, by assumption⟩)
            (first
              | (go_at_call 10; refine (ov_over (KEEP.out _ hb0).2.2).mono ?_; rintro e w2 ⟨rfl, rfl⟩)
              | (go_at_call 11; refine (ov_step (KEEP.out _ hb0).2.2 _).mono ?_; rintro e w2 ⟨rfl, rfl⟩))
          all_goals
            clear s0 s1
            go_wp2_with fail
            go_roundw
            case rel => exact ⟨k + 1, by omega, by go_num, below_then HB.out hb0⟩
            case measure => simp [intOf]; omega
        · obtain rfl : k = 5 := by omega
          have hr := RV.out.new hb
          have f0 := hr.p0
          have HGV := Lib.hid hr.gv
          clear hr
          go_wp2_with (first
            | (go_at_call 12; first | ((with_reducible refine (gv_over HGV.out).mono ?_); rintro e w2 ⟨rfl, rfl⟩) | ((with_reducible refine (gv_over_nil _).mono ?_); rintro e w2 ⟨rfl, rfl⟩))
            | (go_at_call 13; first | ((with_reducible refine (gv_step0 HGV.out _).mono ?_); rintro e w2 ⟨rfl, rfl⟩) | ((with_reducible refine (gv_step_nil _ _).mono ?_); rintro e w2 ⟨rfl, rfl⟩))
            | (go_at_call 8; refine (waits_nil a0 _).mono ?_; rintro e w2 ⟨rfl, rfl⟩))
          clear f0
          refine (newTake 5 (by decide) _).mono ?_
          rintro e w9 ⟨rfl, hx9, k9⟩
          have HB9 := Lib.hid (below_then HB.out k9)
          have HX9 := Lib.hid hx9
          clear hb k9 hx9
          generalize wr.heap.size = q at HX9 ⊢
          go_wp2_with fail
          refine (newGive _).mono ?_
          rintro e w10 ⟨rfl, hy10, k10⟩
          have HB10 := Lib.hid (below_then HB9.out k10)
          have HX10 := Lib.hid (HX9.out.new k10)
          have HY10 := Lib.hid hy10
          clear k10 hy10
          generalize w9.heap.size = q2 at HY10 ⊢
          have hr := RV.out.new HB10.out
          have f0 := hr.p0
          have f1 := hr.p1
          have HPW := Lib.hid hr.pw
          clear hr
          go_wp2_with (first
            | (go_at_call 11; refine (tk_step_no HX10.out).mono ?_; rintro e w11 ⟨rfl, rfl⟩)
            | (go_at_call 10; refine (tk_overn HX10.out).mono ?_; rintro e w11 ⟨rfl, rfl⟩)
            | (go_at_call 13; refine (gv_step_no HY10.out).mono ?_; rintro e w11 ⟨rfl, rfl⟩)
            | (go_at_call 12; refine (gv_overn HY10.out).mono ?_; rintro e w11 ⟨rfl, rfl⟩)
            | (go_at_call 15; refine (pw_all HPW.out rfl (by decide) (by decide)).mono ?_; rintro e w11 ⟨rfl, hk11⟩; have hd1 := below_then HB10.out hk11; clear hk11)
            | (go_at_call 16; refine (lives11 _).mono ?_; rintro e w12 ⟨rfl, hk12⟩; have hd2 := below_then hd1 hk12; clear hk12))
          go_ret
          exact ⟨rfl, below_then HB8.out hd2⟩
  · have ht : 0 ≤ a0 ∧ a0 < 64 := by
      have : decide (0 ≤ a0 ∧ a0 < 64) = true := by simpa using h0
      exact of_decide_eq_true this
    have hd : decide (a0 < 0) = false := decide_eq_false (by omega)
    have hd2 : decide (63 < a0) = false := decide_eq_false (by omega)
    clear ht
    go_wp2_with fail
    generalize hW8 : World.alloc w4 _ = W8
    rw [show w4.heap.size = G from HG.out.symm]
    obtain ⟨vs, hvs⟩ : ∃ vs : List Value, vs = [.pointer (some ⟨P + 1, 0, none⟩), .pointer none, .pointer (some ⟨Q2, 0, none⟩), .pointer (some ⟨Q3, 0, none⟩)] := ⟨_, rfl⟩
    have k48 : Below w4.heap.size w4 W8 := by rw [← hW8]; exact bs_alloc (Below.refl _ _)
    have HVS := Lib.hid (show vs.length = 4 by rw [hvs]; rfl)
    have RV := Lib.hid (show RvS W8 A R S T P G vs from ⟨(RV4.out.new k48).p0, (RV4.out.new k48).p1, (RV4.out.new k48).pw, by rw [hvs, ← hW8]; exact HLS.out _, (RV4.out.new k48).gv⟩)
    have HB8 := Lib.hid (below_then HB4.out k48)
    clear hW8 hvs k48 RV4 HT4 HB4 HO3' HO4 HLS h0 hd hd2
    generalize G = g at *
    go_wp2_with fail
    go_loopw [9] (fun i X => ∃ k : Nat, k ≤ 4 ∧ i = .int .i64 k ∧ Below W8.heap.size W8 X) (fun i _ => 4 - (intOf i).toNat)
    case atStart => exact ⟨0, by omega, rfl, Below.refl _ _⟩
    case round =>
      obtain ⟨k, hk, rfl, hb⟩ := hrel
      have HB := Lib.hid hb
      by_cases hlt : k < 4
      · obtain ⟨v, hv⟩ : ∃ v, vs[k]? = some v := ⟨_, List.getElem?_eq_getElem (by rw [HVS.out]; exact hlt)⟩
        have KEEP : Hid (∀ X, Below wr.heap.size wr X → X.cell? ⟨g, k, none⟩ = some v ∧ X.cell? ⟨P, 0, none⟩ = some (.pointer (some ⟨A.p, 0, none⟩)) ∧ OvT X v) := Lib.hid (fun X hx => by
          have hr := (RV.out.new hb).new hx
          obtain ⟨h1, h2⟩ := hr.ls k v hv
          exact ⟨h1, hr.p0, h2⟩)
        have hbr : Below wr.heap.size wr wr := Below.refl _ _
        have hb0 : Below wr.heap.size wr wr.drew := (Below.refl _ _).drew
        have hk2 : k < 4 := by omega
        obtain ⟨r0, -, -⟩ := KEEP.out _ hbr
        clear hv hb
        go_wp2_with (go_at_call 9; refine (ov_got (KEEP.out _ hbr).2.2).mono ?_; rintro e w2 ⟨rfl, rfl⟩)
        obtain ⟨s0, s1, -⟩ := KEEP.out _ hb0
        clear r0
        go_region_held3 (fun X => X.cell? ⟨g, k, none⟩ = some v ∧ X.cell? ⟨P, 0, none⟩ = some (.pointer (some ⟨A.p, 0, none⟩)))
          (first | exact ⟨by assumption, by assumption⟩)
          (first
            | (go_at_call 10; refine (ov_over (KEEP.out _ hb0).2.2).mono ?_; rintro e w2 ⟨rfl, rfl⟩)
            | (go_at_call 11; refine (ov_step (KEEP.out _ hb0).2.2 _).mono ?_; rintro e w2 ⟨rfl, rfl⟩))
        all_goals
          clear s0 s1
          go_wp2_with fail
          go_roundw
          case rel => exact ⟨k + 1, by omega, by go_num, below_then HB.out hb0⟩
          case measure => simp [intOf]; omega
      · obtain rfl : k = 4 := by omega
        have hr := RV.out.new hb
        have f0 := hr.p0
        have HGV := Lib.hid hr.gv
        clear hr
        go_wp2_with (first
          | (go_at_call 12; first | ((with_reducible refine (gv_over HGV.out).mono ?_); rintro e w2 ⟨rfl, rfl⟩) | ((with_reducible refine (gv_over_nil _).mono ?_); rintro e w2 ⟨rfl, rfl⟩))
          | (go_at_call 13; first | ((with_reducible refine (gv_step0 HGV.out _).mono ?_); rintro e w2 ⟨rfl, rfl⟩) | ((with_reducible refine (gv_step_nil _ _).mono ?_); rintro e w2 ⟨rfl, rfl⟩))
          | (go_at_call 8; refine (waits_nil a0 _).mono ?_; rintro e w2 ⟨rfl, rfl⟩))
        clear f0
        refine (newTake 5 (by decide) _).mono ?_
        rintro e w9 ⟨rfl, hx9, k9⟩
        have HB9 := Lib.hid (below_then HB.out k9)
        have HX9 := Lib.hid hx9
        clear hb k9 hx9
        generalize wr.heap.size = q at HX9 ⊢
        go_wp2_with fail
        refine (newGive _).mono ?_
        rintro e w10 ⟨rfl, hy10, k10⟩
        have HB10 := Lib.hid (below_then HB9.out k10)
        have HX10 := Lib.hid (HX9.out.new k10)
        have HY10 := Lib.hid hy10
        clear k10 hy10
        generalize w9.heap.size = q2 at HY10 ⊢
        have hr := RV.out.new HB10.out
        have f0 := hr.p0
        have f1 := hr.p1
        have HPW := Lib.hid hr.pw
        clear hr
        go_wp2_with (first
          | (go_at_call 11; refine (tk_step_no HX10.out).mono ?_; rintro e w11 ⟨rfl, rfl⟩)
          | (go_at_call 10; refine (tk_overn HX10.out).mono ?_; rintro e w11 ⟨rfl, rfl⟩)
          | (go_at_call 13; refine (gv_step_no HY10.out).mono ?_; rintro e w11 ⟨rfl, rfl⟩)
          | (go_at_call 12; refine (gv_overn HY10.out).mono ?_; rintro e w11 ⟨rfl, rfl⟩)
          | (go_at_call 15; refine (pw_all HPW.out rfl (by decide) (by decide)).mono ?_; rintro e w11 ⟨rfl, hk11⟩; have hd1 := below_then HB10.out hk11; clear hk11)
          | (go_at_call 16; refine (lives11 _).mono ?_; rintro e w12 ⟨rfl, hk12⟩; have hd2 := below_then hd1 hk12; clear hk12))
        go_ret
        exact ⟨rfl, below_then HB8.out hd2⟩
end Go.Proofs.YtjkpgihhamogmaaGreat
