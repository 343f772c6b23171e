/- The law RefsVoid. -/
import Derived.Test.YtmdofhdjikapgaaGreatBg0
import Derived.Test.YtmdofhdjikapgaaGreatToV
import Derived.Test.YtmdofhdjikapgaaGreatOpen
namespace Go.Proofs.YtmdofhdjikapgaaGreat
open Go.RowKit Go.Maps
set_option linter.unusedVariables false
/-- A list of touches that are over. -/
def LsT (w : World) (g : Nat) (vs : List Value) : Prop := ∀ i v, vs[i]? = some v → w.cell? ⟨g, i, none⟩ = some v ∧ OvT w v
theorem LsT.new {w W : World} {g : Nat} {vs : List Value} (h : LsT w g vs) (hb : Below w.heap.size w W) : LsT W g vs := fun i v hi => by
  obtain ⟨h1, h2⟩ := h i v hi
  exact ⟨(hb.cell (p := ⟨g, i, none⟩) (World.block_lt_of_cell? _ _ h1)).trans h1, h2.new hb⟩
theorem info_tp : (Tryz.prog.info? 55).map (fun i => (i.zero, i.size, i.bytes)) = some (some (.pointer none), 1, 8) := by kernel_rfl
theorem own4 (w : World) (e : TypeId) (a b c d : Value) : (w.alloc (.cells #[a, b, c, d] e)).ownsRow w.heap.size e 1 (.slice (some ⟨w.heap.size, 0, none⟩) 4 4) 4 [a, b, c, d] :=
  ⟨rfl, .inr ⟨w.heap.size, 4, #[a, b, c, d], rfl, Nat.le_refl _, heap_alloc_new w _, Nat.le_refl _, by decide, rfl, by simp⟩⟩
/-- What stands as the loop begins. -/
structure RvS (w : World) (A R : Ad) (S T : Nat → Prop) (P g : Nat) (vs : List Value) : Prop where
  p0 : w.cell? ⟨P, 0, none⟩ = some (.pointer (some ⟨A.p, 0, none⟩))
  p1 : w.cell? ⟨P, 1, none⟩ = some (.pointer (some ⟨R.p, 0, none⟩))
  pw : Pw w A R V10 S T
  ls : LsT w g vs
theorem RvS.new {w W : World} {A R : Ad} {S T : Nat → Prop} {P g : Nat} {vs : List Value} (h : RvS w A R S T P g vs) (hb : Below w.heap.size w W) : RvS W A R S T P g vs :=
  ⟨(hb.cell (p := ⟨P, 0, none⟩) (World.block_lt_of_cell? _ _ h.p0)).trans h.p0, (hb.cell (p := ⟨P, 1, none⟩) (World.block_lt_of_cell? _ _ h.p1)).trans h.p1, h.pw.new hb, h.ls.new hb⟩
set_option maxHeartbeats 4000000 in
set_option maxRecDepth 100000 in
theorem walk_RefsVoid (a0 : Int) (w : World) (w0 : (Lit.int .i64 a0).wf = true) :
    Calls Tryz.prog 5 #[.int .i64 a0] w fun e w' => e = .returned (.bool true) ∧ Below w.heap.size w w' := by
  obtain ⟨b1, b2⟩ := bounds_i64 w0
  clear w0
  have N0 := Lib.hid (fun W => new_no 0 (by decide) (by decide) W)
  have N1 := Lib.hid (fun W => new_no (-1) (by decide) (by decide) W)
  have N5 := Lib.hid (fun W => new_is 5 (by decide) (by decide) W)
  go_enter Tryz.func5, Tryz.ntmps5
  go_wp2_with fail
  refine (begin0 _).mono ?_
  rintro e w1 ⟨A, R, S, T, rfl, hP, hST, hb1⟩
  have HP := Lib.hid hP
  have HB1 := Lib.hid hb1
  clear hP hST hb1
  go_wp2_with fail
  obtain ⟨P, hPq⟩ : ∃ P, P = w1.heap.size := ⟨_, rfl⟩
  generalize hW2 : World.alloc (World.alloc w1 _) _ = W2
  rw [← hPq]
  have k12 : Below w1.heap.size w1 W2 := by rw [← hW2]; exact bs_alloc (bs_alloc (Below.refl _ _))
  have p0 : W2.cell? ⟨P, 0, none⟩ = some (.pointer (some ⟨A.p, 0, none⟩)) := by rw [← hW2, hPq]; simp [World.cell?_alloc_some]
  have p1 : W2.cell? ⟨P, 1, none⟩ = some (.pointer (some ⟨R.p, 0, none⟩)) := by rw [← hW2, hPq]; simp [World.cell?_alloc_some]
  have ht : IsTo W2 (P + 1) 0 0 0 false := by
    rw [← hW2, hPq]
    exact ⟨new_at (by simp) rfl, new_at (by simp) rfl, new_at (by simp) rfl, new_at (by simp) rfl, fun j hj => new_fz (by simp)⟩
  have RV2 := Lib.hid (show RvS W2 A R S T P 0 [] from ⟨p0, p1, HP.out.new k12, fun i v h => by simp at h⟩)
  have HT2 := Lib.hid (show OvT W2 (.pointer (some ⟨P + 1, 0, none⟩)) from .inr ⟨_, _, _, rfl, ht⟩)
  have HB2 := Lib.hid (below_then HB1.out k12)
  clear hW2 hPq k12 p0 p1 ht HP HB1
  refine (N0.out _).mono ?_
  rintro e w3 ⟨rfl, ov3, k3⟩
  have RV3 := Lib.hid (RV2.out.new k3)
  have HT3 := Lib.hid (HT2.out.new k3)
  have HB3 := Lib.hid (below_then HB2.out k3)
  have HO3 := Lib.hid ov3
  clear ov3 k3 RV2 HT2 HB2
  generalize W2.heap.size = Q2 at *
  go_wp2_with fail
  refine (N1.out _).mono ?_
  rintro e w4 ⟨rfl, ov4, k4⟩
  have RV4 := Lib.hid (RV3.out.new k4)
  have HT4 := Lib.hid (HT3.out.new k4)
  have HB4 := Lib.hid (below_then HB3.out k4)
  have HO3' := Lib.hid (HO3.out.new k4)
  have HO4 := Lib.hid ov4
  clear ov4 k4 RV3 HT3 HB3 HO3
  generalize w3.heap.size = Q3 at *
  obtain ⟨G, hG⟩ : ∃ G, G = w4.heap.size := ⟨_, rfl⟩
  have HG := Lib.hid hG
  clear hG
  have HLS : Hid (∀ T, LsT (w4.alloc (.cells #[.pointer (some ⟨P + 1, 0, none⟩), .pointer none, .pointer (some ⟨Q2, 0, none⟩), .pointer (some ⟨Q3, 0, none⟩)] T)) G [.pointer (some ⟨P + 1, 0, none⟩), .pointer none, .pointer (some ⟨Q2, 0, none⟩), .pointer (some ⟨Q3, 0, none⟩)]) := Lib.hid (fun T => by
    have k : Below w4.heap.size w4 (w4.alloc (.cells #[.pointer (some ⟨P + 1, 0, none⟩), .pointer none, .pointer (some ⟨Q2, 0, none⟩), .pointer (some ⟨Q3, 0, none⟩)] T)) := bs_alloc (Below.refl _ _)
    intro i v hi
    match i, hi with
    | 0, hi => simp at hi; subst hi; exact ⟨new_at HG.out rfl, HT4.out.new k⟩
    | 1, hi => simp at hi; subst hi; exact ⟨new_at HG.out rfl, .inl rfl⟩
    | 2, hi => simp at hi; subst hi; exact ⟨new_at HG.out rfl, HO3'.out.new k⟩
    | 3, hi => simp at hi; subst hi; exact ⟨new_at HG.out rfl, HO4.out.new k⟩
    | i + 4, hi => simp at hi)
  by_cases h0 : a0 < 1
  · have hd : decide (a0 < 1) = true := decide_eq_true h0
    go_wp2_with fail
    generalize hW5 : World.alloc w4 _ = W5
    rw [show w4.heap.size = G from HG.out.symm]
    have k45 : Below w4.heap.size w4 W5 := by rw [← hW5]; exact bs_alloc (Below.refl _ _)
    have hls5 : LsT W5 G [.pointer (some ⟨P + 1, 0, none⟩), .pointer none, .pointer (some ⟨Q2, 0, none⟩), .pointer (some ⟨Q3, 0, none⟩)] := by rw [← hW5]; exact HLS.out _
    have hown5 : W5.ownsRow G 55 1 (.slice (some ⟨G, 0, none⟩) 4 4) 4 [.pointer (some ⟨P + 1, 0, none⟩), .pointer none, .pointer (some ⟨Q2, 0, none⟩), .pointer (some ⟨Q3, 0, none⟩)] := by rw [← hW5, HG.out]; exact own4 _ _ _ _ _ _
    clear hW5
    refine (new_no a0 h0 b1 _).mono ?_
    rintro e w6 ⟨rfl, ov6, k6⟩
    have RV6 := Lib.hid ((RV4.out.new k45).new k6)
    have hown6 := own_below hown5 k6
    have HB6 := Lib.hid (below_then (below_then HB4.out k45) k6)
    have HLS6 := Lib.hid (hls5.new k6)
    have HO6 := Lib.hid ov6
    have hG6 : G ≤ w6.heap.size := by have := HG.out; have := k45.size; have := k6.size; omega
    have hQ6 : G < W5.heap.size := World.block_lt_of_cell? _ _ (hls5 0 _ rfl).1
    have hPG : P < G := by rw [HG.out]; exact World.block_lt_of_cell? _ _ RV4.out.p0
    have hSG : (∀ j, S j → ¬ j = G) ∧ ∀ j, T j → ¬ j = G := by
      have hw := RV4.out.pw
      refine ⟨fun j s e => by have := hw.a.lt j s; have := HG.out; omega, fun j s e => ?_⟩
      obtain ⟨L, ⟨TC, TI, TN, r⟩, -⟩ := hw.r
      have := r.lt j s
      have := HG.out
      omega
    have hq0 : P + 1 < G := by rw [HG.out]; exact HT4.out.lt _ rfl
    have hq2 : Q2 < G := by rw [HG.out]; exact HO3'.out.lt _ rfl
    have hq3 : Q3 < G := by rw [HG.out]; exact HO4.out.lt _ rfl
    have HQ := Lib.hid (show P < G ∧ P + 1 < G ∧ Q2 < G ∧ Q3 < G ∧ G < W5.heap.size from ⟨hPG, hq0, hq2, hq3, hQ6⟩)
    have HSG := Lib.hid hSG
    have HGW := Lib.hid (show w.heap.size ≤ G by rw [HG.out]; exact HB4.out.size)
    clear ov6 k45 k6 hls5 hown5 RV4 HT4 HB4 HO3' HO4 HLS hQ6 hPG hSG hq0 hq2 hq3
    generalize W5.heap.size = Q6 at *
    obtain ⟨i0, hi, hz0, hz1, hz2⟩ := info_parts info_tp
    go_wp2_with (at_builtin; refine wpList_append_own _ rfl _ _ 72 rfl G 55 i0 (.pointer none) 1 8 Tryz.underlying72 hi hz0 hz1 hz2 rfl (by decide) _ _ _ rfl (hown6.alloc _) ⟨w6.heap.size, 0, none⟩ 1 1 [.pointer (some ⟨Q6, 0, none⟩)] rfl rfl ?p1 ?p2 ?p3 ?p4 ?p5 ?_)
    case p1 =>
      intro j u hj
      match j, hj with
      | 0, hj => simp at hj; subst hj; simp [Addr.add]
      | j + 1, hj => simp at hj
    case p2 => intro u hu; simp at hu; subst hu; rfl
    case p3 => unfold maxLen; decide
    case p4 => decide
    case p5 => simp; omega
    intro vz wz hownz hgrow _
    have kz : Keeps (fun j => j = G) w6 wz := ((Keeps.refl (fun j => j = G) w6).alloc _).grown hgrow (fun k hk => by simp [Value.ownBlock] at hk; exact .inl hk.symm)
    obtain ⟨q1, q2, q3, q4, q5⟩ := HQ.out
    obtain ⟨_, ⟨_, h0'⟩ | ⟨g, cap, rfl, hgB, hgl, hgn, hgc, hgx⟩⟩ := Lst.of_own hownz
    · omega
    obtain ⟨vs, hvs⟩ : ∃ vs : List Value, vs = [.pointer (some ⟨P + 1, 0, none⟩), .pointer none, .pointer (some ⟨Q2, 0, none⟩), .pointer (some ⟨Q3, 0, none⟩), .pointer (some ⟨Q6, 0, none⟩)] := ⟨_, rfl⟩
    have HVS := Lib.hid (show vs.length = 5 by rw [hvs]; rfl)
    have hlsz : LsT wz g vs := by
      rw [hvs]
      intro i v hi
      refine ⟨(hgx i v hi).1, ?_⟩
      match i, hi with
      | 0, hi => exact (HLS6.out 0 v hi).2.keep kz (fun q e => by simp at hi; subst hi; injection e with e; injection e with e; injection e with e; omega)
      | 1, hi => exact (HLS6.out 1 v hi).2.keep kz (fun q e => by simp at hi; subst hi; simp at e)
      | 2, hi => exact (HLS6.out 2 v hi).2.keep kz (fun q e => by simp at hi; subst hi; injection e with e; injection e with e; injection e with e; omega)
      | 3, hi => exact (HLS6.out 3 v hi).2.keep kz (fun q e => by simp at hi; subst hi; injection e with e; injection e with e; injection e with e; omega)
      | 4, hi => simp at hi; subst hi; exact HO6.out.keep kz (fun q e => by injection e with e; injection e with e; injection e with e; omega)
      | i + 5, hi => simp at hi
    have hgP : ¬ P = G := by omega
    have RV := Lib.hid (show RvS wz A R S T P g vs from ⟨kz.cell (p := ⟨P, 0, none⟩) hgP RV6.out.p0, kz.cell (p := ⟨P, 1, none⟩) hgP RV6.out.p1, RV6.out.pw.keep kz HSG.out.1 HSG.out.2, hlsz⟩)
    have HB8 := Lib.hid (HB6.out.trans (kz.to_below (B := w.heap.size) (fun k _ e => by have := HB6.out.size; have := HGW.out; omega) HB6.out.size))
    clear hownz hgrow kz hvs hlsz hgx hgB hgl hgc hown6 hi hz0 hz1 hz2 RV6 HB6 HLS6 HO6 h0 hd q1 q2 q3 q4 q5 hgP
    generalize hW8 : wz = W8 at *
    clear hW8
    go_wp2_with fail
    go_loopw [7] (fun i X => ∃ k : Nat, k ≤ 5 ∧ i = .int .i64 k ∧ Below W8.heap.size W8 X) (fun i _ => 5 - (intOf i).toNat)
    case atStart => exact ⟨0, by omega, rfl, Below.refl _ _⟩
    case round =>
      obtain ⟨k, hk, rfl, hb⟩ := hrel
      have HB := Lib.hid hb
      by_cases hlt : k < 5
      · obtain ⟨v, hv⟩ : ∃ v, vs[k]? = some v := ⟨_, List.getElem?_eq_getElem (by rw [HVS.out]; exact hlt)⟩
        have KEEP : Hid (∀ X, Below wr.heap.size wr X → X.cell? ⟨g, k, none⟩ = some v ∧ X.cell? ⟨P, 0, none⟩ = some (.pointer (some ⟨A.p, 0, none⟩)) ∧ OvT X v) := Lib.hid (fun X hx => by
          have hr := (RV.out.new hb).new hx
          obtain ⟨h1, h2⟩ := hr.ls k v hv
          exact ⟨h1, hr.p0, h2⟩)
        have hb0 : Below wr.heap.size wr wr.drew := (Below.refl _ _).drew
        obtain ⟨s0, s1, -⟩ := KEEP.out _ hb0
        have hk2 : k < cap := by omega
        clear hv hb
        go_wp2_with fail
        go_region_held3 (fun X => X.cell? ⟨g, k, none⟩ = some v ∧ X.cell? ⟨P, 0, none⟩ = some (.pointer (some ⟨A.p, 0, none⟩)))
          (first | exact ⟨by assumption, by assumption⟩ | exact ⟨(KEEP.out _ (by assumption)).1, (KEEP.out _ (by assumption)).2.1⟩)
          (first
            | (go_at_call 22; refine (ov_over (KEEP.out _ hb0).2.2).mono ?_; rintro e w2 ⟨rfl, rfl⟩)
            | (go_at_call 21; refine (ov_step (KEEP.out _ (by assumption)).2.2 _).mono ?_; rintro e w2 ⟨rfl, hk2⟩; have hb1 : Below wr.heap.size wr w2 := below_then (by assumption) hk2; clear hk2 s0 s1; obtain ⟨s0, s1, -⟩ := KEEP.out _ hb1)
            | (go_at_call 23; refine (ov_done (KEEP.out _ (by assumption)).2.2).mono ?_; rintro e w2 ⟨rfl, rfl⟩))
        all_goals
          clear s0 s1
          go_wp2_with fail
          go_roundw
          case rel => exact ⟨k + 1, by omega, by go_num, below_then HB.out (by assumption)⟩
          case measure => simp [intOf]; omega
      · obtain rfl : k = 5 := by omega
        go_wp2_with fail
        refine (N5.out _).mono ?_
        rintro e w9 ⟨rfl, ⟨m, hto⟩, k9⟩
        have HB9 := Lib.hid (below_then HB.out k9)
        clear hb k9
        generalize wr.heap.size = q at hto ⊢
        have HTO := Lib.hid hto
        have KEEP2 : Hid (∀ X, Below w9.heap.size w9 X → (X.cell? ⟨P, 0, none⟩ = some (.pointer (some ⟨A.p, 0, none⟩)) ∧ X.cell? ⟨P, 1, none⟩ = some (.pointer (some ⟨R.p, 0, none⟩))) ∧ Pw X A R V10 S T ∧ IsTo X q m 0 3 false) := Lib.hid (fun X hx => by
          have hr := (RV.out.new HB9.out).new hx
          exact ⟨⟨hr.p0, hr.p1⟩, hr.pw, HTO.out.keep (T := fun _ => False) (Keeps.of_new hx) (fun s => s)⟩)
        have hd0 : Below w9.heap.size w9 w9 := Below.refl _ _
        obtain ⟨f0, f1⟩ := (KEEP2.out _ hd0).1
        clear hto
        go_wp2_with (first
            | (go_at_call 21; refine (step_no (KEEP2.out _ (by assumption)).2.2).mono ?_; rintro e w11 ⟨rfl, rfl⟩)
            | (go_at_call 22; refine (overn (KEEP2.out _ (by assumption)).2.2 (by decide)).mono ?_; rintro e w11 ⟨rfl, rfl⟩)
            | (go_at_call 23; refine (donew (KEEP2.out _ (by assumption)).2.2).mono ?_; rintro e w11 ⟨rfl, rfl⟩)
            | (go_at_call 9; refine (pw_all (KEEP2.out _ (by assumption)).2.1 rfl (by decide) (by decide)).mono ?_; rintro e w11 ⟨rfl, hk11⟩; have hd1 : Below w9.heap.size w9 w11 := below_then hd0 hk11; clear hk11)
            | (go_at_call 12; refine (lives22 _).mono ?_; rintro e w12 ⟨rfl, hk12⟩; have hd2 : Below w9.heap.size w9 w12 := below_then hd1 hk12; clear hk12))
        go_ret
        exact ⟨rfl, below_then (below_then HB8.out HB9.out) hd2⟩
  · have hd : decide (a0 < 1) = false := decide_eq_false h0
    go_wp2_with fail
    generalize hW8 : World.alloc w4 _ = W8
    rw [show w4.heap.size = G from HG.out.symm]
    obtain ⟨vs, hvs⟩ : ∃ vs : List Value, vs = [.pointer (some ⟨P + 1, 0, none⟩), .pointer none, .pointer (some ⟨Q2, 0, none⟩), .pointer (some ⟨Q3, 0, none⟩)] := ⟨_, rfl⟩
    have k48 : Below w4.heap.size w4 W8 := by rw [← hW8]; exact bs_alloc (Below.refl _ _)
    have HVS := Lib.hid (show vs.length = 4 by rw [hvs]; rfl)
    have RV := Lib.hid (show RvS W8 A R S T P G vs from ⟨(RV4.out.new k48).p0, (RV4.out.new k48).p1, (RV4.out.new k48).pw, by rw [hvs, ← hW8]; exact HLS.out _⟩)
    have HB8 := Lib.hid (below_then HB4.out k48)
    clear hW8 hvs k48 RV4 HT4 HB4 HO3' HO4 HLS h0 hd
    generalize G = g at *
    go_wp2_with fail
    go_loopw [7] (fun i X => ∃ k : Nat, k ≤ 4 ∧ i = .int .i64 k ∧ Below W8.heap.size W8 X) (fun i _ => 4 - (intOf i).toNat)
    case atStart => exact ⟨0, by omega, rfl, Below.refl _ _⟩
    case round =>
      obtain ⟨k, hk, rfl, hb⟩ := hrel
      have HB := Lib.hid hb
      by_cases hlt : k < 4
      · obtain ⟨v, hv⟩ : ∃ v, vs[k]? = some v := ⟨_, List.getElem?_eq_getElem (by rw [HVS.out]; exact hlt)⟩
        have KEEP : Hid (∀ X, Below wr.heap.size wr X → X.cell? ⟨g, k, none⟩ = some v ∧ X.cell? ⟨P, 0, none⟩ = some (.pointer (some ⟨A.p, 0, none⟩)) ∧ OvT X v) := Lib.hid (fun X hx => by
          have hr := (RV.out.new hb).new hx
          obtain ⟨h1, h2⟩ := hr.ls k v hv
          exact ⟨h1, hr.p0, h2⟩)
        have hb0 : Below wr.heap.size wr wr.drew := (Below.refl _ _).drew
        obtain ⟨s0, s1, -⟩ := KEEP.out _ hb0
        have hk2 : k < 4 := by omega
        clear hv hb
        go_wp2_with fail
        go_region_held3 (fun X => X.cell? ⟨g, k, none⟩ = some v ∧ X.cell? ⟨P, 0, none⟩ = some (.pointer (some ⟨A.p, 0, none⟩)))
          (first | exact ⟨by assumption, by assumption⟩ | exact ⟨(KEEP.out _ (by assumption)).1, (KEEP.out _ (by assumption)).2.1⟩)
          (first
            | (go_at_call 22; refine (ov_over (KEEP.out _ hb0).2.2).mono ?_; rintro e w2 ⟨rfl, rfl⟩)
            | (go_at_call 21; refine (ov_step (KEEP.out _ (by assumption)).2.2 _).mono ?_; rintro e w2 ⟨rfl, hk2⟩; have hb1 : Below wr.heap.size wr w2 := below_then (by assumption) hk2; clear hk2 s0 s1; obtain ⟨s0, s1, -⟩ := KEEP.out _ hb1)
            | (go_at_call 23; refine (ov_done (KEEP.out _ (by assumption)).2.2).mono ?_; rintro e w2 ⟨rfl, rfl⟩))
        all_goals
          clear s0 s1
          go_wp2_with fail
          go_roundw
          case rel => exact ⟨k + 1, by omega, by go_num, below_then HB.out (by assumption)⟩
          case measure => simp [intOf]; omega
      · obtain rfl : k = 4 := by omega
        go_wp2_with fail
        refine (N5.out _).mono ?_
        rintro e w9 ⟨rfl, ⟨m, hto⟩, k9⟩
        have HB9 := Lib.hid (below_then HB.out k9)
        clear hb k9
        generalize wr.heap.size = q at hto ⊢
        have HTO := Lib.hid hto
        have KEEP2 : Hid (∀ X, Below w9.heap.size w9 X → (X.cell? ⟨P, 0, none⟩ = some (.pointer (some ⟨A.p, 0, none⟩)) ∧ X.cell? ⟨P, 1, none⟩ = some (.pointer (some ⟨R.p, 0, none⟩))) ∧ Pw X A R V10 S T ∧ IsTo X q m 0 3 false) := Lib.hid (fun X hx => by
          have hr := (RV.out.new HB9.out).new hx
          exact ⟨⟨hr.p0, hr.p1⟩, hr.pw, HTO.out.keep (T := fun _ => False) (Keeps.of_new hx) (fun s => s)⟩)
        have hd0 : Below w9.heap.size w9 w9 := Below.refl _ _
        obtain ⟨f0, f1⟩ := (KEEP2.out _ hd0).1
        clear hto
        go_wp2_with (first
            | (go_at_call 21; refine (step_no (KEEP2.out _ (by assumption)).2.2).mono ?_; rintro e w11 ⟨rfl, rfl⟩)
            | (go_at_call 22; refine (overn (KEEP2.out _ (by assumption)).2.2 (by decide)).mono ?_; rintro e w11 ⟨rfl, rfl⟩)
            | (go_at_call 23; refine (donew (KEEP2.out _ (by assumption)).2.2).mono ?_; rintro e w11 ⟨rfl, rfl⟩)
            | (go_at_call 9; refine (pw_all (KEEP2.out _ (by assumption)).2.1 rfl (by decide) (by decide)).mono ?_; rintro e w11 ⟨rfl, hk11⟩; have hd1 : Below w9.heap.size w9 w11 := below_then hd0 hk11; clear hk11)
            | (go_at_call 12; refine (lives22 _).mono ?_; rintro e w12 ⟨rfl, hk12⟩; have hd2 : Below w9.heap.size w9 w12 := below_then hd1 hk12; clear hk12))
        go_ret
        exact ⟨rfl, below_then (below_then HB8.out HB9.out) hd2⟩
end Go.Proofs.YtmdofhdjikapgaaGreat
