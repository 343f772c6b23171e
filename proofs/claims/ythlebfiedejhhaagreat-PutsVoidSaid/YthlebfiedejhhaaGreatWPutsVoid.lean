/- The law PutsVoid. -/
import Derived.Test.YthlebfiedejhhaaGreatGMv
import Derived.Test.YthlebfiedejhhaaGreatGBg
import Derived.Test.YthlebfiedejhhaaGreatOpen
import Derived.Deep.Cut
import Derived.Deep.CutBlock
import Derived.Deep.RegionHeld3
namespace Go.Proofs.YthlebfiedejhhaaGreat
open Go.RowKit Go.Maps
set_option linter.unusedVariables false
/-- Both lists, and what stands. -/
def PvR (B Q : Nat) (X wx : World) (s12 s13 : Value) (m1 m2 : Nat) : Prop := LsQ B OvP 107 wx s12 m1 ∧ LsQ B OvO 111 wx s13 m2 ∧ Kp (fun k => k < B ∨ k = Q) X wx
theorem PvR.le {B Q : Nat} {X wx : World} {s12 s13 : Value} {m1 m2 : Nat} (h : PvR B Q X wx s12 s13 m1 m2) {n1 n2 : Nat} (h1 : m1 ≤ n1) (h2 : m2 ≤ n2) : PvR B Q X wx s12 s13 n1 n2 := ⟨h.1.le h1, h.2.1.le h2, h.2.2⟩
theorem PvR.new {B Q : Nat} {X wx wy : World} {s12 s13 : Value} {m1 m2 : Nat} (h : PvR B Q X wx s12 s13 m1 m2) (hb : Below wx.heap.size wx wy) : PvR B Q X wy s12 s13 m1 m2 := ⟨h.1.new stP hb, h.2.1.new stO hb, Kp.to h.2.2 (Kp.of hb)⟩
theorem pvr_put {B Q : Nat} {X w0 w5 wz : World} {s13 vz : Value} {m1 m2 g n cap : Nat} {vs : List Value} {v : Value} (hLO : LsQ B OvO 111 w0 s13 m2) (hK : Kp (fun k => k < B ∨ k = Q) X w0) (hQ : ∀ Y, Kp (fun k => k < B ∨ k = Q) X Y → ∃ z, Y.cell? ⟨Q, 0, none⟩ = some (.int .i64 z)) (hn1 : 1 ≤ n) (hnm : n ≤ m1) (h2 : vs.length = n) (h3 : w0.ownsRow B 107 1 (.slice (some ⟨g, 0, none⟩) n cap) n vs) (h4 : ∀ u, u ∈ vs → OvP w0 u) (hb : Below w0.heap.size w0 w5) (hv : OvP w5 v) {o : Obj} (hown : wz.ownsRow B 107 1 vz (n + 1) (vs ++ [v])) (hgr : (w5.alloc o).grownBy wz (Value.ownBlock (.slice (some ⟨g, 0, none⟩) n cap))) : PvR B Q X wz vz s13 (m1 + 1) m2 := by
  have hz : Below w0.heap.size w0 (w5.alloc o) := bs_alloc hb
  have r := LsQ.app (X := w5.alloc o) stP hn1 hnm h2 (own_below h3 hz) (fun u hu => stP.new (h4 u hu) hz) (stP.new hv (bs_alloc (Below.refl _ _))) hown hgr
  refine ⟨r.1, (hLO.new stO hz).keepE stO (r.2 _ (fun k hk => ?_)), Kp.to hK (Kp.to (Kp.of hz) (r.2 _ (fun k hk => ?_)))⟩
  · rcases hk with hz | ⟨cur, fr, h⟩
    · exact .inr (.inl hz)
    · exact .inr (.inr ⟨cur, _, fr, h, by decide⟩)
  · rcases hk with hk | rfl
    · exact .inl hk
    · exact .inr (.inl (hQ _ (Kp.to hK (Kp.of hz))))
theorem pvr_out {B Q : Nat} {X w0 w5 wz : World} {s12 vz : Value} {m1 m2 g n cap : Nat} {vs : List Value} {v : Value} (hLI : LsQ B OvP 107 w0 s12 m1) (hK : Kp (fun k => k < B ∨ k = Q) X w0) (hQ : ∀ Y, Kp (fun k => k < B ∨ k = Q) X Y → ∃ z, Y.cell? ⟨Q, 0, none⟩ = some (.int .i64 z)) (hn1 : 1 ≤ n) (hnm : n ≤ m2) (h2 : vs.length = n) (h3 : w0.ownsRow B 111 1 (.slice (some ⟨g, 0, none⟩) n cap) n vs) (h4 : ∀ u, u ∈ vs → OvO w0 u) (hb : Below w0.heap.size w0 w5) (hv : OvO w5 v) {o : Obj} (hown : wz.ownsRow B 111 1 vz (n + 1) (vs ++ [v])) (hgr : (w5.alloc o).grownBy wz (Value.ownBlock (.slice (some ⟨g, 0, none⟩) n cap))) : PvR B Q X wz s12 vz m1 (m2 + 1) := by
  have hz : Below w0.heap.size w0 (w5.alloc o) := bs_alloc hb
  have r := LsQ.app (X := w5.alloc o) stO hn1 hnm h2 (own_below h3 hz) (fun u hu => stO.new (h4 u hu) hz) (stO.new hv (bs_alloc (Below.refl _ _))) hown hgr
  refine ⟨(hLI.new stP hz).keepE stP (r.2 _ (fun k hk => ?_)), r.1, Kp.to hK (Kp.to (Kp.of hz) (r.2 _ (fun k hk => ?_)))⟩
  · rcases hk with hz | ⟨cur, fr, h⟩
    · exact .inr (.inl hz)
    · exact .inr (.inr ⟨cur, _, fr, h, by decide⟩)
  · rcases hk with hk | rfl
    · exact .inl hk
    · exact .inr (.inl (hQ _ (Kp.to hK (Kp.of hz))))
theorem it231 : itemf 2 3 1 = 4154 := by decide
set_option maxHeartbeats 8000000 in
set_option maxRecDepth 100000 in
theorem walk_PutsVoid (a0_0 : Int) (a0_1 : Int) (a0_2 : Int) (a1 : Int) (a2 : Int) (w : World) (w0_0 : (Lit.int .i64 a0_0).wf = true) (w0_1 : (Lit.int .i64 a0_1).wf = true) (w0_2 : (Lit.int .i64 a0_2).wf = true) (w1 : (Lit.int .i64 a1).wf = true) (w2 : (Lit.int .i64 a2).wf = true) :
    Calls Tryz.prog 8 #[.agg #[.int .i64 a0_0, .int .i64 a0_1, .int .i64 a0_2], .int .i64 a1, .int .i64 a2] w fun e w' => e = .returned (.bool true) ∧ Below w.heap.size w w' := by
  clear w0_0 w0_1 w0_2 w1 w2
  go_enter Tryz.func8, Tryz.ntmps8
  go_wp2_with fail
  obtain ⟨F, hF⟩ : ∃ F, F = w.heap.size := ⟨_, rfl⟩
  generalize hW : World.alloc w _ = W
  have bW : Below w.heap.size w W := by rw [← hW]; exact (Below.refl _ _).alloc (Nat.le_refl _) _
  have f0 : W.cell? ⟨F, 0, none⟩ = some (.int .i64 a0_0) := by rw [← hW, hF]; exact new_at rfl rfl
  have f1 : W.cell? ⟨F, 1, none⟩ = some (.int .i64 a0_1) := by rw [← hW, hF]; exact new_at rfl rfl
  have f2 : W.cell? ⟨F, 2, none⟩ = some (.int .i64 a0_2) := by rw [← hW, hF]; exact new_at rfl rfl
  have HBW := Lib.hid bW
  rw [← hF]
  clear hW bW hF
  refine (begin0 _).mono ?_
  rintro e w1 ⟨A, R, S, T, rfl, hP, hST, hb1⟩
  replace f0 := (hb1.cell (p := ⟨F, 0, none⟩) (World.block_lt_of_cell? _ _ f0)).trans f0
  replace f1 := (hb1.cell (p := ⟨F, 1, none⟩) (World.block_lt_of_cell? _ _ f1)).trans f1
  replace f2 := (hb1.cell (p := ⟨F, 2, none⟩) (World.block_lt_of_cell? _ _ f2)).trans f2
  have HP := Lib.hid hP
  have HB1 := Lib.hid (below_then HBW.out hb1)
  have FF := Lib.hid (And.intro f0 (And.intro f1 f2))
  clear hP hST hb1 f0 f1 f2
  go_upto_region 7 with (fail)
  obtain ⟨P, hPq⟩ : ∃ P, P = w1.heap.size := ⟨_, rfl⟩
  generalize hX1 : World.alloc w1 _ = X1
  generalize hX2 : World.alloc X1 _ = X2
  generalize hX3 : World.alloc X2 _ = X3
  generalize hX4 : World.alloc X3 _ = X4
  generalize hX5 : World.alloc X4 _ = X5
  generalize hX6 : World.alloc X5 _ = X6
  have k16 : Below w1.heap.size w1 X6 := by rw [← hX6, ← hX5, ← hX4, ← hX3, ← hX2, ← hX1]; exact bs_alloc (bs_alloc (bs_alloc (bs_alloc (bs_alloc (bs_alloc (Below.refl _ _))))))
  have s1 : X1.heap.size = P + 1 := by rw [← hX1, hPq]; simp
  have s2 : X2.heap.size = P + 2 := by rw [← hX2]; simp [s1]
  have s3 : X3.heap.size = P + 3 := by rw [← hX3]; simp [s2]
  have s4 : X4.heap.size = P + 4 := by rw [← hX4]; simp [s3]
  have s5 : X5.heap.size = P + 5 := by rw [← hX5]; simp [s4]
  have b23 : Below X2.heap.size X2 X3 := by rw [← hX3]; exact bs_alloc (Below.refl _ _)
  have b34 : Below X3.heap.size X3 X4 := by rw [← hX4]; exact bs_alloc (Below.refl _ _)
  have b45 : Below X4.heap.size X4 X5 := by rw [← hX5]; exact bs_alloc (Below.refl _ _)
  have b56 : Below X5.heap.size X5 X6 := by rw [← hX6]; exact bs_alloc (Below.refl _ _)
  have b16 : Below X1.heap.size X1 X6 := by rw [← hX6, ← hX5, ← hX4, ← hX3, ← hX2]; exact bs_alloc (bs_alloc (bs_alloc (bs_alloc (bs_alloc (Below.refl _ _)))))
  have ov1 : OvP X2 (.pointer (some ⟨P + 1, 0, none⟩)) := .inr ⟨P + 1, 0, 0, 0, 0, 0, 0, rfl, by rw [← hX2]; exact ob_at s1.symm rfl⟩
  have ov2 : OvO X3 (.pointer (some ⟨P + 2, 0, none⟩)) := .inr ⟨P + 2, 0, 0, 0, 0, rfl, by rw [← hX3]; exact ob_at s2.symm rfl⟩
  have li : LsQ (P + 3) OvP 107 X4 (.slice (some ⟨P + 3, 0, none⟩) 2 2) 2 := by
    have := LsQ.two (e := 107) stP (B := P + 3) (by omega) (stP.new ov1 b23) (show OvP X3 (.pointer none) from .inl rfl)
    rw [s3] at this
    rw [← hX4, ← hPq]
    exact this
  have lo : LsQ (P + 3) OvO 111 X5 (.slice (some ⟨P + 4, 0, none⟩) 2 2) 2 := by
    have := LsQ.two (e := 111) stO (B := P + 3) (by omega) (stO.new ov2 b34) (show OvO X4 (.pointer none) from .inl rfl)
    rw [s4] at this
    rw [← hX5, ← hPq]
    exact this
  have HR0 := Lib.hid (show PvR (P + 3) (P + 5) X6 X6 (.slice (some ⟨P + 3, 0, none⟩) 2 2) (.slice (some ⟨P + 4, 0, none⟩) 2 2) 2 2 from ⟨li.new stP (below_then b45 b56), lo.new stO b56, Keeps.refl _ _⟩)
  have p0 : X1.cell? ⟨P, 0, none⟩ = some (.pointer (some ⟨A.p, 0, none⟩)) := by rw [← hX1, hPq]; exact new_at rfl rfl
  have p1 : X1.cell? ⟨P, 1, none⟩ = some (.pointer (some ⟨R.p, 0, none⟩)) := by rw [← hX1, hPq]; exact new_at rfl rfl
  have t0 : X6.cell? ⟨P + 5, 0, none⟩ = some (.int .i64 2) := by rw [← hX6]; exact new_at s5.symm rfl
  have t1 : X6.cell? ⟨P + 5, 1, none⟩ = some (.int .i64 3) := by rw [← hX6]; exact new_at s5.symm rfl
  have t2 : X6.cell? ⟨P + 5, 2, none⟩ = some (.int .i64 1) := by rw [← hX6]; exact new_at s5.symm rfl
  have FK : Hid (∀ X, Kp (fun k => k < P + 3 ∨ k = P + 5) X6 X → X.cell? ⟨F, 0, none⟩ = some (.int .i64 a0_0) ∧ X.cell? ⟨F, 1, none⟩ = some (.int .i64 a0_1) ∧ X.cell? ⟨F, 2, none⟩ = some (.int .i64 a0_2)) := Lib.hid (fun X hb => by
    have up : ∀ {j v}, w1.cell? ⟨F, j, none⟩ = some v → X.cell? ⟨F, j, none⟩ = some v := fun {j v} hc => by
      have hl := World.block_lt_of_cell? _ _ hc
      exact hb.cell (p := ⟨F, j, none⟩) (fun n => n (.inl (by show F < P + 3; have : F < w1.heap.size := hl; omega))) ((k16.cell (p := ⟨F, j, none⟩) hl).trans hc)
    exact ⟨up FF.out.1, up FF.out.2.1, up FF.out.2.2⟩)
  have TK : Hid (∀ X, Kp (fun k => k < P + 3 ∨ k = P + 5) X6 X → X.cell? ⟨P + 5, 0, none⟩ = some (.int .i64 2) ∧ X.cell? ⟨P + 5, 1, none⟩ = some (.int .i64 3) ∧ X.cell? ⟨P + 5, 2, none⟩ = some (.int .i64 1)) := Lib.hid (fun X hb => ⟨hb.cell (p := ⟨P + 5, 0, none⟩) (fun n => n (.inr rfl)) t0, hb.cell (p := ⟨P + 5, 1, none⟩) (fun n => n (.inr rfl)) t1, hb.cell (p := ⟨P + 5, 2, none⟩) (fun n => n (.inr rfl)) t2⟩)
  have PK : Hid (∀ X, Kp (fun k => k < P + 3 ∨ k = P + 5) X6 X → X.cell? ⟨P, 0, none⟩ = some (.pointer (some ⟨A.p, 0, none⟩)) ∧ X.cell? ⟨P, 1, none⟩ = some (.pointer (some ⟨R.p, 0, none⟩))) := Lib.hid (fun X hb => by
    have up : ∀ {j v}, X1.cell? ⟨P, j, none⟩ = some v → X.cell? ⟨P, j, none⟩ = some v := fun {j v} hc => by
      have hl := World.block_lt_of_cell? _ _ hc
      exact hb.cell (p := ⟨P, j, none⟩) (fun n => n (.inl (by show P < P + 3; omega))) ((b16.cell (p := ⟨P, j, none⟩) hl).trans hc)
    exact ⟨up p0, up p1⟩)
  have PWK : Hid (∀ X, Kp (fun k => k < P + 3 ∨ k = P + 5) X6 X → Pw X A R V10 S T ∧ Below w.heap.size w X) := Lib.hid (fun X hb => by
    refine ⟨(HP.out.new k16).keep hb (fun j s n => n (.inl ?_)) (fun j s n => n (.inl ?_)), (below_then HB1.out k16).trans (hb.to_below (B := w.heap.size) (fun k _ n => ?_) ?_)⟩
    · have := HP.out.lts j (.inl s); omega
    · have := HP.out.lts j (.inr s); omega
    · have := HB1.out.size
      exact Nat.le_of_not_lt (fun h => n (.inl (by omega)))
    · have := HB1.out.size; have := k16.size; omega)
  rw [← hPq]
  obtain ⟨sI, hsI⟩ : ∃ sI, sI = Value.slice (some ⟨P + 1 + 1 + 1, 0, none⟩) 2 2 := ⟨_, rfl⟩
  obtain ⟨sO, hsO⟩ : ∃ sO, sO = Value.slice (some ⟨P + 1 + 1 + 1 + 1, 0, none⟩) 2 2 := ⟨_, rfl⟩
  obtain ⟨Q, hQ⟩ : ∃ Q, Q = P + 5 := ⟨_, rfl⟩
  obtain ⟨B0, hB0⟩ : ∃ B0, B0 = P + 3 := ⟨_, rfl⟩
  have HR0 := Lib.hid (show PvR B0 Q X6 X6 sI sO 2 2 by rw [hsI, hsO, hQ, hB0]; exact HR0.out)
  rw [← hsI, ← hsO]
  rw [show P + 1 + 1 + 1 + 1 + 1 = Q by omega]
  rw [← hQ, ← hB0] at FK TK PK PWK
  have HQI : Hid (∀ Y, Kp (fun k => k < B0 ∨ k = Q) X6 Y → ∃ z, Y.cell? ⟨Q, 0, none⟩ = some (.int .i64 z)) := Lib.hid (fun Y hk => ⟨_, (TK.out Y hk).1⟩)
  clear hX1 hX2 hX3 hX4 hX5 hX6 k16 s1 s2 s3 s4 s5 b23 b34 b45 b56 b16 ov1 ov2 li lo p0 p1 t0 t1 t2 hPq hsI hsO hQ hB0 FF HP
  generalize X6 = X at *
  clear X1 X2 X3 X4 X5
  go_cut [38] from 19 (fun s38 wx => s38 = .bool (decide (a1 < 1 ∨ 255 < a1)) ∧ wx = X)
  case first =>
    by_cases h1 : a1 < 1
    · have d1 : decide (a1 < 1) = true := decide_eq_true h1
      go_wp2_with fail
      go_meet
      case rel => exact ⟨congrArg Value.bool (decide_eq_true (p := a1 < 1 ∨ 255 < a1) (.inl h1)).symm, rfl⟩
    · have d1 : decide (a1 < 1) = false := decide_eq_false h1
      by_cases h2 : 255 < a1
      · have d2 : decide (255 < a1) = true := decide_eq_true h2
        go_wp2_with fail
        go_meet
        case rel => exact ⟨congrArg Value.bool (decide_eq_true (p := a1 < 1 ∨ 255 < a1) (.inr h2)).symm, rfl⟩
      · have d2 : decide (255 < a1) = false := decide_eq_false h2
        go_wp2_with fail
        go_meet
        case rel => exact ⟨congrArg Value.bool (decide_eq_false (p := a1 < 1 ∨ 255 < a1) (by omega)).symm, rfl⟩
  obtain ⟨rfl, hX⟩ := hcut
  rw [hX]
  clear hX wc
  obtain ⟨B, hB⟩ : ∃ B, B = decide (a1 < 1 ∨ 255 < a1) := ⟨_, rfl⟩
  rw [← hB]
  have HBB := Lib.hid hB
  clear hB
  go_upto_if 38 with (fail)
  go_cut [12, 13] from 19 (fun s12 s13 wx => PvR B0 Q X wx s12 s13 3 2)
  case first =>
    cases B with
    | false =>
      go_wp2_with fail
      go_meet
      case rel => exact HR0.out.le (by decide) (by decide)
    | true =>
      obtain ⟨hLI, hLO, hK⟩ := HR0.out
      have CN := Lib.hid (newPut_ov 2 3 1 a1 1 X (by have : a1 < 1 ∨ 255 < a1 := of_decide_eq_true HBB.out.symm; omega))
      obtain ⟨t0, t1, t2⟩ := TK.out _ hK
      obtain ⟨g, n, cap, vs, hs, ⟨hnc, hn1, hnm⟩, hvl, hown, hall⟩ := hLI
      subst hs
      obtain ⟨i0, hi, hz0, hz1, hz2⟩ := info_parts info_pu
      have HA := Lib.hid (And.intro hown hall)
      have HZ := Lib.hid (And.intro hLO hK)
      have HN := Lib.hid (And.intro hn1 (And.intro hnm hvl))
      clear hown hall hLO hK
      go_wp2_with fail
      refine CN.out.mono ?_
      rintro e w5 ⟨q5, rfl, ov5, hq5, hb5⟩
      have hown5 := own_below HA.out.1 hb5
      have hB5 : B0 ≤ w5.heap.size := by
        have := (hown5.lt g rfl).1
        have := (hown5.lt g rfl).2
        omega
      have HOV := Lib.hid (And.intro ov5 hb5)
      clear CN ov5 hq5 hb5 t0 t1 t2
      go_wp2_with (at_builtin; refine wpList_append_own _ rfl _ _ 121 rfl B0 107 i0 (.pointer none) 1 8 Tryz.underlying121 hi hz0 hz1 hz2 rfl (by decide) _ _ _ rfl (hown5.alloc _) ⟨w5.heap.size, 0, none⟩ 1 1 [.pointer (some ⟨q5, 0, none⟩)] rfl rfl ?p1 ?p2 ?p3 ?p4 ?p5 ?_)
      case p1 =>
        intro j u hj
        match j, hj with
        | 0, hj => simp at hj; subst hj; simp [Addr.add]
        | j + 1, hj => simp at hj
      case p2 => intro u hu; simp at hu; subst hu; rfl
      case p3 => have := HN.out.2.1; unfold maxLen; omega
      case p4 => have := HN.out.2.1; omega
      case p5 => simp; omega
      intro vz wz hownz hgrow _
      have HSM := Lib.hid (pvr_put HZ.out.1 HZ.out.2 HQI.out HN.out.1 HN.out.2.1 HN.out.2.2 HA.out.1 HA.out.2 HOV.out.2 HOV.out.1 hownz hgrow)
      clear hownz hgrow hown5 HA HZ HOV hi hz0 hz1 hz2 hnc hn1 hnm hvl hB5 HN
      go_wp2_with fail
      go_meet
      case rel => exact HSM.out
  clear HR0 HBB
  have HR1 := Lib.hid hcut
  clear hcut
  generalize wc = X1 at *
  obtain ⟨c, hc⟩ : ∃ c, c = decide (a2 < 1) := ⟨_, rfl⟩
  have HC := Lib.hid hc
  go_upto_if 46 with (fail)
  try rw [← hc]
  clear hc
  go_cut [12, 13] from 19 (fun s12 s13 wx => PvR B0 Q X wx s12 s13 4 2)
  case first =>
    cases c with
    | false =>
      have hcd := HC.out.symm
      go_wp2_with fail
      go_meet
      case rel => exact HR1.out.le (by decide) (by decide)
    | true =>
      have hcd := HC.out.symm
      obtain ⟨hLI, hLO, hK⟩ := HR1.out
      have CN := Lib.hid (newPut_ov 2 3 1 1 a2 X1 (by have : a2 < 1 := of_decide_eq_true HC.out.symm; omega))
      obtain ⟨t0, t1, t2⟩ := TK.out _ hK
      obtain ⟨g, n, cap, vs, hs, ⟨hnc, hn1, hnm⟩, hvl, hown, hall⟩ := hLI
      subst hs
      obtain ⟨i0, hi, hz0, hz1, hz2⟩ := info_parts info_pu
      have HA := Lib.hid (And.intro hown hall)
      have HZ := Lib.hid (And.intro hLO hK)
      have HN := Lib.hid (And.intro hn1 (And.intro hnm hvl))
      clear hown hall hLO hK
      go_wp2_with fail
      refine CN.out.mono ?_
      rintro e w5 ⟨q5, rfl, ov5, hq5, hb5⟩
      have hown5 := own_below HA.out.1 hb5
      have hB5 : B0 ≤ w5.heap.size := by
        have := (hown5.lt g rfl).1
        have := (hown5.lt g rfl).2
        omega
      have HOV := Lib.hid (And.intro ov5 hb5)
      clear CN ov5 hq5 hb5 t0 t1 t2
      go_wp2_with (at_builtin; refine wpList_append_own _ rfl _ _ 121 rfl B0 107 i0 (.pointer none) 1 8 Tryz.underlying121 hi hz0 hz1 hz2 rfl (by decide) _ _ _ rfl (hown5.alloc _) ⟨w5.heap.size, 0, none⟩ 1 1 [.pointer (some ⟨q5, 0, none⟩)] rfl rfl ?p1 ?p2 ?p3 ?p4 ?p5 ?_)
      case p1 =>
        intro j u hj
        match j, hj with
        | 0, hj => simp at hj; subst hj; simp [Addr.add]
        | j + 1, hj => simp at hj
      case p2 => intro u hu; simp at hu; subst hu; rfl
      case p3 => have := HN.out.2.1; unfold maxLen; omega
      case p4 => have := HN.out.2.1; omega
      case p5 => simp; omega
      intro vz wz hownz hgrow _
      have HSM := Lib.hid (pvr_put HZ.out.1 HZ.out.2 HQI.out HN.out.1 HN.out.2.1 HN.out.2.2 HA.out.1 HA.out.2 HOV.out.2 HOV.out.1 hownz hgrow)
      clear hownz hgrow hown5 HA HZ HOV hi hz0 hz1 hz2 hnc hn1 hnm hvl hB5 HN
      go_wp2_with fail
      go_meet
      case rel => exact HSM.out
  clear HR1 HC
  have HR2 := Lib.hid hcut
  clear hcut
  generalize wc = X2 at *
  obtain ⟨it, hit⟩ : ∃ it, it = itemf a0_0 a0_1 a0_2 := ⟨_, rfl⟩
  have CI := Lib.hid (ritem a0_0 a0_1 a0_2 X2)
  rw [← hit] at CI
  have HIT := Lib.hid hit
  clear hit
  obtain ⟨f0, f1, f2⟩ := FK.out _ HR2.out.2.2
  go_upto_if 55 with (go_at_call 44; ((with_reducible refine CI.out.mono ?_); rintro e w4 ⟨rfl, hb4⟩))
  have HR3 := Lib.hid (HR2.out.new hb4)
  clear HR2 CI hb4 f0 f1 f2
  generalize w4 = X3 at *
  clear X2 X1
  go_cut [12, 13] from 19 (fun s12 s13 wx => PvR B0 Q X wx s12 s13 5 3)
  case first =>
    by_cases h0 : it = 0
    · have hi0 : (it == 0) = true := by simp [h0]
      have HI := Lib.hid (show itemf a0_0 a0_1 a0_2 = 0 by rw [← HIT.out]; exact h0)
      obtain ⟨hLI, hLO, hK⟩ := HR3.out
      have CN := Lib.hid (newPut_ov a0_0 a0_1 a0_2 1 1 X3 (fun h => h.1 HI.out))
      obtain ⟨f0, f1, f2⟩ := FK.out _ hK
      obtain ⟨g, n, cap, vs, hs, ⟨hnc, hn1, hnm⟩, hvl, hown, hall⟩ := hLI
      subst hs
      obtain ⟨i0, hi, hz0, hz1, hz2⟩ := info_parts info_pu
      have HA := Lib.hid (And.intro hown hall)
      have HZ := Lib.hid (And.intro hLO hK)
      have HN := Lib.hid (And.intro hn1 (And.intro hnm hvl))
      clear hown hall hLO hK
      go_wp2_with fail
      refine CN.out.mono ?_
      rintro e w5 ⟨q5, rfl, ov5, hq5, hb5⟩
      have hown5 := own_below HA.out.1 hb5
      have hB5 : B0 ≤ w5.heap.size := by
        have := (hown5.lt g rfl).1
        have := (hown5.lt g rfl).2
        omega
      have HOV := Lib.hid (And.intro ov5 hb5)
      clear CN ov5 hq5 hb5 f0 f1 f2
      go_wp2_with (at_builtin; refine wpList_append_own _ rfl _ _ 121 rfl B0 107 i0 (.pointer none) 1 8 Tryz.underlying121 hi hz0 hz1 hz2 rfl (by decide) _ _ _ rfl (hown5.alloc _) ⟨w5.heap.size, 0, none⟩ 1 1 [.pointer (some ⟨q5, 0, none⟩)] rfl rfl ?p1 ?p2 ?p3 ?p4 ?p5 ?_)
      case p1 =>
        intro j u hj
        match j, hj with
        | 0, hj => simp at hj; subst hj; simp [Addr.add]
        | j + 1, hj => simp at hj
      case p2 => intro u hu; simp at hu; subst hu; rfl
      case p3 => have := HN.out.2.1; unfold maxLen; omega
      case p4 => have := HN.out.2.1; omega
      case p5 => simp; omega
      intro vz wz hownz hgrow _
      have HR4 := Lib.hid (pvr_put HZ.out.1 HZ.out.2 HQI.out HN.out.1 HN.out.2.1 HN.out.2.2 HA.out.1 HA.out.2 HOV.out.2 HOV.out.1 hownz hgrow)
      clear hownz hgrow hown5 HA HZ HOV hi hz0 hz1 hz2 hnc hn1 hnm hvl hB5 HN
      obtain ⟨hLI, hLO, hK⟩ := HR4.out
      have CN := Lib.hid (newOut_ov a0_0 a0_1 a0_2 wz HI.out)
      obtain ⟨f0, f1, f2⟩ := FK.out _ hK
      obtain ⟨g, n, cap, vs, hs, ⟨hnc, hn1, hnm⟩, hvl, hown, hall⟩ := hLO
      subst hs
      obtain ⟨i0, hi, hz0, hz1, hz2⟩ := info_parts info_ou
      have HA := Lib.hid (And.intro hown hall)
      have HZ := Lib.hid (And.intro hLI hK)
      have HN := Lib.hid (And.intro hn1 (And.intro hnm hvl))
      clear hown hall hLI hK
      go_wp2_with fail
      refine CN.out.mono ?_
      rintro e w6 ⟨q6, rfl, ov5, hq6, hb5⟩
      have hown5 := own_below HA.out.1 hb5
      have hB5 : B0 ≤ w6.heap.size := by
        have := (hown5.lt g rfl).1
        have := (hown5.lt g rfl).2
        omega
      have HOV := Lib.hid (And.intro ov5 hb5)
      clear CN ov5 hq6 hb5 f0 f1 f2
      go_wp2_with (at_builtin; refine wpList_append_own _ rfl _ _ 122 rfl B0 111 i0 (.pointer none) 1 8 Tryz.underlying122 hi hz0 hz1 hz2 rfl (by decide) _ _ _ rfl (hown5.alloc _) ⟨w6.heap.size, 0, none⟩ 1 1 [.pointer (some ⟨q6, 0, none⟩)] rfl rfl ?p1 ?p2 ?p3 ?p4 ?p5 ?_)
      case p1 =>
        intro j u hj
        match j, hj with
        | 0, hj => simp at hj; subst hj; simp [Addr.add]
        | j + 1, hj => simp at hj
      case p2 => intro u hu; simp at hu; subst hu; rfl
      case p3 => have := HN.out.2.1; unfold maxLen; omega
      case p4 => have := HN.out.2.1; omega
      case p5 => simp; omega
      intro vy wy hownz hgrow _
      have HSM := Lib.hid (pvr_out HZ.out.1 HZ.out.2 HQI.out HN.out.1 HN.out.2.1 HN.out.2.2 HA.out.1 HA.out.2 HOV.out.2 HOV.out.1 hownz hgrow)
      clear hownz hgrow hown5 HA HZ HOV hi hz0 hz1 hz2 hnc hn1 hnm hvl hB5 HN
      go_wp2_with fail
      go_meet
      case rel => exact HSM.out
    · have hi0 : (it == 0) = false := by simp [h0]
      go_wp2_with fail
      go_meet
      case rel => exact HR3.out.le (by decide) (by decide)
  clear HR3 HIT
  have HR5 := Lib.hid hcut
  clear hcut
  generalize wc = W8 at *
  obtain ⟨⟨g, n, cap, vs, rfl, ⟨hnc, hn1, hn5⟩, hvl, hown, hall⟩, ⟨g2, n2, cap2, us, rfl, ⟨hnc2, hn12, hn52⟩, hvl2, hown2, hall2⟩, hK8⟩ := HR5.out
  have HVL := Lib.hid (And.intro hvl hvl2)
  have HLS := Lib.hid (show ∀ X', Below W8.heap.size W8 X' → (∀ i v, vs[i]? = some v → X'.cell? ⟨g, i, none⟩ = some v ∧ OvP X' v) ∧ (∀ i v, us[i]? = some v → X'.cell? ⟨g2, i, none⟩ = some v ∧ OvO X' v) ∧ X'.cell? ⟨P, 0, none⟩ = some (.pointer (some ⟨A.p, 0, none⟩)) ∧ X'.cell? ⟨P, 1, none⟩ = some (.pointer (some ⟨R.p, 0, none⟩)) from fun X' hb => ⟨fun i v hi => ⟨LsQ.at_ (own_below hown hb) hvl hi, stP.new (hall v (List.mem_of_getElem? hi)) hb⟩, fun i v hi => ⟨LsQ.at_ (own_below hown2 hb) hvl2 hi, stO.new (hall2 v (List.mem_of_getElem? hi)) hb⟩, PK.out X' (Kp.to hK8 (Kp.of hb))⟩)
  have HT8 := Lib.hid (show ∀ X', Below W8.heap.size W8 X' → (X'.cell? ⟨Q, 0, none⟩ = some (.int .i64 2) ∧ X'.cell? ⟨Q, 1, none⟩ = some (.int .i64 3) ∧ X'.cell? ⟨Q, 2, none⟩ = some (.int .i64 1)) ∧ Pw X' A R V10 S T ∧ Below w.heap.size w X' from fun X' hb => ⟨TK.out X' (Kp.to hK8 (Kp.of hb)), PWK.out X' (Kp.to hK8 (Kp.of hb))⟩)
  clear hvl hown hall hvl2 hown2 hall2 hK8 HR5 TK PK PWK FK HQI
  go_wp2_with fail
  go_loopw [15] (fun i X' => ∃ k : Nat, k ≤ n ∧ i = .int .i64 k ∧ Below W8.heap.size W8 X') (fun i _ => n - (intOf i).toNat)
  case atStart => exact ⟨0, by omega, rfl, Below.refl _ _⟩
  case round =>
    obtain ⟨k, hk, rfl, hb⟩ := hrel
    have HB := Lib.hid hb
    by_cases hlt : k < n
    · obtain ⟨v, hv⟩ : ∃ v, vs[k]? = some v := ⟨_, List.getElem?_eq_getElem (by rw [HVL.out.1]; exact hlt)⟩
      have KEEP : Hid (∀ X', Below wr.heap.size wr X' → X'.cell? ⟨g, k, none⟩ = some v ∧ X'.cell? ⟨P, 0, none⟩ = some (.pointer (some ⟨A.p, 0, none⟩)) ∧ OvP X' v) := Lib.hid (fun X' hx => by
        obtain ⟨h1, -, h3, -⟩ := HLS.out X' (below_then hb hx)
        exact ⟨(h1 k v hv).1, h3, (h1 k v hv).2⟩)
      have hb0 : Below wr.heap.size wr wr.drew := (Below.refl _ _).drew
      have hkc : k < cap := by omega
      have j0 : (0 : Int) ≤ (k : Int) := by omega
      have j1 : (k : Int) < (n : Int) := by omega
      clear hv hb
      go_wp2_with fail
      obtain ⟨s0, s1, -⟩ := KEEP.out _ hb0
      go_region_held3 (fun X' => X'.cell? ⟨g, k, none⟩ = some v ∧ X'.cell? ⟨P, 0, none⟩ = some (.pointer (some ⟨A.p, 0, none⟩)))
        (first | exact ⟨by assumption, by assumption⟩)
        (first
          | (go_at_call 45; refine (ovp_over (KEEP.out _ hb0).2.2).mono ?_; rintro e w2 ⟨rfl, rfl⟩)
          | (go_at_call 46; refine (ovp_step (KEEP.out _ hb0).2.2 _).mono ?_; rintro e w2 ⟨rfl, rfl⟩))
      all_goals
        clear s0 s1
        go_wp2_with fail
        go_roundw
        case rel => exact ⟨k + 1, by omega, by go_num, below_then HB.out hb0⟩
        case measure => simp [intOf]; omega
    · obtain rfl : n = k := by omega
      clear hb
      go_wp2_with fail
      go_loopw [16] (fun i X' => ∃ k : Nat, k ≤ n2 ∧ i = .int .i64 k ∧ Below W8.heap.size W8 X') (fun i _ => n2 - (intOf i).toNat)
      case atStart => exact ⟨0, by omega, rfl, HB.out⟩
      case round =>
        clear HB
        obtain ⟨k2, hk2, rfl, hb⟩ := hrel
        have HB := Lib.hid hb
        by_cases hlt2 : k2 < n2
        · obtain ⟨v, hv⟩ : ∃ v, us[k2]? = some v := ⟨_, List.getElem?_eq_getElem (by rw [HVL.out.2]; exact hlt2)⟩
          have KEEP : Hid (∀ X', Below wr.heap.size wr X' → X'.cell? ⟨g2, k2, none⟩ = some v ∧ X'.cell? ⟨P, 0, none⟩ = some (.pointer (some ⟨A.p, 0, none⟩)) ∧ OvO X' v) := Lib.hid (fun X' hx => by
            obtain ⟨-, h1, h3, -⟩ := HLS.out X' (below_then hb hx)
            exact ⟨(h1 k2 v hv).1, h3, (h1 k2 v hv).2⟩)
          have hb0 : Below wr.heap.size wr wr.drew := (Below.refl _ _).drew
          have hkc : k2 < cap2 := by omega
          have j0 : (0 : Int) ≤ (k2 : Int) := by omega
          have j1 : (k2 : Int) < (n2 : Int) := by omega
          clear hv hb
          go_wp2_with fail
          obtain ⟨s0, s1, -⟩ := KEEP.out _ hb0
          go_region_held3 (fun X' => X'.cell? ⟨g2, k2, none⟩ = some v ∧ X'.cell? ⟨P, 0, none⟩ = some (.pointer (some ⟨A.p, 0, none⟩)))
            (first | exact ⟨by assumption, by assumption⟩)
            (first
              | (go_at_call 47; refine (ovo_over (KEEP.out _ hb0).2.2).mono ?_; rintro e w2 ⟨rfl, rfl⟩)
              | (go_at_call 48; refine (ovo_step (KEEP.out _ hb0).2.2 _).mono ?_; rintro e w2 ⟨rfl, rfl⟩)
              | (go_at_call 49; refine (ovo_gone (KEEP.out _ hb0).2.2).mono ?_; rintro e w2 ⟨rfl, rfl⟩))
          all_goals
            clear s0 s1
            go_wp2_with fail
            go_roundw
            case rel => exact ⟨k2 + 1, by omega, by go_num, below_then HB.out hb0⟩
            case measure => simp [intOf]; omega
        · obtain rfl : n2 = k2 := by omega
          clear hb
          obtain ⟨⟨t0, t1, t2⟩, -⟩ := HT8.out _ HB.out
          go_wp2_with fail
          refine (newPut 2 3 1 1 1 _ (z := 3) (by decide)).mono ?_
          rintro e w9 ⟨q, rfl, ho, -, hb9⟩
          have HB9 := Lib.hid (below_then HB.out hb9)
          have HO9 := Lib.hid ho
          clear ho hb9 t0 t1 t2
          obtain ⟨⟨t0, t1, t2⟩, -⟩ := HT8.out _ HB9.out
          go_wp2_with fail
          refine (newOut 2 3 1 _ (z := 3) (by decide)).mono ?_
          rintro e w10 ⟨q2, rfl, ho2, -, hb10⟩
          have HB10 := Lib.hid (below_then HB9.out hb10)
          have HO2 := Lib.hid ho2
          have HO1 := Lib.hid (HO9.out.new hb10)
          clear ho2 hb10 t0 t1 t2
          obtain ⟨-, -, s0, s1⟩ := HLS.out _ HB10.out
          have PW10 := Lib.hid (HT8.out _ HB10.out).2.1
          have HBE := Lib.hid (HT8.out _ HB10.out).2.2
          go_wp2_with (first
            | (go_at_call 46; refine (pu_step_no HO1.out (by decide)).mono ?_; rintro e w11 ⟨rfl, rfl⟩)
            | (go_at_call 45; refine (pu_over (o := false) HO1.out (by decide)).mono ?_; rintro e w11 ⟨rfl, rfl⟩)
            | (go_at_call 48; refine (ou_step_no HO2.out (by decide)).mono ?_; rintro e w11 ⟨rfl, rfl⟩)
            | (go_at_call 47; refine (ou_over (o := false) HO2.out (by decide)).mono ?_; rintro e w11 ⟨rfl, rfl⟩)
            | (go_at_call 49; refine (ou_gone HO2.out).mono ?_; rintro e w11 ⟨rfl, rfl⟩)
            | (go_at_call 13; refine (pw_all PW10.out rfl (by decide) (by decide)).mono ?_; rintro e w11 ⟨rfl, hk11⟩; have hd1 := below_then HBE.out hk11; clear hk11)
            | (go_at_call 37; refine (lives13 _).mono ?_; rintro e w12 ⟨rfl, hk12⟩; have hd2 := below_then hd1 hk12; clear hk12))
          go_ret
          exact ⟨rfl, hd2⟩
end Go.Proofs.YthlebfiedejhhaaGreat
