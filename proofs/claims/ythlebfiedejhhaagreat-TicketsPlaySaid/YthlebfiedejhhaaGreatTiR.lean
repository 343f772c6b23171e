/- The chapter's Takes and Gives: what they are at first; their steps beside a pair. -/
import Derived.Test.YthlebfiedejhhaaGreatGPo
import Derived.Test.YthlebfiedejhhaaGreatTi5
import Derived.Deep.Cut
import Derived.Deep.RegionHeld3
namespace Go.Proofs.YthlebfiedejhhaaGreat
open Go.RowKit Go.Maps
set_option linter.unusedVariables false
/-- The chapter's Take. -/
def rtC (ln tick : Int) (is : Bool) (t : Int) : List Value := [.int .i64 ln, .int .u64 tick, .bool is, .int .i64 t]
theorem rnewTake (t : Int) (h0 : 0 ≤ t) (h1 : t < 64) (w : World) : Calls Tryz.prog 18 #[.int .i64 t] w (NwOb w (rtC 1 0 false t)) := by
  have d0 : decide (t < 0) = false := decide_eq_false (by omega)
  have d1 : decide (63 < t) = false := decide_eq_false (by omega)
  go_enter Tryz.func18, Tryz.ntmps18
  go_wp2_with fail
  go_ret
  exact nwOb (ob_at rfl rfl) (Nat.le_refl _) (bs_alloc (Below.refl _ _))
theorem rnewGive (w : World) : Calls Tryz.prog 20 #[] w (NwOb w [.int .i64 1]) := by
  go_enter Tryz.func20, Tryz.ntmps20
  go_wp2_with fail
  go_ret
  exact nwOb (ob_at rfl rfl) (Nat.le_refl _) (bs_alloc (Below.refl _ _))
section
variable {G : Nat → Prop} {w : World} {A R : Ad} {V V2 : Wv} {q : Nat} {tick : Int} {is : Bool}
/-- A store into the chapter's world's own block. -/
theorem Hf.rsetbox {V2' : Wv} (h : Hf G w A R V V2) (o : Nat) (u : Value) (hb : IsBox w R V2.c V2.tk V2.h → IsBox (w.setCell ⟨R.p, o, none⟩ u) R V2'.c V2'.tk V2'.h) (hV : V2'.f = V2.f ∧ V2'.cnt = V2.cnt ∧ V2'.k = V2.k ∧ V2'.a = V2.a ∧ V2'.x = V2.x ∧ V2'.y = V2.y ∧ V2'.I = V2.I ∧ V2'.M = V2.M) : Hf G (w.setCell ⟨R.p, o, none⟩ u) A R V V2' ∧ Kp G w (w.setCell ⟨R.p, o, none⟩ u) := by
  obtain ⟨S, T, L, h1, ⟨⟨TC, TI, TN, r⟩, hl, hn⟩, c, hd, hg, hlt⟩ := h
  obtain ⟨e1, e2, e3, e4, e5, e6, e7, e8⟩ := hV
  have hk : Keeps (fun j => j = R.p) w (w.setCell ⟨R.p, o, none⟩ u) := Keeps.setCell (S := fun j => j = R.p) (Keeps.refl _ w) (p := ⟨R.p, o, none⟩) (.inl rfl) u
  refine ⟨⟨S, T, L, h1.keep hk (fun k s e => hd k s (e ▸ r.here)), ⟨⟨TC, TI, TN, hb r.box, ?_, ?_, ?_, r.here, r.tc, r.ti, r.tn, fun k s => Nat.lt_of_lt_of_le (r.lt k s) hk.size⟩, by rw [e1]; exact hl, by rw [e2]; exact hn⟩, ⟨by rw [e2]; exact c.1, by rw [e1]; exact c.2⟩, hd, hg, fun k g => Nat.lt_of_lt_of_le (hlt k g) hk.size⟩, Keeps.setCell (S := fun k => ¬ G k) (Keeps.refl _ w) (p := ⟨R.p, o, none⟩) (.inl (fun g => hg _ g (.inr r.here))) u⟩
  · rw [e2, e3, e4, e5, e6]
    exact r.cel.keep hk (fun k s e => (r.tc k s).2.1 e)
  · rw [e7]
    exact r.it.keep hk (fun k s e => (r.ti k s).2.1 e)
  · rw [e8]
    exact r.nt.keep hk (fun k s e => (r.tn k s).2 e)
theorem Hf.rtkset (h : Hf G w A R V V2) (t : Nat) (ht : t < 64) (v : Int) : Hf G (w.setCell ⟨R.p, 8 + t, none⟩ (.int .u64 v)) A R V (V2.tkset t v) ∧ Kp G w (w.setCell ⟨R.p, 8 + t, none⟩ (.int .u64 v)) :=
  h.rsetbox (V2' := V2.tkset t v) _ _ (fun b => b.tkset t ht v) ⟨rfl, rfl, rfl, rfl, rfl, rfl, rfl, rfl⟩
theorem Hf.rhset (h : Hf G w A R V V2) (v : Int) : Hf G (w.setCell ⟨R.p, 72, none⟩ (.int .i64 v)) A R V (V2.hset v) ∧ Kp G w (w.setCell ⟨R.p, 72, none⟩ (.int .i64 v)) :=
  h.rsetbox (V2' := V2.hset v) _ _ (fun b => b.hset v) ⟨rfl, rfl, rfl, rfl, rfl, rfl, rfl, rfl⟩
set_option maxHeartbeats 1000000 in
set_option maxRecDepth 100000 in
theorem rt_step1 {n : Nat} (hn : n < 64) (h : Hf G w A R V V2) (hq : G q) (ho : Ob w q (rtC 1 tick is n)) (hc : V2.cnt < 100000000) {z u : Int} (hz : V2.f 0 = z) (hu : IntKind.u64.wrap (z + 1) = u) :
    Calls Tryz.prog 90 #[.pointer (some ⟨q, 0, none⟩), .pointer (some ⟨R.p, 0, none⟩)] w (RoP G A R V ((V2.acc (upd V2.f 0 u) 4 0 z u).tkset n u) q (rtC 2 z true n) w) := by
  subst hz
  have C := Lib.hid (h.radd (a := 0) (v := 1) hc ⟨by decide, by decide⟩ hu)
  have HU := Lib.hid hu
  have HG := Lib.hid hq
  have c0 := ho.at_ 0 _ rfl
  have HO := Lib.hid ho
  generalize hz : V2.f 0 = z at *
  generalize hV1 : V2.acc (upd V2.f 0 u) 4 0 z u = V1 at *
  clear hV1 h hq ho hz hu
  go_enter Tryz.func90, Tryz.ntmps90
  go_wp2_with fail
  refine C.out.mono ?_
  rintro e w1 ⟨rfl, h1, k1⟩
  have o1 := HO.out.keep k1 (fun n => n HG.out)
  have d1 := o1.at_ 1 _ rfl
  have f1 := o1.fz 1 (by simp [rtC])
  obtain ⟨h2, k2⟩ := Hf.set (i := 1) h1 HG.out (.int .u64 z)
  have H2 := Lib.hid h2
  have O2 := Lib.hid (o1.set 1 (.int .u64 z) (by simp [rtC]) (C' := rtC 1 z is n) rfl)
  have K2 := Lib.hid (Kp.to (k1.less (fun j g => g.1)) k2)
  clear h1 k1 h2 k2 c0 o1 C HO
  go_upto_region 3 with (fail)
  generalize hW2 : World.setCell w1 _ _ = W2 at *
  clear hW2 d1 f1
  have d2 := O2.out.at_ 2 _ rfl
  have f2 := O2.out.fz 2 (by simp [rtC])
  obtain ⟨h3, k3⟩ := Hf.set (i := 2) H2.out HG.out (.bool true)
  have H3 := Lib.hid h3
  have O3 := Lib.hid (O2.out.set 2 (.bool true) (by simp [rtC]) (C' := rtC 1 z true n) rfl)
  have K3 := Lib.hid (Kp.to K2.out k3)
  clear h3 k3 H2 O2 K2
  go_upto_region 4 with (fail)
  generalize hW3 : World.setCell W2 _ _ = W3 at *
  clear hW3 d2 f2
  have d0 : W3.drew.cell? ⟨q, 3, none⟩ = some (.int .i64 n) := O3.out.at_ 3 _ rfl
  have d1 : W3.drew.cell? ⟨q, 1, none⟩ = some (.int .u64 z) := O3.out.at_ 1 _ rfl
  have b0 := H3.out.rbox.ct n hn
  have bf := H3.out.rbox.fz (8 + n) (by omega)
  generalize V1.tk n = old at b0
  have b1 : W3.drew.cell? ⟨R.p, 8 + n, none⟩ = some (.int .u64 old) := b0
  have bg : W3.drew.frozen? ⟨R.p, 8 + n, none⟩ = false := bf
  have n0 : (0 : Int) ≤ (n : Int) := by omega
  have n6 : (n : Int) < 64 := by omega
  have hu := HU.out
  have hne : R.p ≠ q := fun e => H3.out.ar.2 (e ▸ HG.out)
  obtain ⟨h4, k4⟩ := H3.out.rtkset n hn u
  have H4 := Lib.hid (h4.new (Below.refl _ _).drew)
  have O4 := Lib.hid ((O3.out.keep k4 (fun n => n HG.out)).new (Below.refl _ _).drew)
  have K4 := Lib.hid (Kp.to (Kp.to K3.out (k4.less (fun j g => g.1))) (Kp.of (Below.refl _ _).drew))
  clear h4 k4 H3 O3 K3
  go_region_held3 (fun X => X.cell? ⟨q, 3, none⟩ = some (.int .i64 n) ∧ X.cell? ⟨q, 1, none⟩ = some (.int .u64 z))
    (first | exact ⟨by assumption, by assumption⟩ | exact ⟨(World.cell?_setCell_other _ ⟨R.p, 8 + n, none⟩ ⟨q, 3, none⟩ _ (by intro e; injection e with e _; exact hne e)).trans d0, (World.cell?_setCell_other _ ⟨R.p, 8 + n, none⟩ ⟨q, 1, none⟩ _ (by intro e; injection e with e _; exact hne e)).trans d1⟩)
    (fail)
  generalize hW4 : World.drew (World.setCell W3 _ _) = W4 at *
  clear hW4 d0 d1 b0 b1 bf bg hu hne
  have d3 := O4.out.at_ 0 _ rfl
  have f3 := O4.out.fz 0 (by simp [rtC])
  obtain ⟨h5, k5⟩ := Hf.set (i := 0) H4.out HG.out (.int .i64 2)
  have H5 := Lib.hid h5
  have O5 := Lib.hid (O4.out.set 0 (.int .i64 2) (by simp [rtC]) (C' := rtC 2 z true n) rfl)
  have K5 := Lib.hid (Kp.to K4.out k5)
  clear h5 k5 H4 O4 K4
  go_wp2_with fail
  go_end0
  exact ⟨rfl, H5.out, O5.out, K5.out⟩
set_option maxHeartbeats 1000000 in
set_option maxRecDepth 100000 in
theorem rt_step2n {t : Int} (h : Hf G w A R V V2) (hq : G q) (ho : Ob w q (rtC 2 tick is t)) (hc : V2.cnt < 100000000) {s : Int} (hs : V2.f 1 = s) (hn : (s == tick) = false) :
    Calls Tryz.prog 90 #[.pointer (some ⟨q, 0, none⟩), .pointer (some ⟨R.p, 0, none⟩)] w (RoP G A R V (V2.acc V2.f 1 1 s s) q (rtC 2 tick is t) w) := by
  subst hs
  have hd := (Below.refl w.heap.size w).drew
  have C := Lib.hid ((h.new hd).rload (a := 1) hc ⟨by decide, by decide⟩)
  have HG := Lib.hid hq
  have c0 := ho.at_ 0 _ rfl
  have c1 : w.drew.cell? ⟨q, 1, none⟩ = some (.int .u64 tick) := ho.at_ 1 _ rfl
  have HO := Lib.hid (ho.new hd)
  generalize hz : V2.f 1 = s at *
  generalize hV1 : V2.acc V2.f 1 1 s s = V1 at *
  clear hV1 h hq ho hz
  go_enter Tryz.func90, Tryz.ntmps90
  go_wp2_with fail
  go_region_held3 (fun X => X.cell? ⟨q, 1, none⟩ = some (.int .u64 tick))
    (first | assumption)
    (first | (go_at_call 73; ((with_reducible refine C.out.mono ?_); rintro e w1 ⟨rfl, h1, k1⟩; have H1 := Lib.hid h1; have O1 := Lib.hid (HO.out.keep k1 (fun n => n HG.out)); have K1 := Lib.hid (Kp.to (Kp.of hd) (k1.less (G' := fun j => G j ∧ j ≠ q) (fun j g => g.1))); clear c0 c1; have c1 := O1.out.at_ 1 _ rfl)))
  all_goals
    go_wp2_with fail
    exact bodyPost_ret (v := .tuple #[]) (by simp [results, Tryz.results90, go_sem]) rfl ⟨rfl, H1.out, O1.out, K1.out⟩
set_option maxHeartbeats 1000000 in
set_option maxRecDepth 100000 in
theorem rt_step2 {n : Nat} (hn : n < 64) (h : Hf G w A R V V2) (hq : G q) (ho : Ob w q (rtC 2 tick is n)) (hc : V2.cnt < 100000000) (hs : V2.f 1 = tick) :
    Calls Tryz.prog 90 #[.pointer (some ⟨q, 0, none⟩), .pointer (some ⟨R.p, 0, none⟩)] w (RoP G A R V (((V2.acc V2.f 1 1 tick tick).tkset n 0).hset n) q (rtC 0 tick is n) w) := by
  subst hs
  have hd := (Below.refl w.heap.size w).drew
  have C := Lib.hid ((h.new hd).rload (a := 1) hc ⟨by decide, by decide⟩)
  have HG := Lib.hid hq
  have c0 := ho.at_ 0 _ rfl
  have HO := Lib.hid (ho.new hd)
  generalize hz : V2.f 1 = s at *
  generalize hV1 : V2.acc V2.f 1 1 s s = V1 at *
  have c1 : w.drew.cell? ⟨q, 1, none⟩ = some (.int .u64 s) := ho.at_ 1 _ rfl
  have hss : (s == s) = true := by simp
  clear hV1 h hq ho hz
  go_enter Tryz.func90, Tryz.ntmps90
  go_wp2_with fail
  go_region_held3 (fun X => X.cell? ⟨q, 1, none⟩ = some (.int .u64 s))
    (first | assumption)
    (first | (go_at_call 73; ((with_reducible refine C.out.mono ?_); rintro e w1 ⟨rfl, h1, k1⟩; have H1 := Lib.hid h1; have O1 := Lib.hid (HO.out.keep k1 (fun n => n HG.out)); have K1 := Lib.hid (Kp.to (Kp.of hd) (k1.less (G' := fun j => G j ∧ j ≠ q) (fun j g => g.1))); clear c0 c1; have c1 := O1.out.at_ 1 _ rfl)))
  clear c1 hss
  go_upto_region 8 with (fail)
  have d0 : w1.drew.cell? ⟨q, 3, none⟩ = some (.int .i64 n) := O1.out.at_ 3 _ rfl
  have b0 := H1.out.rbox.ct n hn
  have bf := H1.out.rbox.fz (8 + n) (by omega)
  generalize V1.tk n = old at b0
  have b1 : w1.drew.cell? ⟨R.p, 8 + n, none⟩ = some (.int .u64 old) := b0
  have bg : w1.drew.frozen? ⟨R.p, 8 + n, none⟩ = false := bf
  have n0 : (0 : Int) ≤ (n : Int) := by omega
  have n6 : (n : Int) < 64 := by omega
  have hne : R.p ≠ q := fun e => H1.out.ar.2 (e ▸ HG.out)
  obtain ⟨h4, k4⟩ := H1.out.rtkset n hn 0
  have H4 := Lib.hid (h4.new (Below.refl _ _).drew)
  have O4 := Lib.hid ((O1.out.keep k4 (fun n => n HG.out)).new (Below.refl _ _).drew)
  have K4 := Lib.hid (Kp.to (Kp.to K1.out (k4.less (fun j g => g.1))) (Kp.of (Below.refl _ _).drew))
  clear h4 k4 H1 O1 K1 HO C hd
  go_region_held3 (fun X => X.cell? ⟨q, 3, none⟩ = some (.int .i64 n))
    (first | assumption | exact (World.cell?_setCell_other _ ⟨R.p, 8 + n, none⟩ ⟨q, 3, none⟩ _ (by intro e; injection e with e _; exact hne e)).trans d0)
    (fail)
  generalize hW4 : World.drew (World.setCell w1 _ _) = W4 at *
  clear hW4 d0 b0 b1 bf bg hne n0 n6
  have c3 := O4.out.at_ 3 _ rfl
  have ch := H4.out.rbox.ch
  have cf := H4.out.rbox.fz 72 (by decide)
  obtain ⟨h5, k5⟩ := H4.out.rhset n
  have H5 := Lib.hid h5
  have O5 := Lib.hid (O4.out.keep k5 (fun n => n HG.out))
  have K5 := Lib.hid (Kp.to K4.out (k5.less (fun j g => g.1)))
  clear h5 k5 H4 O4 K4
  go_upto_region 10 with (fail)
  generalize hW5 : World.setCell W4 _ _ = W5 at *
  clear hW5 c3 ch cf
  have d3 := O5.out.at_ 0 _ rfl
  have f3 := O5.out.fz 0 (by simp [rtC])
  obtain ⟨h6, k6⟩ := Hf.set (i := 0) H5.out HG.out (.int .i64 0)
  have H6 := Lib.hid h6
  have O6 := Lib.hid (O5.out.set 0 (.int .i64 0) (by simp [rtC]) (C' := rtC 0 s is n) rfl)
  have K6 := Lib.hid (Kp.to K5.out k6)
  clear h6 k6 H5 O5 K5
  go_wp2_with fail
  go_end0
  exact ⟨rfl, H6.out, O6.out, K6.out⟩
theorem rt_step0 {t : Int} (h : Hf G w A R V V2) (ho : Ob w q (rtC 0 tick is t)) :
    Calls Tryz.prog 90 #[.pointer (some ⟨q, 0, none⟩), .pointer (some ⟨R.p, 0, none⟩)] w (RoP G A R V V2 q (rtC 0 tick is t) w) := by
  have c0 := ho.at_ 0 _ rfl
  have HH := Lib.hid (And.intro h ho)
  clear h ho
  go_enter Tryz.func90, Tryz.ntmps90
  go_wp2_with fail
  exact bodyPost_ret (v := .tuple #[]) (by simp [results, Tryz.results90, go_sem]) rfl ⟨rfl, HH.out.1, HH.out.2, Keeps.refl _ _⟩
set_option maxHeartbeats 1000000 in
set_option maxRecDepth 100000 in
theorem rg_step1 (h : Hf G w A R V V2) (hq : G q) (ho : Ob w q [.int .i64 1]) (hc : V2.cnt < 100000000) {z u : Int} (hz : V2.f 1 = z) (hu : IntKind.u64.wrap (z + 1) = u) :
    Calls Tryz.prog 89 #[.pointer (some ⟨q, 0, none⟩), .pointer (some ⟨R.p, 0, none⟩)] w (RoP G A R V ((V2.acc (upd V2.f 1 u) 4 1 z u).hset (-1)) q [.int .i64 0] w) := by
  subst hz
  have C := Lib.hid (h.radd (a := 1) (v := 1) hc ⟨by decide, by decide⟩ hu)
  have HG := Lib.hid hq
  have c0 := ho.at_ 0 _ rfl
  have HO := Lib.hid ho
  generalize hz : V2.f 1 = z at *
  generalize hV1 : V2.acc (upd V2.f 1 u) 4 1 z u = V1 at *
  clear hV1 h hq ho hz hu
  go_enter Tryz.func89, Tryz.ntmps89
  go_wp2_with fail
  refine C.out.mono ?_
  rintro e w1 ⟨rfl, h1, k1⟩
  have ch := h1.rbox.ch
  have cf := h1.rbox.fz 72 (by decide)
  obtain ⟨h2, k2⟩ := h1.rhset (-1)
  have H2 := Lib.hid h2
  have O2 := Lib.hid ((HO.out.keep k1 (fun n => n HG.out)).keep k2 (fun n => n HG.out))
  have K2 := Lib.hid ((Kp.to k1 k2).less (G' := fun j => G j ∧ j ≠ q) (fun j g => g.1))
  clear h1 k1 h2 k2 c0 C HO
  go_upto_region 3 with (fail)
  generalize hW2 : World.setCell w1 _ _ = W2 at *
  clear hW2 ch cf
  have d3 := O2.out.at_ 0 _ rfl
  have f3 := O2.out.fz 0 (by simp)
  obtain ⟨h6, k6⟩ := Hf.set (i := 0) H2.out HG.out (.int .i64 0)
  have H6 := Lib.hid h6
  have O6 := Lib.hid (O2.out.set 0 (.int .i64 0) (by simp) (C' := [.int .i64 0]) rfl)
  have K6 := Lib.hid (Kp.to K2.out k6)
  clear h6 k6 H2 O2 K2
  go_wp2_with fail
  go_end0
  exact ⟨rfl, H6.out, O6.out, K6.out⟩
theorem rg_step0 (h : Hf G w A R V V2) (ho : Ob w q [.int .i64 0]) :
    Calls Tryz.prog 89 #[.pointer (some ⟨q, 0, none⟩), .pointer (some ⟨R.p, 0, none⟩)] w (RoP G A R V V2 q [.int .i64 0] w) := by
  have c0 := ho.at_ 0 _ rfl
  have HH := Lib.hid (And.intro h ho)
  clear h ho
  go_enter Tryz.func89, Tryz.ntmps89
  go_wp2_with fail
  first
    | (go_end0; exact ⟨rfl, HH.out.1, HH.out.2, Keeps.refl _ _⟩)
    | exact bodyPost_ret (v := .tuple #[]) (by simp [results, Tryz.results89, go_sem]) rfl ⟨rfl, HH.out.1, HH.out.2, Keeps.refl _ _⟩
end
end Go.Proofs.YthlebfiedejhhaaGreat
