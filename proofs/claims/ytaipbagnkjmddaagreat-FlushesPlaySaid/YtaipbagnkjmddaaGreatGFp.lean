/- Tickets: what else is asked; tickets that go round. -/
import Derived.Test.YtaipbagnkjmddaaGreatTi4
import Derived.Test.YtaipbagnkjmddaaGreatGPo
import Derived.Deep.Cut
import Derived.Deep.RegionHeld3
import Derived.Test.YtaipbagnkjmddaaGreatGFl
import Derived.Test.YtaipbagnkjmddaaGreatEpRef
import Derived.Deep.QuietTactic
import Derived.BigQuiet
import Derived.Test.YtaipbagnkjmddaaGreatGBg
import Derived.Test.YtaipbagnkjmddaaGreatGPw
namespace Go.Proofs.YtaipbagnkjmddaaGreat
open Go.RowKit Go.Maps
set_option linter.unusedVariables false
section
variable {G : Nat → Prop} {w : World} {A : Ad} {V : Wv} {q : Nat} {C : List Value} {t tick : Int}
theorem Opw.last (h : Opw G w A V q C) {k : Int} (hk : V.k = k) : Calls Tryz.prog 52 #[.pointer (some ⟨A.pc, 0, none⟩)] w fun e w' => e = .returned (.agg #[.int .u8 k, .int .u64 V.a, .int .u64 V.x, .int .u64 V.y]) ∧ Below w.heap.size w w' := by
  subst hk
  obtain ⟨S, ⟨n, SC, SI, SN, ha⟩, -⟩ := h
  exact last_any ha.cel
theorem Opw.steps (h : Opw G w A V q C) {c : Int} (hc : V.cnt = c) : Calls Tryz.prog 51 #[.pointer (some ⟨A.p, 0, none⟩)] w fun e w' => e = .returned (.int .i64 c) ∧ w = w' := by
  subst hc
  obtain ⟨S, h1, -⟩ := h
  exact wsteps h1
theorem Opw.peekv (h : Opw G w A V q C) {a v : Int} (ha : isU a) (hv : V.f a = v) : Calls Tryz.prog 21 #[.pointer (some ⟨A.pc, 0, none⟩), .int .u64 a] w fun e w' => e = .returned (.int .u64 v) ∧ w = w' := hv ▸ h.peek ha
end
/-- Tickets, as they go round. -/
def tkt (F : Int) (k : Nat) : Int := (F + k) % 18446744073709551616
theorem tkt_U (F : Int) (k : Nat) : isU (tkt F k) := by unfold tkt isU; omega
theorem tkt_0 {F : Int} (h : isU F) : tkt F 0 = F := by unfold tkt isU at *; omega
theorem tkt_s (F : Int) (k : Nat) : IntKind.u64.wrap (tkt F k + 1) = tkt F (k + 1) := by rw [IntKind.wrap_u64]; unfold tkt; omega
theorem tkt_p (F : Int) (k : Nat) : IntKind.u64.wrap (tkt F (k + 1) - 1) = tkt F k := by rw [IntKind.wrap_u64]; unfold tkt; omega
theorem tkt_add (F : Int) (k : Nat) : IntKind.u64.wrap (F + k) = tkt F k := by rw [IntKind.wrap_u64]; rfl
theorem tkt_ne {F : Int} {k n : Nat} (h : k < n) (hn : n ≤ 100) : tkt F n ≠ tkt F k := by unfold tkt; omega
theorem tkt_top {F : Int} {n : Nat} (h : tkt F (n + 1) = 0) : tkt F n = 18446744073709551615 := by unfold tkt at *; omega
/-- Tickets are drawn. -/
structure Tq1 (G : Nat → Prop) (w : World) (A : Ad) (V : Wv) (F : Int) (k : Nat) : Prop where
  wd : WdG G w A V
  f0 : V.f 0 = tkt F k
  f1 : V.f 1 = F
  t40 : V.tk 40 = 0
  cnt : V.cnt = (k : Int) + 2
  h : V.h = -1
def Tq1.v (V : Wv) (F : Int) (k : Nat) : Wv := (V.acc (upd V.f 0 (tkt F (k + 1))) 4 0 (tkt F k) (tkt F (k + 1))).tkset k (tkt F (k + 1))
/-- One more of them. -/
theorem Tq1.step {G : Nat → Prop} {w : World} {A : Ad} {V : Wv} {F : Int} {k : Nat} (h : Tq1 G w A V F k) (hk : k < 40) {W : World} {q : Nat} (ho : Opw G W A V q (tkC k 0 false (mV 83 q))) :
    Calls Tryz.prog 36 #[.pointer (some ⟨q, 0, none⟩), .pointer (some ⟨A.p, 0, none⟩)] W fun e w' => e = .returned (.bool false) ∧ (∃ V', Tq1 G w' A V' F (k + 1)) ∧ Kp G W w' := by
  refine (tk_step1 (n := k) (by omega) ho (by rw [h.cnt]; omega) h.f0 (tkt_s F k)).mono ?_
  rintro e w' ⟨rfl, h1, k1⟩
  refine ⟨rfl, ⟨_, h1.wd, ?_, ?_, ?_, ?_, h.h⟩, k1⟩
  · show upd V.f 0 (tkt F (k + 1)) 0 = _
    exact upd_same _ _ _
  · show upd V.f 0 (tkt F (k + 1)) 1 = _
    exact (upd_other (by decide)).trans h.f1
  · show tkU V.tk k _ 40 = 0
    unfold tkU
    rw [if_neg (by omega)]
    exact h.t40
  · show V.cnt + 1 = _
    rw [h.cnt]; simp; omega
/-- One waits. -/
structure Tq2 (G : Nat → Prop) (w : World) (A : Ad) (V : Wv) (q : Nat) (F : Int) (n k : Nat) : Prop where
  op : Opw G w A V q (tkC 40 (tkt F n) true (mV 116 q))
  f0 : V.f 0 = tkt F (n + 1)
  f1 : V.f 1 = tkt F k
  t40 : V.tk 40 = tkt F (n + 1)
  cnt : 0 ≤ V.cnt ∧ V.cnt ≤ 100 + 2 * (k : Int)
  h : V.h = -1
theorem Tq2.new {G : Nat → Prop} {w W : World} {A : Ad} {V : Wv} {q : Nat} {F : Int} {n k : Nat} (h : Tq2 G w A V q F n k) (hb : Below w.heap.size w W) : Tq2 G W A V q F n k :=
  ⟨h.op.new hb, h.f0, h.f1, h.t40, h.cnt, h.h⟩
theorem Tq1.last {G : Nat → Prop} {w : World} {A : Ad} {V : Wv} {F : Int} {n : Nat} (h : Tq1 G w A V F n) (hn : n ≤ 31) (hF : isU F) {W : World} {q : Nat} (ho : Opw G W A V q (tkC 40 0 false (mV 83 q))) :
    Calls Tryz.prog 36 #[.pointer (some ⟨q, 0, none⟩), .pointer (some ⟨A.p, 0, none⟩)] W fun e w' => e = .returned (.bool false) ∧ (∃ V', Tq2 G w' A V' q F n 0) ∧ Kp G W w' := by
  refine (tk_step1 (n := 40) (by decide) ho (by rw [h.cnt]; omega) h.f0 (tkt_s F n)).mono ?_
  rintro e w' ⟨rfl, h1, k1⟩
  refine ⟨rfl, ⟨_, h1, ?_, ?_, ?_, ?_, h.h⟩, k1⟩
  · show upd V.f 0 (tkt F (n + 1)) 0 = _
    exact upd_same _ _ _
  · rw [tkt_0 hF]
    show upd V.f 0 (tkt F (n + 1)) 1 = _
    exact (upd_other (by decide)).trans h.f1
  · show tkU V.tk 40 _ 40 = _
    exact if_pos rfl
  · show 0 ≤ V.cnt + 1 ∧ V.cnt + 1 ≤ _
    rw [h.cnt]
    constructor
    · omega
    · simp; omega
/-- A step while it waits. -/
structure Tq3 (G : Nat → Prop) (w : World) (A : Ad) (V : Wv) (q : Nat) (F : Int) (n k : Nat) (c : Int) : Prop where
  b : Tq2 G w A V q F n k
  k1 : V.k = 1
  c1 : V.cnt = c + 1
theorem Tq2.miss {G : Nat → Prop} {w : World} {A : Ad} {V : Wv} {q : Nat} {F : Int} {n k : Nat} (h : Tq2 G w A V q F n k) (hk : k < n) (hn : n ≤ 31) :
    Calls Tryz.prog 36 #[.pointer (some ⟨q, 0, none⟩), .pointer (some ⟨A.p, 0, none⟩)] w fun e w' => e = .returned (.bool false) ∧ (∃ V', Opw G w' A V' q (tkC 40 (tkt F n) true (mV 116 q)) ∧ V'.f = V.f ∧ V'.tk = V.tk ∧ V'.cnt = V.cnt + 1 ∧ V'.h = V.h ∧ V'.k = 1) ∧ Kp G w w' := by
  refine (tk_step2n h.op (by have := h.cnt; omega) h.f1 (by simpa using (tkt_ne hk (by omega)).symm)).mono ?_
  rintro e w' ⟨rfl, h1, k1⟩
  exact ⟨rfl, ⟨_, h1, rfl, rfl, rfl, rfl, rfl⟩, k1⟩
/-- One gives the lock back. -/
theorem tq_give {G : Nat → Prop} {w : World} {A : Ad} {V : Wv} {y q : Nat} {F : Int} {k : Nat} (h : Opw (fun j => G j ∨ j = y) w A V q [mV 118 q]) (hc : V.cnt < 1000000000) (f1 : V.f 1 = tkt F k) :
    Calls Tryz.prog 88 #[.pointer (some ⟨q, 0, none⟩), .pointer (some ⟨A.p, 0, none⟩)] w fun e w' => e = .returned (.bool true) ∧ (∃ V', WdG (fun j => G j ∨ j = y) w' A V' ∧ V'.f 0 = V.f 0 ∧ V'.f 1 = tkt F (k + 1) ∧ V'.tk = V.tk ∧ V'.cnt = V.cnt + 1 ∧ V'.h = -1) ∧ Kp (fun j => G j ∨ j = y) w w' := by
  refine (gv_step h hc f1 (tkt_s F k)).mono ?_
  rintro e w' ⟨rfl, h1, k1⟩
  refine ⟨rfl, ⟨_, h1.wd, ?_, ?_, rfl, rfl, rfl⟩, k1⟩
  · show upd V.f 1 (tkt F (k + 1)) 0 = _
    exact upd_other (by decide)
  · show upd V.f 1 (tkt F (k + 1)) 1 = _
    exact upd_same _ _ _
theorem Tq2.hit {G : Nat → Prop} {w : World} {A : Ad} {V : Wv} {q : Nat} {F : Int} {n : Nat} (h : Tq2 G w A V q F n n) (hn : n ≤ 31) :
    Calls Tryz.prog 36 #[.pointer (some ⟨q, 0, none⟩), .pointer (some ⟨A.p, 0, none⟩)] w fun e w' => e = .returned (.bool true) ∧ (w'.cell? ⟨A.p, 72, none⟩ = some (.int .i64 40) ∧ w'.cell? ⟨A.p, 48, none⟩ = some (.int .u64 0)) ∧ Kp G w w' := by
  refine (tk_step2 (n := 40) (by decide) h.op (by have := h.cnt; omega) h.f1).mono ?_
  rintro e w' ⟨rfl, h1, k1⟩
  have b := h1.box
  have e1 := b.ch
  have e2 := b.ct 40 (by decide)
  refine ⟨rfl, ⟨e1, ?_⟩, k1⟩
  rw [e2]
  rfl
end Go.Proofs.YtaipbagnkjmddaaGreat
/- Next: The chapter's Takes and Gives: what they are at first; their steps beside a pair. -/
namespace Go.Proofs.YtaipbagnkjmddaaGreat
open Go.RowKit Go.Maps
set_option linter.unusedVariables false
/-- The chapter's Take. -/
def rtC (ln tick : Int) (is : Bool) (t : Int) : List Value := [.int .i64 ln, .int .u64 tick, .bool is, .int .i64 t]
theorem rnewTake (t : Int) (h0 : 0 ≤ t) (h1 : t < 64) (w : World) : Calls Tryz.prog 39 #[.int .i64 t] w (NwOb w (rtC 1 0 false t)) := by
  have d0 : decide (t < 0) = false := decide_eq_false (by omega)
  have d1 : decide (63 < t) = false := decide_eq_false (by omega)
  go_enter Tryz.func39, Tryz.ntmps39
  go_wp2_with fail
  go_ret
  exact nwOb (ob_at rfl rfl) (Nat.le_refl _) (bs_alloc (Below.refl _ _))
theorem rnewGive (w : World) : Calls Tryz.prog 49 #[] w (NwOb w [.int .i64 1]) := by
  go_enter Tryz.func49, Tryz.ntmps49
  go_wp2_with fail
  go_ret
  exact nwOb (ob_at rfl rfl) (Nat.le_refl _) (bs_alloc (Below.refl _ _))
section
variable {G : Nat → Prop} {w : World} {A R : Ad} {V V2 : Wv} {q : Nat} {tick : Int} {is : Bool}
/-- A store into the chapter's world's own block. -/
theorem Hf.rsetbox {V2' : Wv} (h : Hf G w A R V V2) (o : Nat) (u : Value) (hb : IsBox w R V2.c V2.tk V2.h → IsBox (w.setCell ⟨R.p, o, none⟩ u) R V2'.c V2'.tk V2'.h) (hV : V2'.f = V2.f ∧ V2'.cnt = V2.cnt ∧ V2'.k = V2.k ∧ V2'.a = V2.a ∧ V2'.x = V2.x ∧ V2'.y = V2.y ∧ V2'.I = V2.I ∧ V2'.M = V2.M) : Hf G (w.setCell ⟨R.p, o, none⟩ u) A R V V2' ∧ Kp G w (w.setCell ⟨R.p, o, none⟩ u) := by
  obtain ⟨S, T, L, h1, ⟨⟨TC, TI, TN, r⟩, hl, hn⟩, c, hd, hg, hlt⟩ := h
  obtain ⟨e1, e2, e3, e4, e5, e6, e7, e8⟩ := hV
  have hk : Keeps (fun j => j = R.p) w (w.setCell ⟨R.p, o, none⟩ u) := Keeps.setCell (S := fun j => j = R.p) (Keeps.refl _ w) (p := ⟨R.p, o, none⟩) (.inl rfl) u
  refine ⟨⟨S, T, L, h1.keep hk (fun k s e => hd k s (e ▸ r.here)), ⟨⟨TC, TI, TN, hb r.box, ?_, ?_, ?_, r.here, r.tc, r.ti, r.tn, fun k s => Nat.lt_of_lt_of_le (r.lt k s) hk.size⟩, by rw [e1]; exact hl, by rw [e2]; exact hn⟩, ⟨by rw [e2]; exact c.1, by rw [e1]; exact c.2⟩, hd, hg, fun k g => Nat.lt_of_lt_of_le (hlt k g) hk.size⟩, Keeps.setCell (S := fun k => ¬ G k) (Keeps.refl _ w) (p := ⟨R.p, o, none⟩) (.inl (fun g => hg _ g (.inr r.here))) u⟩
  · rw [e2, e3, e4, e5, e6]
    exact r.cel.keep hk (fun k s e => (r.tc k s).2.1 e)
  · rw [e7]
    exact r.it.keep hk (fun k s e => (r.ti k s).2.1 e)
  · rw [e8]
    exact r.nt.keep hk (fun k s e => (r.tn k s).2 e)
theorem Hf.rtkset (h : Hf G w A R V V2) (t : Nat) (ht : t < 64) (v : Int) : Hf G (w.setCell ⟨R.p, 8 + t, none⟩ (.int .u64 v)) A R V (V2.tkset t v) ∧ Kp G w (w.setCell ⟨R.p, 8 + t, none⟩ (.int .u64 v)) :=
  h.rsetbox (V2' := V2.tkset t v) _ _ (fun b => b.tkset t ht v) ⟨rfl, rfl, rfl, rfl, rfl, rfl, rfl, rfl⟩
theorem Hf.rhset (h : Hf G w A R V V2) (v : Int) : Hf G (w.setCell ⟨R.p, 72, none⟩ (.int .i64 v)) A R V (V2.hset v) ∧ Kp G w (w.setCell ⟨R.p, 72, none⟩ (.int .i64 v)) :=
  h.rsetbox (V2' := V2.hset v) _ _ (fun b => b.hset v) ⟨rfl, rfl, rfl, rfl, rfl, rfl, rfl, rfl⟩
set_option maxHeartbeats 1000000 in
set_option maxRecDepth 100000 in
theorem rt_step1 {n : Nat} (hn : n < 64) (h : Hf G w A R V V2) (hq : G q) (ho : Ob w q (rtC 1 tick is n)) (hc : V2.cnt < 100000000) {z u : Int} (hz : V2.f 0 = z) (hu : IntKind.u64.wrap (z + 1) = u) :
    Calls Tryz.prog 43 #[.pointer (some ⟨q, 0, none⟩), .pointer (some ⟨R.p, 0, none⟩)] w (RoP G A R V ((V2.acc (upd V2.f 0 u) 4 0 z u).tkset n u) q (rtC 2 z true n) w) := by
  subst hz
  have C := Lib.hid (h.radd (a := 0) (v := 1) hc ⟨by decide, by decide⟩ hu)
  have HU := Lib.hid hu
  have HG := Lib.hid hq
  have c0 := ho.at_ 0 _ rfl
  have HO := Lib.hid ho
  generalize hz : V2.f 0 = z at *
  generalize hV1 : V2.acc (upd V2.f 0 u) 4 0 z u = V1 at *
  clear hV1 h hq ho hz hu
  go_enter Tryz.func43, Tryz.ntmps43
  go_wp2_with fail
  refine C.out.mono ?_
  rintro e w1 ⟨rfl, h1, k1⟩
  have o1 := HO.out.keep k1 (fun n => n HG.out)
  have d1 := o1.at_ 1 _ rfl
  have f1 := o1.fz 1 (by simp [rtC])
  obtain ⟨h2, k2⟩ := Hf.set (i := 1) h1 HG.out (.int .u64 z)
  have H2 := Lib.hid h2
  have O2 := Lib.hid (o1.set 1 (.int .u64 z) (by simp [rtC]) (C' := rtC 1 z is n) rfl)
  have K2 := Lib.hid (Kp.to (k1.less (fun j g => g.1)) k2)
  clear h1 k1 h2 k2 c0 o1 C HO
  go_upto_region 3 with (fail)
  generalize hW2 : World.setCell w1 _ _ = W2 at *
  clear hW2 d1 f1
  have d2 := O2.out.at_ 2 _ rfl
  have f2 := O2.out.fz 2 (by simp [rtC])
  obtain ⟨h3, k3⟩ := Hf.set (i := 2) H2.out HG.out (.bool true)
  have H3 := Lib.hid h3
  have O3 := Lib.hid (O2.out.set 2 (.bool true) (by simp [rtC]) (C' := rtC 1 z true n) rfl)
  have K3 := Lib.hid (Kp.to K2.out k3)
  clear h3 k3 H2 O2 K2
  go_upto_region 4 with (fail)
  generalize hW3 : World.setCell W2 _ _ = W3 at *
  clear hW3 d2 f2
  have d0 : W3.drew.cell? ⟨q, 3, none⟩ = some (.int .i64 n) := O3.out.at_ 3 _ rfl
  have d1 : W3.drew.cell? ⟨q, 1, none⟩ = some (.int .u64 z) := O3.out.at_ 1 _ rfl
  have b0 := H3.out.rbox.ct n hn
  have bf := H3.out.rbox.fz (8 + n) (by omega)
  generalize V1.tk n = old at b0
  have b1 : W3.drew.cell? ⟨R.p, 8 + n, none⟩ = some (.int .u64 old) := b0
  have bg : W3.drew.frozen? ⟨R.p, 8 + n, none⟩ = false := bf
  have n0 : (0 : Int) ≤ (n : Int) := by omega
  have n6 : (n : Int) < 64 := by omega
  have hu := HU.out
  have hne : R.p ≠ q := fun e => H3.out.ar.2 (e ▸ HG.out)
  obtain ⟨h4, k4⟩ := H3.out.rtkset n hn u
  have H4 := Lib.hid (h4.new (Below.refl _ _).drew)
  have O4 := Lib.hid ((O3.out.keep k4 (fun n => n HG.out)).new (Below.refl _ _).drew)
  have K4 := Lib.hid (Kp.to (Kp.to K3.out (k4.less (fun j g => g.1))) (Kp.of (Below.refl _ _).drew))
  clear h4 k4 H3 O3 K3
  go_region_held3 (fun X => X.cell? ⟨q, 3, none⟩ = some (.int .i64 n) ∧ X.cell? ⟨q, 1, none⟩ = some (.int .u64 z))
    (first | exact ⟨by assumption, by assumption⟩ | exact ⟨(World.cell?_setCell_other _ ⟨R.p, 8 + n, none⟩ ⟨q, 3, none⟩ _ (by intro e; injection e with e _; exact hne e)).trans d0, (World.cell?_setCell_other _ ⟨R.p, 8 + n, none⟩ ⟨q, 1, none⟩ _ (by intro e; injection e with e _; exact hne e)).trans d1⟩)
    (fail)
  generalize hW4 : World.drew (World.setCell W3 _ _) = W4 at *
  clear hW4 d0 d1 b0 b1 bf bg hu hne
  have d3 := O4.out.at_ 0 _ rfl
  have f3 := O4.out.fz 0 (by simp [rtC])
  obtain ⟨h5, k5⟩ := Hf.set (i := 0) H4.out HG.out (.int .i64 2)
  have H5 := Lib.hid h5
  have O5 := Lib.hid (O4.out.set 0 (.int .i64 2) (by simp [rtC]) (C' := rtC 2 z true n) rfl)
  have K5 := Lib.hid (Kp.to K4.out k5)
  clear h5 k5 H4 O4 K4
  go_wp2_with fail
  go_end0
  exact ⟨rfl, H5.out, O5.out, K5.out⟩
set_option maxHeartbeats 1000000 in
set_option maxRecDepth 100000 in
theorem rt_step2n {t : Int} (h : Hf G w A R V V2) (hq : G q) (ho : Ob w q (rtC 2 tick is t)) (hc : V2.cnt < 100000000) {s : Int} (hs : V2.f 1 = s) (hn : (s == tick) = false) :
    Calls Tryz.prog 43 #[.pointer (some ⟨q, 0, none⟩), .pointer (some ⟨R.p, 0, none⟩)] w (RoP G A R V (V2.acc V2.f 1 1 s s) q (rtC 2 tick is t) w) := by
  subst hs
  have hd := (Below.refl w.heap.size w).drew
  have C := Lib.hid ((h.new hd).rload (a := 1) hc ⟨by decide, by decide⟩)
  have HG := Lib.hid hq
  have c0 := ho.at_ 0 _ rfl
  have c1 : w.drew.cell? ⟨q, 1, none⟩ = some (.int .u64 tick) := ho.at_ 1 _ rfl
  have HO := Lib.hid (ho.new hd)
  generalize hz : V2.f 1 = s at *
  generalize hV1 : V2.acc V2.f 1 1 s s = V1 at *
  clear hV1 h hq ho hz
  go_enter Tryz.func43, Tryz.ntmps43
  go_wp2_with fail
  go_region_held3 (fun X => X.cell? ⟨q, 1, none⟩ = some (.int .u64 tick))
    (first | assumption)
    (first | (go_at_call 47; ((with_reducible refine C.out.mono ?_); rintro e w1 ⟨rfl, h1, k1⟩; have H1 := Lib.hid h1; have O1 := Lib.hid (HO.out.keep k1 (fun n => n HG.out)); have K1 := Lib.hid (Kp.to (Kp.of hd) (k1.less (G' := fun j => G j ∧ j ≠ q) (fun j g => g.1))); clear c0 c1; have c1 := O1.out.at_ 1 _ rfl)))
  all_goals
    go_wp2_with fail
    exact bodyPost_ret (v := .tuple #[]) (by simp [results, Tryz.results43, go_sem]) rfl ⟨rfl, H1.out, O1.out, K1.out⟩
set_option maxHeartbeats 1000000 in
set_option maxRecDepth 100000 in
theorem rt_step2 {n : Nat} (hn : n < 64) (h : Hf G w A R V V2) (hq : G q) (ho : Ob w q (rtC 2 tick is n)) (hc : V2.cnt < 100000000) (hs : V2.f 1 = tick) :
    Calls Tryz.prog 43 #[.pointer (some ⟨q, 0, none⟩), .pointer (some ⟨R.p, 0, none⟩)] w (RoP G A R V (((V2.acc V2.f 1 1 tick tick).tkset n 0).hset n) q (rtC 0 tick is n) w) := by
  subst hs
  have hd := (Below.refl w.heap.size w).drew
  have C := Lib.hid ((h.new hd).rload (a := 1) hc ⟨by decide, by decide⟩)
  have HG := Lib.hid hq
  have c0 := ho.at_ 0 _ rfl
  have HO := Lib.hid (ho.new hd)
  generalize hz : V2.f 1 = s at *
  generalize hV1 : V2.acc V2.f 1 1 s s = V1 at *
  have c1 : w.drew.cell? ⟨q, 1, none⟩ = some (.int .u64 s) := ho.at_ 1 _ rfl
  have hss : (s == s) = true := by simp
  clear hV1 h hq ho hz
  go_enter Tryz.func43, Tryz.ntmps43
  go_wp2_with fail
  go_region_held3 (fun X => X.cell? ⟨q, 1, none⟩ = some (.int .u64 s))
    (first | assumption)
    (first | (go_at_call 47; ((with_reducible refine C.out.mono ?_); rintro e w1 ⟨rfl, h1, k1⟩; have H1 := Lib.hid h1; have O1 := Lib.hid (HO.out.keep k1 (fun n => n HG.out)); have K1 := Lib.hid (Kp.to (Kp.of hd) (k1.less (G' := fun j => G j ∧ j ≠ q) (fun j g => g.1))); clear c0 c1; have c1 := O1.out.at_ 1 _ rfl)))
  clear c1 hss
  go_upto_region 8 with (fail)
  have d0 : w1.drew.cell? ⟨q, 3, none⟩ = some (.int .i64 n) := O1.out.at_ 3 _ rfl
  have b0 := H1.out.rbox.ct n hn
  have bf := H1.out.rbox.fz (8 + n) (by omega)
  generalize V1.tk n = old at b0
  have b1 : w1.drew.cell? ⟨R.p, 8 + n, none⟩ = some (.int .u64 old) := b0
  have bg : w1.drew.frozen? ⟨R.p, 8 + n, none⟩ = false := bf
  have n0 : (0 : Int) ≤ (n : Int) := by omega
  have n6 : (n : Int) < 64 := by omega
  have hne : R.p ≠ q := fun e => H1.out.ar.2 (e ▸ HG.out)
  obtain ⟨h4, k4⟩ := H1.out.rtkset n hn 0
  have H4 := Lib.hid (h4.new (Below.refl _ _).drew)
  have O4 := Lib.hid ((O1.out.keep k4 (fun n => n HG.out)).new (Below.refl _ _).drew)
  have K4 := Lib.hid (Kp.to (Kp.to K1.out (k4.less (fun j g => g.1))) (Kp.of (Below.refl _ _).drew))
  clear h4 k4 H1 O1 K1 HO C hd
  go_region_held3 (fun X => X.cell? ⟨q, 3, none⟩ = some (.int .i64 n))
    (first | assumption | exact (World.cell?_setCell_other _ ⟨R.p, 8 + n, none⟩ ⟨q, 3, none⟩ _ (by intro e; injection e with e _; exact hne e)).trans d0)
    (fail)
  generalize hW4 : World.drew (World.setCell w1 _ _) = W4 at *
  clear hW4 d0 b0 b1 bf bg hne n0 n6
  have c3 := O4.out.at_ 3 _ rfl
  have ch := H4.out.rbox.ch
  have cf := H4.out.rbox.fz 72 (by decide)
  obtain ⟨h5, k5⟩ := H4.out.rhset n
  have H5 := Lib.hid h5
  have O5 := Lib.hid (O4.out.keep k5 (fun n => n HG.out))
  have K5 := Lib.hid (Kp.to K4.out (k5.less (fun j g => g.1)))
  clear h5 k5 H4 O4 K4
  go_upto_region 10 with (fail)
  generalize hW5 : World.setCell W4 _ _ = W5 at *
  clear hW5 c3 ch cf
  have d3 := O5.out.at_ 0 _ rfl
  have f3 := O5.out.fz 0 (by simp [rtC])
  obtain ⟨h6, k6⟩ := Hf.set (i := 0) H5.out HG.out (.int .i64 0)
  have H6 := Lib.hid h6
  have O6 := Lib.hid (O5.out.set 0 (.int .i64 0) (by simp [rtC]) (C' := rtC 0 s is n) rfl)
  have K6 := Lib.hid (Kp.to K5.out k6)
  clear h6 k6 H5 O5 K5
  go_wp2_with fail
  go_end0
  exact ⟨rfl, H6.out, O6.out, K6.out⟩
theorem rt_step0 {t : Int} (h : Hf G w A R V V2) (ho : Ob w q (rtC 0 tick is t)) :
    Calls Tryz.prog 43 #[.pointer (some ⟨q, 0, none⟩), .pointer (some ⟨R.p, 0, none⟩)] w (RoP G A R V V2 q (rtC 0 tick is t) w) := by
  have c0 := ho.at_ 0 _ rfl
  have HH := Lib.hid (And.intro h ho)
  clear h ho
  go_enter Tryz.func43, Tryz.ntmps43
  go_wp2_with fail
  exact bodyPost_ret (v := .tuple #[]) (by simp [results, Tryz.results43, go_sem]) rfl ⟨rfl, HH.out.1, HH.out.2, Keeps.refl _ _⟩
set_option maxHeartbeats 1000000 in
set_option maxRecDepth 100000 in
theorem rg_step1 (h : Hf G w A R V V2) (hq : G q) (ho : Ob w q [.int .i64 1]) (hc : V2.cnt < 100000000) {z u : Int} (hz : V2.f 1 = z) (hu : IntKind.u64.wrap (z + 1) = u) :
    Calls Tryz.prog 50 #[.pointer (some ⟨q, 0, none⟩), .pointer (some ⟨R.p, 0, none⟩)] w (RoP G A R V ((V2.acc (upd V2.f 1 u) 4 1 z u).hset (-1)) q [.int .i64 0] w) := by
  subst hz
  have C := Lib.hid (h.radd (a := 1) (v := 1) hc ⟨by decide, by decide⟩ hu)
  have HG := Lib.hid hq
  have c0 := ho.at_ 0 _ rfl
  have HO := Lib.hid ho
  generalize hz : V2.f 1 = z at *
  generalize hV1 : V2.acc (upd V2.f 1 u) 4 1 z u = V1 at *
  clear hV1 h hq ho hz hu
  go_enter Tryz.func50, Tryz.ntmps50
  go_wp2_with fail
  refine C.out.mono ?_
  rintro e w1 ⟨rfl, h1, k1⟩
  have ch := h1.rbox.ch
  have cf := h1.rbox.fz 72 (by decide)
  obtain ⟨h2, k2⟩ := h1.rhset (-1)
  have H2 := Lib.hid h2
  have O2 := Lib.hid ((HO.out.keep k1 (fun n => n HG.out)).keep k2 (fun n => n HG.out))
  have K2 := Lib.hid ((Kp.to k1 k2).less (G' := fun j => G j ∧ j ≠ q) (fun j g => g.1))
  clear h1 k1 h2 k2 c0 C HO
  go_upto_region 3 with (fail)
  generalize hW2 : World.setCell w1 _ _ = W2 at *
  clear hW2 ch cf
  have d3 := O2.out.at_ 0 _ rfl
  have f3 := O2.out.fz 0 (by simp)
  obtain ⟨h6, k6⟩ := Hf.set (i := 0) H2.out HG.out (.int .i64 0)
  have H6 := Lib.hid h6
  have O6 := Lib.hid (O2.out.set 0 (.int .i64 0) (by simp) (C' := [.int .i64 0]) rfl)
  have K6 := Lib.hid (Kp.to K2.out k6)
  clear h6 k6 H2 O2 K2
  go_wp2_with fail
  go_end0
  exact ⟨rfl, H6.out, O6.out, K6.out⟩
theorem rg_step0 (h : Hf G w A R V V2) (ho : Ob w q [.int .i64 0]) :
    Calls Tryz.prog 50 #[.pointer (some ⟨q, 0, none⟩), .pointer (some ⟨R.p, 0, none⟩)] w (RoP G A R V V2 q [.int .i64 0] w) := by
  have c0 := ho.at_ 0 _ rfl
  have HH := Lib.hid (And.intro h ho)
  clear h ho
  go_enter Tryz.func50, Tryz.ntmps50
  go_wp2_with fail
  first
    | (go_end0; exact ⟨rfl, HH.out.1, HH.out.2, Keeps.refl _ _⟩)
    | exact bodyPost_ret (v := .tuple #[]) (by simp [results, Tryz.results50, go_sem]) rfl ⟨rfl, HH.out.1, HH.out.2, Keeps.refl _ _⟩
end
end Go.Proofs.YtaipbagnkjmddaaGreat
/- Next: The chapter's Flush, beside a pair. -/
namespace Go.Proofs.YtaipbagnkjmddaaGreat
open Go.RowKit Go.Maps
set_option linter.unusedVariables false
/-- The chapter's Flush, as it lies. -/
def rfC (ln k ep pt d : Int) (tk : Nat) : List Value := [.int .i64 ln, .int .u8 k, .int .u64 0, .string ⟨#[]⟩, .string ⟨#[]⟩, .int .u32 0, .int .u64 0, .int .i64 0, .int .i64 0, .int .u64 ep, .int .i64 pt, .int .i64 d, .pointer (some ⟨tk, 0, none⟩)]
theorem rnewF (t d : Int) (h0 : 0 ≤ t) (h1 : t < 64) (w : World) : Calls Tryz.prog 9 #[.int .i64 t, .int .i64 d] w fun e w' => ∃ r tk, e = .returned (.pointer (some ⟨r, 0, none⟩)) ∧ Ob w' r (rfC 1 0 0 0 d tk) ∧ Ob w' tk (rtC 1 0 false t) ∧ (w.heap.size ≤ tk ∧ tk < r) ∧ Below w.heap.size w w' := by
  have CN := Lib.hid (fun W => rnewTake t h0 h1 W)
  clear h0 h1
  go_enter Tryz.func9, Tryz.ntmps9
  go_upto_region 2 with (go_at_call 39; ((with_reducible refine (CN.out _).mono ?_); rintro e w1 ⟨tk, rfl, o1, l1, b1⟩; have H1 := Lib.hid (And.intro o1 (And.intro l1 b1)); clear o1 l1 b1))
  obtain ⟨r, hr⟩ : ∃ r, r = w1.heap.size := ⟨_, rfl⟩
  generalize hW2 : World.alloc w1 _ = W2
  have b2 : Below w1.heap.size w1 W2 := by rw [← hW2]; exact fl_bs (Below.refl _ _)
  have o2 : Ob W2 r (rfC 0 0 0 0 d tk) := by rw [← hW2]; exact fl_at hr rfl
  have ot := H1.out.1.new b2
  have e5 := o2.at_ 12 _ rfl
  have e0 := ot.at_ 0 _ rfl
  have z0 := o2.at_ 0 _ rfl
  have y0 := o2.fz 0 (by show 0 < 13; decide)
  have HO := Lib.hid (And.intro o2 (And.intro ot b2))
  have hks : Keeps (fun j => j = r) W2 (W2.setCell ⟨r, 0, none⟩ (.int .i64 1)) := Keeps.setCell (S := fun j => j = r) (Keeps.refl _ W2) (p := ⟨r, 0, none⟩) (.inl rfl) _
  have hlt := H1.out.1.lt
  have hsz := H1.out.2.2.size
  subst hr
  clear hW2 b2 o2 ot CN
  go_wp2_with fail
  go_ret
  exact ⟨w1.heap.size, tk, rfl, HO.out.1.set 0 _ (by show 0 < 13; decide) rfl, HO.out.2.1.keep hks (by omega), ⟨H1.out.2.1, by omega⟩, (below_then H1.out.2.2 HO.out.2.2).setCell (by show w.heap.size ≤ w1.heap.size; omega) _⟩
section
variable {G : Nat → Prop} {w : World} {A R : Ad} {V V2 V2' : Wv} {r tk : Nat} {ln k ep pt d z c u : Int} {D : List Value}
theorem hf_rpeek (h : Hf G w A R V V2) {a z : Int} (ha : isU a) (hz : V2.f a = z) : Calls Tryz.prog 44 #[.pointer (some ⟨R.p, 0, none⟩), .int .u64 a] w fun e w' => e = .returned (.int .u64 z) ∧ Below w.heap.size w w' := by
  subst hz
  obtain ⟨S, T, L, h1, ⟨r, hl, hn⟩, c, hd, hg, hlt⟩ := h
  refine (rw_peek r hl ha).mono ?_
  rintro e w' ⟨he, n, rfl⟩
  refine ⟨he, ?_⟩
  induction n with
  | zero => exact Below.refl _ _
  | succ n ih => exact ih.drew
theorem hf_rsteps (h : Hf G w A R V V2) (hc : V2.cnt = c) : Calls Tryz.prog 48 #[.pointer (some ⟨R.p, 0, none⟩)] w fun e w' => e = .returned (.int .i64 c) ∧ w = w' := by
  subst hc
  obtain ⟨S, T, L, h1, ⟨r, hl, hn⟩, c, hd, hg, hlt⟩ := h
  exact rsteps r
theorem hf_rcasT (h : Hf G w A R V V2) (hc : V2.cnt < 100000000) {a z v : Int} (ha : isU a) (hv : isU v) (hz : V2.f a = z) :
    Calls Tryz.prog 46 #[.pointer (some ⟨R.p, 0, none⟩), .int .u64 a, .int .u64 z, .int .u64 v] w fun e w' => e = .returned (.tuple #[.int .u64 z, .bool true]) ∧ Hf G w' A R V (V2.acc (upd V2.f a v) 3 a z v) ∧ Kp G w w' := by
  subst hz
  obtain ⟨S, T, L, h1, ⟨r, hl, hn⟩, ⟨c0, cu⟩, hd, hg, hlt⟩ := h
  refine (rw_cas r hn hl c0 hc ha v).mono ?_
  rintro e w' ⟨rfl, T', t, r'⟩
  refine ⟨rfl, Hf.rpost h1 hd hg hlt t r' (hl.put ha hv) ?_ ⟨?_, fun b' hb' => ?_⟩⟩
  · have := put_len a v L
    show ((putL L a v).length : Int) ≤ V2.cnt + 1 + 1000000
    omega
  · show 0 ≤ V2.cnt + 1
    omega
  · show isU (upd V2.f a v b')
    unfold upd
    split
    · exact hv
    · exact cu b' hb'
/-- A step, while its Take goes on. -/
theorem rf_s1n (hr : G r) (ho : Ob w r (rfC 1 k ep pt d tk)) (hne : r ≠ tk) (hs : Calls Tryz.prog 43 #[.pointer (some ⟨tk, 0, none⟩), .pointer (some ⟨R.p, 0, none⟩)] w (RoP G A R V V2' tk D w)) (hD : D[0]? = some (.int .i64 ln)) (hl : (ln == 0) = false) :
    Calls Tryz.prog 13 #[.pointer (some ⟨r, 0, none⟩), .pointer (some ⟨R.p, 0, none⟩)] w fun e w' => e = .returned (.tuple #[]) ∧ Hf G w' A R V V2' ∧ Ob w' tk D ∧ Ob w' r (rfC 1 k ep pt d tk) ∧ Kp (fun j => G j ∧ j ≠ tk) w w' := by
  have c0 := ho.at_ 0 _ rfl
  have c12 := ho.at_ 12 _ rfl
  have HS := Lib.hid hs
  have HO := Lib.hid (And.intro ho (And.intro hr hne))
  have HD := Lib.hid hD
  clear ho hr hne hs hD
  go_enter Tryz.func13, Tryz.ntmps13
  go_wp2_with (go_at_call 43; ((with_reducible refine HS.out.mono ?_); rintro e w1 ⟨rfl, h1, o1, k1⟩; have HR := Lib.hid (ob_kp HO.out.1 k1 ⟨HO.out.2.1, HO.out.2.2⟩); have H1 := Lib.hid (And.intro h1 (And.intro o1 k1)); clear h1 o1 k1 c0 c12; have c12 := HR.out.at_ 12 _ rfl; have t0 := H1.out.2.1.at_ 0 _ HD.out))
  first
    | (go_end0; exact ⟨rfl, H1.out.1, H1.out.2.1, HR.out, H1.out.2.2⟩)
    | exact bodyPost_ret (v := .tuple #[]) (by simp [results, Tryz.results13, go_sem]) rfl ⟨rfl, H1.out.1, H1.out.2.1, HR.out, H1.out.2.2⟩
theorem rf_s1y (hr : G r) (ho : Ob w r (rfC 1 k ep pt d tk)) (hne : r ≠ tk) (hs : Calls Tryz.prog 43 #[.pointer (some ⟨tk, 0, none⟩), .pointer (some ⟨R.p, 0, none⟩)] w (RoP G A R V V2' tk D w)) (hD : D[0]? = some (.int .i64 0)) :
    Calls Tryz.prog 13 #[.pointer (some ⟨r, 0, none⟩), .pointer (some ⟨R.p, 0, none⟩)] w fun e w' => e = .returned (.tuple #[]) ∧ Hf G w' A R V V2' ∧ Ob w' r (rfC 2 k ep pt d tk) ∧ Kp (fun j => G j ∧ j ≠ tk ∧ j ≠ r) w w' := by
  have c0 := ho.at_ 0 _ rfl
  have c12 := ho.at_ 12 _ rfl
  have HS := Lib.hid hs
  have HO := Lib.hid (And.intro ho (And.intro hr hne))
  have HD := Lib.hid hD
  clear ho hr hne hs hD
  go_enter Tryz.func13, Tryz.ntmps13
  go_wp2_with (go_at_call 43; ((with_reducible refine HS.out.mono ?_); rintro e w1 ⟨rfl, h1, o1, k1⟩; have HR := Lib.hid (ob_kp HO.out.1 k1 ⟨HO.out.2.1, HO.out.2.2⟩); have H1 := Lib.hid (And.intro h1 (And.intro o1 k1)); clear h1 o1 k1 c0 c12; have c12 := HR.out.at_ 12 _ rfl; have t0 := H1.out.2.1.at_ 0 _ HD.out; have c0 := HR.out.at_ 0 _ rfl; have y0 := HR.out.fz 0 (by show 0 < 13; decide)))
  have hs := Hf.set (i := 0) H1.out.1 HO.out.2.1 (.int .i64 2)
  have hres := And.intro hs.1 (And.intro (HR.out.set 0 (.int .i64 2) (by show 0 < 13; decide) (C' := rfC 2 k ep pt d tk) rfl) (Kp.to (H1.out.2.2.less (G' := fun j => G j ∧ j ≠ tk ∧ j ≠ r) (fun j g => ⟨g.1, g.2.1⟩)) (hs.2.less (fun j g => ⟨g.1, g.2.2⟩))))
  first
    | (go_end0; exact ⟨rfl, hres⟩)
    | exact bodyPost_ret (v := .tuple #[]) (by simp [results, Tryz.results13, go_sem]) rfl ⟨rfl, hres⟩
theorem rf_s0 (h : Hf G w A R V V2) (ho : Ob w r (rfC 0 k ep pt d tk)) :
    Calls Tryz.prog 13 #[.pointer (some ⟨r, 0, none⟩), .pointer (some ⟨R.p, 0, none⟩)] w fun e w' => e = .returned (.tuple #[]) ∧ w = w' := by
  have c0 := ho.at_ 0 _ rfl
  clear h ho
  go_enter Tryz.func13, Tryz.ntmps13
  go_wp2_with fail
  first
    | (go_end0; exact ⟨rfl, rfl⟩)
    | exact bodyPost_ret (v := .tuple #[]) (by simp [results, Tryz.results13, go_sem]) rfl ⟨rfl, rfl⟩
set_option maxHeartbeats 1000000 in
set_option maxRecDepth 100000 in
theorem rf_s3 (h : Hf G w A R V V2) (hr : G r) (ho : Ob w r (rfC 3 k ep pt d tk)) (hc : V2.cnt < 100000000) (hz : V2.f 1 = z) (hu : IntKind.u64.wrap (z + 1) = u) :
    Calls Tryz.prog 13 #[.pointer (some ⟨r, 0, none⟩), .pointer (some ⟨R.p, 0, none⟩)] w fun e w' => e = .returned (.tuple #[]) ∧ Hf G w' A R V ((V2.acc (upd V2.f 1 u) 4 1 z u).hset (-1)) ∧ Ob w' r (rfC 0 k ep pt d tk) ∧ Kp (fun j => G j ∧ j ≠ r) w w' := by
  have c0 := ho.at_ 0 _ rfl
  have HH := Lib.hid h
  have HO := Lib.hid (And.intro ho hr)
  have HC := Lib.hid (And.intro hc (And.intro hz hu))
  generalize hV1 : (V2.acc (upd V2.f 1 u) 4 1 z u).hset (-1) = V1
  have HV1 := Lib.hid hV1
  clear h ho hr hc hz hu hV1
  go_enter Tryz.func13, Tryz.ntmps13
  go_upto_region 17 with (first
    | (go_at_call 49; ((with_reducible refine (rnewGive _).mono ?_); rintro e w1 ⟨g, rfl, o1, l1, b1⟩; have ha := HH.out.add b1 l1 o1.lt; have cs := rg_step1 ha (.inr rfl) o1 HC.out.1 HC.out.2.1 HC.out.2.2; rw [HV1.out] at cs; have CS := Lib.hid cs; have O1 := Lib.hid (And.intro (HO.out.1.new b1) (And.intro l1 b1)); clear cs ha o1 l1 b1))
    | (go_at_call 50; ((with_reducible refine CS.out.mono ?_); rintro e w2 ⟨rfl, h2, -, k2⟩; have H2 := Lib.hid (And.intro (h2.less (G' := G) (fun j g => .inl g)) k2); clear h2 k2)))
  have hlr := HH.out.lts r HO.out.2
  have HR := Lib.hid (ob_kp O1.out.1 H2.out.2 ⟨.inl HO.out.2, by have := O1.out.2.1; omega⟩)
  clear c0
  have c0 := HR.out.at_ 0 _ rfl
  have y0 := HR.out.fz 0 (by show 0 < 13; decide)
  have hs := Hf.set (i := 0) H2.out.1 HO.out.2 (.int .i64 0)
  have hgl : ∀ j, G j → j < w.heap.size := HH.out.lts
  have hres := And.intro hs.1 (And.intro (HR.out.set 0 (.int .i64 0) (by show 0 < 13; decide) (C' := rfC 0 k ep pt d tk) rfl) (Kp.to (Kp.to (Kp.of (G := fun j => G j ∧ j ≠ r) O1.out.2.2) (H2.out.2.less (fun j g => ⟨.inl g.1, by have := hgl j g.1; have := O1.out.2.1; omega⟩))) hs.2))
  go_wp2_with fail
  first
    | (go_end0; exact ⟨rfl, hres⟩)
    | exact bodyPost_ret (v := .tuple #[]) (by simp [results, Tryz.results13, go_sem]) rfl ⟨rfl, hres⟩
set_option maxHeartbeats 1000000 in
set_option maxRecDepth 100000 in
theorem rf_s2Y (h : Hf G w A R V V2) (hr : G r) (ho : Ob w r (rfC 2 0 0 0 d tk)) (hc : V2.cnt < 10000000) (hz : V2.f 8 = z) (hzu : isU z) (hf : flushes z = true) (hct : V2.cnt + 1 = c) {V1 : Wv} (hV1 : V2.acc (upd V2.f 8 (flushf z d)) 3 8 z (flushf z d) = V1) :
    Calls Tryz.prog 13 #[.pointer (some ⟨r, 0, none⟩), .pointer (some ⟨R.p, 0, none⟩)] w fun e w' => e = .returned (.tuple #[]) ∧ Hf G w' A R V V1 ∧ Ob w' r (rfC 3 10 z c d tk) ∧ Kp (fun j => G j ∧ j ≠ r) w w' := by
  have c0 := ho.at_ 0 _ rfl
  have CFL := Lib.hid (fun W => rflush z d W hzu.1 (by have := hzu.2; omega))
  rw [hf] at CFL
  have CP := Lib.hid (hf_rpeek h (a := 8) ⟨by decide, by decide⟩ hz)
  have HH := Lib.hid h
  have HO := Lib.hid (And.intro ho hr)
  have HC := Lib.hid (And.intro hc (And.intro hz hzu))
  have hc1 : V1.cnt = c := by rw [← hV1]; exact hct
  have HV1 := Lib.hid hV1
  clear h ho hr hc hz hzu hf hct hV1
  go_enter Tryz.func13, Tryz.ntmps13
  go_upto_region 7 with (go_at_call 44; ((with_reducible refine CP.out.mono ?_); rintro e w1 ⟨rfl, b1⟩; have H1 := Lib.hid (And.intro (HH.out.new b1) (And.intro (HO.out.1.new b1) b1)); clear b1 c0; have c9 := H1.out.2.1.at_ 9 _ rfl; have y9 := H1.out.2.1.fz 9 (by show 9 < 13; decide)))
  have hs := Hf.set (i := 9) H1.out.1 HO.out.2 (.int .u64 z)
  have H2 := Lib.hid (And.intro hs.1 (And.intro (H1.out.2.1.set 9 (.int .u64 z) (by show 9 < 13; decide) (C' := rfC 2 0 z 0 d tk) rfl) (Kp.to (Kp.of (G := fun j => G j ∧ j ≠ r) H1.out.2.2) hs.2)))
  generalize hW2 : World.setCell w1 _ _ = W2 at *
  clear hW2 hs c9 y9 H1 CP
  have hd2 : Below W2.heap.size W2 W2.drew := (Below.refl _ _).drew
  have H3 := Lib.hid (And.intro (H2.out.1.new hd2) (And.intro (H2.out.2.1.new hd2) (Kp.to H2.out.2.2 (Kp.of hd2))))
  have c9 : W2.drew.cell? ⟨r, 9, none⟩ = some (.int .u64 z) := H3.out.2.1.at_ 9 _ rfl
  have c11 : W2.drew.cell? ⟨r, 11, none⟩ = some (.int .i64 d) := H3.out.2.1.at_ 11 _ rfl
  clear hd2
  go_region_held3 (fun X => X.cell? ⟨r, 9, none⟩ = some (.int .u64 z) ∧ X.cell? ⟨r, 11, none⟩ = some (.int .i64 d))
    (first | exact ⟨by assumption, by assumption⟩)
    (first | (go_at_call 45; ((with_reducible refine (CFL.out _).mono ?_); rintro e w3 ⟨rfl, rfl⟩)))
  generalize hW3 : World.drew W2 = W3 at *
  clear hW3 c9 c11 CFL H2
  have c1 := H3.out.2.1.at_ 1 _ rfl
  have y1 := H3.out.2.1.fz 1 (by show 1 < 13; decide)
  have hs := Hf.set (i := 1) H3.out.1 HO.out.2 (.int .u8 5)
  have H4 := Lib.hid (And.intro hs.1 (And.intro (H3.out.2.1.set 1 (.int .u8 5) (by show 1 < 13; decide) (C' := rfC 2 5 z 0 d tk) rfl) (Kp.to H3.out.2.2 hs.2)))
  go_upto_region 9 with (fail)
  generalize hW4 : World.setCell W3 _ _ = W4 at *
  clear hW4 hs c1 y1 H3
  have CC := hf_rcasT H4.out.1 (by have := HC.out.1; omega) (a := 8) (v := flushf z d) ⟨by decide, by decide⟩ (isU_flush z d HC.out.2.2) HC.out.2.1
  rw [HV1.out] at CC
  have CC := Lib.hid CC
  have c9 := H4.out.2.1.at_ 9 _ rfl
  go_upto_region 11 with (go_at_call 46; ((with_reducible refine CC.out.mono ?_); rintro e w5 ⟨rfl, h5, k5⟩; have H5 := Lib.hid (And.intro h5 (And.intro (ob_kp H4.out.2.1 k5 HO.out.2) (Kp.to H4.out.2.2 (k5.less (fun j g => g.1))))); clear h5 k5 c9))
  have c1 := H5.out.2.1.at_ 1 _ rfl
  have y1 := H5.out.2.1.fz 1 (by show 1 < 13; decide)
  have hs := Hf.set (i := 1) H5.out.1 HO.out.2 (.int .u8 10)
  have H6 := Lib.hid (And.intro hs.1 (And.intro (H5.out.2.1.set 1 (.int .u8 10) (by show 1 < 13; decide) (C' := rfC 2 10 z 0 d tk) rfl) (Kp.to H5.out.2.2 hs.2)))
  go_upto_region 13 with (fail)
  generalize hW6 : World.setCell w5 _ _ = W6 at *
  clear hW6 hs c1 y1 H5 H4 CC
  have CS := Lib.hid (hf_rsteps H6.out.1 hc1)
  have c10 := H6.out.2.1.at_ 10 _ rfl
  have y10 := H6.out.2.1.fz 10 (by show 10 < 13; decide)
  have hs := Hf.set (i := 10) H6.out.1 HO.out.2 (.int .i64 c)
  have H7 := Lib.hid (And.intro hs.1 (And.intro (H6.out.2.1.set 10 (.int .i64 c) (by show 10 < 13; decide) (C' := rfC 2 10 z c d tk) rfl) (Kp.to H6.out.2.2 hs.2)))
  go_upto_region 14 with (go_at_call 48; ((with_reducible refine CS.out.mono ?_); rintro e w7 ⟨rfl, rfl⟩))
  generalize hW7 : World.setCell W6 _ _ = W7 at *
  clear hW7 hs c10 y10 H6 CS
  have c0 := H7.out.2.1.at_ 0 _ rfl
  have y0 := H7.out.2.1.fz 0 (by show 0 < 13; decide)
  have hs := Hf.set (i := 0) H7.out.1 HO.out.2 (.int .i64 3)
  have hres := And.intro hs.1 (And.intro (H7.out.2.1.set 0 (.int .i64 3) (by show 0 < 13; decide) (C' := rfC 3 10 z c d tk) rfl) (Kp.to H7.out.2.2 hs.2))
  go_wp2_with fail
  first
    | (go_end0; exact ⟨rfl, hres⟩)
    | exact bodyPost_ret (v := .tuple #[]) (by simp [results, Tryz.results13, go_sem]) rfl ⟨rfl, hres⟩
set_option maxHeartbeats 1000000 in
set_option maxRecDepth 100000 in
theorem rf_s2N (h : Hf G w A R V V2) (hr : G r) (ho : Ob w r (rfC 2 0 0 0 d tk)) (hc : V2.cnt < 10000000) (hz : V2.f 8 = z) (hzu : isU z) (hf : flushes z = false) (hct : V2.cnt + 1 = c) {V1 : Wv} (hV1 : V2.acc V2.f 1 8 z z = V1) :
    Calls Tryz.prog 13 #[.pointer (some ⟨r, 0, none⟩), .pointer (some ⟨R.p, 0, none⟩)] w fun e w' => e = .returned (.tuple #[]) ∧ Hf G w' A R V V1 ∧ Ob w' r (rfC 3 5 z c d tk) ∧ Kp (fun j => G j ∧ j ≠ r) w w' := by
  have c0 := ho.at_ 0 _ rfl
  have CFL := Lib.hid (fun W => rflush z d W hzu.1 (by have := hzu.2; omega))
  rw [hf] at CFL
  have CP := Lib.hid (hf_rpeek h (a := 8) ⟨by decide, by decide⟩ hz)
  have HH := Lib.hid h
  have HO := Lib.hid (And.intro ho hr)
  have HC := Lib.hid (And.intro hc (And.intro hz hzu))
  have hc1 : V1.cnt = c := by rw [← hV1]; exact hct
  have HV1 := Lib.hid hV1
  clear h ho hr hc hz hzu hf hct hV1
  go_enter Tryz.func13, Tryz.ntmps13
  go_upto_region 7 with (go_at_call 44; ((with_reducible refine CP.out.mono ?_); rintro e w1 ⟨rfl, b1⟩; have H1 := Lib.hid (And.intro (HH.out.new b1) (And.intro (HO.out.1.new b1) b1)); clear b1 c0; have c9 := H1.out.2.1.at_ 9 _ rfl; have y9 := H1.out.2.1.fz 9 (by show 9 < 13; decide)))
  have hs := Hf.set (i := 9) H1.out.1 HO.out.2 (.int .u64 z)
  have H2 := Lib.hid (And.intro hs.1 (And.intro (H1.out.2.1.set 9 (.int .u64 z) (by show 9 < 13; decide) (C' := rfC 2 0 z 0 d tk) rfl) (Kp.to (Kp.of (G := fun j => G j ∧ j ≠ r) H1.out.2.2) hs.2)))
  generalize hW2 : World.setCell w1 _ _ = W2 at *
  clear hW2 hs c9 y9 H1 CP
  have hd2 : Below W2.heap.size W2 W2.drew := (Below.refl _ _).drew
  have H3 := Lib.hid (And.intro (H2.out.1.new hd2) (And.intro (H2.out.2.1.new hd2) (Kp.to H2.out.2.2 (Kp.of hd2))))
  have c9 : W2.drew.cell? ⟨r, 9, none⟩ = some (.int .u64 z) := H3.out.2.1.at_ 9 _ rfl
  have c11 : W2.drew.cell? ⟨r, 11, none⟩ = some (.int .i64 d) := H3.out.2.1.at_ 11 _ rfl
  clear hd2
  go_region_held3 (fun X => X.cell? ⟨r, 9, none⟩ = some (.int .u64 z) ∧ X.cell? ⟨r, 11, none⟩ = some (.int .i64 d))
    (first | exact ⟨by assumption, by assumption⟩)
    (first | (go_at_call 45; ((with_reducible refine (CFL.out _).mono ?_); rintro e w3 ⟨rfl, rfl⟩)))
  generalize hW3 : World.drew W2 = W3 at *
  clear hW3 c9 c11 CFL H2
  have c1 := H3.out.2.1.at_ 1 _ rfl
  have y1 := H3.out.2.1.fz 1 (by show 1 < 13; decide)
  have hs := Hf.set (i := 1) H3.out.1 HO.out.2 (.int .u8 5)
  have H4 := Lib.hid (And.intro hs.1 (And.intro (H3.out.2.1.set 1 (.int .u8 5) (by show 1 < 13; decide) (C' := rfC 2 5 z 0 d tk) rfl) (Kp.to H3.out.2.2 hs.2)))
  go_upto_region 9 with (fail)
  generalize hW4 : World.setCell W3 _ _ = W4 at *
  clear hW4 hs c1 y1 H3
  have CC := H4.out.1.rload (a := 8) (by have := HC.out.1; omega) ⟨by decide, by decide⟩
  rw [HC.out.2.1, HV1.out] at CC
  have CC := Lib.hid CC
  go_upto_region 13 with (go_at_call 47; ((with_reducible refine CC.out.mono ?_); rintro e W6 ⟨rfl, h5, k5⟩; have H6 := Lib.hid (And.intro h5 (And.intro (ob_kp H4.out.2.1 k5 HO.out.2) (Kp.to H4.out.2.2 (k5.less (fun j g => g.1))))); clear h5 k5))
  clear CC H4
  have CS := Lib.hid (hf_rsteps H6.out.1 hc1)
  have c10 := H6.out.2.1.at_ 10 _ rfl
  have y10 := H6.out.2.1.fz 10 (by show 10 < 13; decide)
  have hs := Hf.set (i := 10) H6.out.1 HO.out.2 (.int .i64 c)
  have H7 := Lib.hid (And.intro hs.1 (And.intro (H6.out.2.1.set 10 (.int .i64 c) (by show 10 < 13; decide) (C' := rfC 2 5 z c d tk) rfl) (Kp.to H6.out.2.2 hs.2)))
  go_upto_region 14 with (go_at_call 48; ((with_reducible refine CS.out.mono ?_); rintro e w7 ⟨rfl, rfl⟩))
  generalize hW7 : World.setCell W6 _ _ = W7 at *
  clear hW7 hs c10 y10 H6 CS
  have c0 := H7.out.2.1.at_ 0 _ rfl
  have y0 := H7.out.2.1.fz 0 (by show 0 < 13; decide)
  have hs := Hf.set (i := 0) H7.out.1 HO.out.2 (.int .i64 3)
  have hres := And.intro hs.1 (And.intro (H7.out.2.1.set 0 (.int .i64 3) (by show 0 < 13; decide) (C' := rfC 3 5 z c d tk) rfl) (Kp.to H7.out.2.2 hs.2))
  go_wp2_with fail
  first
    | (go_end0; exact ⟨rfl, hres⟩)
    | exact bodyPost_ret (v := .tuple #[]) (by simp [results, Tryz.results13, go_sem]) rfl ⟨rfl, hres⟩
theorem rf_got_no (ho : Ob w r (rfC ln k ep pt d tk)) (hl : (ln != 0) = true) : Calls Tryz.prog 40 #[.pointer (some ⟨r, 0, none⟩)] w fun e w' => e = .returned (.tuple #[anV 0, .int .u64 0, .int .i64 0]) ∧ Below w.heap.size w w' := by
  have c0 := fl_up (W := w.alloc (Obj.cells #[.int .u8 0, .int .u64 0, .string ⟨#[]⟩, .string ⟨#[]⟩, .int .u32 0, .int .u64 0, .int .i64 0, .int .i64 0] 57)) (fl_bs (Below.refl _ _)) (ho.at_ 0 _ rfl)
  clear ho
  go_enter Tryz.func40, Tryz.ntmps40
  go_wp2_with fail
  refine bodyPost_ret (v := .tuple #[.agg #[.int .u8 0, .int .u64 0, .string ⟨#[]⟩, .string ⟨#[]⟩, .int .u32 0, .int .u64 0, .int .i64 0, .int .i64 0], .int .u64 0, .int .i64 0]) (by simp [results, Tryz.results40, go_sem]) rfl ⟨rfl, ?_⟩
  exact (Below.refl w.heap.size w).alloc (Nat.le_refl _) _
set_option maxHeartbeats 1000000 in
set_option maxRecDepth 100000 in
theorem rf_got (h : Ob w r (rfC 0 k z c d tk)) : Calls Tryz.prog 40 #[.pointer (some ⟨r, 0, none⟩)] w fun e w' => e = .returned (.tuple #[anV k, .int .u64 z, .int .i64 c]) ∧ Below w.heap.size w w' := by
  have KQ : Hid (∀ X, Below w.heap.size w X → X.cell? ⟨r, 1, none⟩ = some (.int .u8 k) ∧ X.cell? ⟨r, 2, none⟩ = some (.int .u64 0) ∧ X.cell? ⟨r, 3, none⟩ = some (.string ⟨#[]⟩) ∧ X.cell? ⟨r, 4, none⟩ = some (.string ⟨#[]⟩) ∧ X.cell? ⟨r, 5, none⟩ = some (.int .u32 0) ∧ X.cell? ⟨r, 6, none⟩ = some (.int .u64 0) ∧ X.cell? ⟨r, 7, none⟩ = some (.int .i64 0) ∧ X.cell? ⟨r, 8, none⟩ = some (.int .i64 0) ∧ X.cell? ⟨r, 9, none⟩ = some (.int .u64 z) ∧ X.cell? ⟨r, 10, none⟩ = some (.int .i64 c)) := Lib.hid (fun X hb => by
    have o := h.new hb
    exact ⟨o.at_ 1 _ rfl, o.at_ 2 _ rfl, o.at_ 3 _ rfl, o.at_ 4 _ rfl, o.at_ 5 _ rfl, o.at_ 6 _ rfl, o.at_ 7 _ rfl, o.at_ 8 _ rfl, o.at_ 9 _ rfl, o.at_ 10 _ rfl⟩)
  have c0 := fl_up (W := w.alloc (Obj.cells #[.int .u8 0, .int .u64 0, .string ⟨#[]⟩, .string ⟨#[]⟩, .int .u32 0, .int .u64 0, .int .i64 0, .int .i64 0] 57)) (fl_bs (Below.refl _ _)) (h.at_ 0 _ rfl)
  clear h
  go_enter Tryz.func40, Tryz.ntmps40
  go_upto_region 3 with (fail)
  obtain ⟨x1, x2, x3, x4, x5, x6, x7, x8, x9, x10⟩ := KQ.out _ (show Below w.heap.size w (w.alloc (Obj.cells #[.int .u8 0, .int .u64 0, .string ⟨#[]⟩, .string ⟨#[]⟩, .int .u32 0, .int .u64 0, .int .i64 0, .int .i64 0] 57)).drew from (fl_bs (Below.refl _ _)).drew)
  go_region_held3 (fun X => X.cell? ⟨r, 1, none⟩ = some (.int .u8 k) ∧ X.cell? ⟨r, 2, none⟩ = some (.int .u64 0) ∧ X.cell? ⟨r, 3, none⟩ = some (.string ⟨#[]⟩) ∧ X.cell? ⟨r, 4, none⟩ = some (.string ⟨#[]⟩) ∧ X.cell? ⟨r, 5, none⟩ = some (.int .u32 0) ∧ X.cell? ⟨r, 6, none⟩ = some (.int .u64 0) ∧ X.cell? ⟨r, 7, none⟩ = some (.int .i64 0) ∧ X.cell? ⟨r, 8, none⟩ = some (.int .i64 0) ∧ X.cell? ⟨r, 9, none⟩ = some (.int .u64 z) ∧ X.cell? ⟨r, 10, none⟩ = some (.int .i64 c))
    (first | exact ⟨by assumption, by assumption, by assumption, by assumption, by assumption, by assumption, by assumption, by assumption, by assumption, by assumption⟩ | exact KQ.out _ (fl_bs (Below.refl _ _)) | exact KQ.out _ (fl_bs (Below.refl _ _)).drew)
    (fail)
  all_goals
    go_wp2_with fail
    refine bodyPost_ret (v := .tuple #[.agg #[.int .u8 k, .int .u64 0, .string ⟨#[]⟩, .string ⟨#[]⟩, .int .u32 0, .int .u64 0, .int .i64 0, .int .i64 0], .int .u64 z, .int .i64 c]) (by simp [results, Tryz.results40, go_sem]) rfl ⟨rfl, ?_⟩
    first | exact fl_bs (Below.refl _ _) | exact (fl_bs (Below.refl _ _)).drew | trace_state
end
end Go.Proofs.YtaipbagnkjmddaaGreat
/- Next: A Flush beside the chapter's, in a pair of worlds: what stands of it; its step. -/
namespace Go.Proofs.YtaipbagnkjmddaaGreat
open Go.RowKit Go.Maps
set_option linter.unusedVariables false
section
variable {G : Nat → Prop} {w W : World} {A R : Ad} {V V2 : Wv} {q r : Nat}
/-- What the program does in its own world, as the pair sees it. -/
theorem Hf.frameA (h : Hf G w A R V V2) : ∃ T : Nat → Prop, WdG (fun k => G k ∨ T k) w A V ∧ (∀ k, T k → k < w.heap.size ∧ ¬ G k) ∧ ∀ (G' : Nat → Prop) w' V', WdG (fun k => G' k ∨ T k) w' A V' → (∀ k, G' k → ¬ T k) → Kp T w w' → Hf G' w' A R V' V2 := by
  obtain ⟨S, T, L, h1, ⟨r, hl, hn⟩, c, hd, hg, hlt⟩ := h
  have hT : ∀ j, T j → j < w.heap.size := by
    obtain ⟨TC, TI, TN, r⟩ := r
    exact r.lt
  refine ⟨T, ⟨S, h1, fun k g s => ?_, fun k g => ?_⟩, fun k t => ⟨hT k t, fun g => hg k g (.inr t)⟩, fun G' w' V' hw hGT hk => ?_⟩
  · rcases g with g | t
    · exact hg k g (.inl s)
    · exact hd k s t
  · rcases g with g | t
    · exact hlt k g
    · exact hT k t
  · obtain ⟨S', h1', d', l'⟩ := hw
    refine ⟨S', T, L, h1', ⟨r.keep hk (fun k t n => n t), hl, hn⟩, c, fun j s t => d' j (.inr t) s, fun k g s => ?_, fun k g => l' k (.inl g)⟩
    rcases s with s | t
    · exact d' k (.inl g) s
    · exact hGT k g t
end
/-- What stands of a Flush and of the chapter's: O has all of their blocks. -/
def FpS (O : Nat → Prop) (w : World) (q r : Nat) : Prop :=
  (O q ∧ O r ∧ q ≠ r) ∧
  ((∃ p b6 b5 b3 tk t d tick, t < 64 ∧ (O p ∧ O b6 ∧ O b5 ∧ O b3 ∧ O tk) ∧ (p ≠ q ∧ p ≠ r ∧ p ≠ b6 ∧ p ≠ b5 ∧ p ≠ b3 ∧ p ≠ tk) ∧ (b6 ≠ q ∧ b5 ≠ q ∧ b3 ≠ q ∧ tk ≠ q) ∧ (r ≠ tk ∧ r ≠ b6 ∧ r ≠ b5 ∧ r ≠ b3) ∧ (tk ≠ b6 ∧ tk ≠ b5 ∧ tk ≠ b3) ∧ Ob w q (flC (clo1 b6 b5 b3) 0 0 0) ∧ (w.cell? ⟨b6, 0, none⟩ = some (.pointer (some ⟨p, 0, none⟩)) ∧ w.cell? ⟨b5, 0, none⟩ = some (.pointer (some ⟨q, 0, none⟩)) ∧ w.cell? ⟨b3, 0, none⟩ = some (.int .i64 d)) ∧ Ob w r (rfC 1 0 0 0 d tk) ∧ ((Ob w p (tkC ((t : Nat) : Int) 0 false (mV 83 p)) ∧ Ob w tk (rtC 1 0 false ((t : Nat) : Int))) ∨ (Ob w p (tkC ((t : Nat) : Int) tick true (mV 116 p)) ∧ Ob w tk (rtC 2 tick true ((t : Nat) : Int))))) ∨
  (∃ b5 b3 tk d, (O b5 ∧ O b3) ∧ (b5 ≠ q ∧ b3 ≠ q ∧ b5 ≠ r ∧ b3 ≠ r) ∧ Ob w q (flC (clo2 b5 b3) 0 0 0) ∧ (w.cell? ⟨b5, 0, none⟩ = some (.pointer (some ⟨q, 0, none⟩)) ∧ w.cell? ⟨b3, 0, none⟩ = some (.int .i64 d)) ∧ Ob w r (rfC 2 0 0 0 d tk)) ∨
  (∃ g b8 b5 tk d k z c, (O g ∧ O b8 ∧ O b5) ∧ (g ≠ q ∧ g ≠ b8 ∧ g ≠ b5 ∧ g ≠ r) ∧ (b8 ≠ q ∧ b5 ≠ q ∧ b8 ≠ r ∧ b5 ≠ r) ∧ Ob w q (flC (clo3 b8 b5) k z c) ∧ Ob w g [mV 118 g] ∧ (w.cell? ⟨b8, 0, none⟩ = some (.pointer (some ⟨g, 0, none⟩)) ∧ w.cell? ⟨b5, 0, none⟩ = some (.pointer (some ⟨q, 0, none⟩))) ∧ Ob w r (rfC 3 k z c d tk)) ∨
  (∃ tk d k z c, Ob w q (flC .nilFunc k z c) ∧ Ob w r (rfC 0 k z c d tk)))
theorem FpS.keep {O U : Nat → Prop} {w W : World} {q r : Nat} (h : FpS O w q r) (hk : Keeps U w W) (hU : ∀ j, O j → ¬ U j) : FpS O W q r := by
  obtain ⟨⟨oq, or, hqr⟩, h⟩ := h
  refine ⟨⟨oq, or, hqr⟩, ?_⟩
  have cl : ∀ {b v}, O b → w.cell? ⟨b, 0, none⟩ = some v → W.cell? ⟨b, 0, none⟩ = some v := fun {b v} o hc => hk.cell (p := ⟨b, 0, none⟩) (hU b o) hc
  rcases h with ⟨p, b6, b5, b3, tk, t, d, tick, ht, ⟨o1, o2, o3, o4, o5⟩, n1, n2, n3, n4, hq, ⟨c6, c5, c3⟩, hr, h⟩ | ⟨b5, b3, tk, d, ⟨o3, o4⟩, n1, hq, ⟨c5, c3⟩, hr⟩ | ⟨g, b8, b5, tk, d, k, z, c, ⟨o1, o2, o3⟩, n1, n2, hq, hg, ⟨c8, c5⟩, hr⟩ | ⟨tk, d, k, z, c, hq, hr⟩
  · refine .inl ⟨p, b6, b5, b3, tk, t, d, tick, ht, ⟨o1, o2, o3, o4, o5⟩, n1, n2, n3, n4, hq.keep hk (hU _ oq), ⟨cl o2 c6, cl o3 c5, cl o4 c3⟩, hr.keep hk (hU _ or), ?_⟩
    rcases h with ⟨a, b⟩ | ⟨a, b⟩
    · exact .inl ⟨a.keep hk (hU _ o1), b.keep hk (hU _ o5)⟩
    · exact .inr ⟨a.keep hk (hU _ o1), b.keep hk (hU _ o5)⟩
  · exact .inr (.inl ⟨b5, b3, tk, d, ⟨o3, o4⟩, n1, hq.keep hk (hU _ oq), ⟨cl o3 c5, cl o4 c3⟩, hr.keep hk (hU _ or)⟩)
  · exact .inr (.inr (.inl ⟨g, b8, b5, tk, d, k, z, c, ⟨o1, o2, o3⟩, n1, n2, hq.keep hk (hU _ oq), hg.keep hk (hU _ o1), ⟨cl o2 c8, cl o3 c5⟩, hr.keep hk (hU _ or)⟩))
  · exact .inr (.inr (.inr ⟨tk, d, k, z, c, hq.keep hk (hU _ oq), hr.keep hk (hU _ or)⟩))
theorem FpS.new {O : Nat → Prop} {w W : World} {q r : Nat} (h : FpS O w q r) (hb : Below w.heap.size w W) : FpS O W q r := h.keep (U := fun _ => False) (Keeps.of_new hb) (fun _ _ s => s)
/-- What is told of it: alike. -/
theorem fp_tells {O : Nat → Prop} {w : World} {q r : Nat} (h : FpS O w q r) : ∃ (ln : Int) (ov : Bool) (k z c : Int), (ln == 0) = ov ∧ ∀ X, Below w.heap.size w X → X.cell? ⟨r, 0, none⟩ = some (.int .i64 ln) ∧ (Calls Tryz.prog 18 #[.pointer (some ⟨q, 0, none⟩)] X fun e w' => e = .returned (.bool ov) ∧ X = w') ∧ (Calls Tryz.prog 17 #[.pointer (some ⟨q, 0, none⟩)] X fun e w' => e = .returned (.tuple #[anV k, .int .u64 z, .int .i64 c]) ∧ Below X.heap.size X w') ∧ Calls Tryz.prog 40 #[.pointer (some ⟨r, 0, none⟩)] X fun e w' => e = .returned (.tuple #[anV k, .int .u64 z, .int .i64 c]) ∧ Below X.heap.size X w' := by
  obtain ⟨-, h⟩ := h
  rcases h with ⟨p, b6, b5, b3, tk, t, d, tick, ht, -, -, -, -, -, hq, -, hr, -⟩ | ⟨b5, b3, tk, d, -, -, hq, -, hr⟩ | ⟨g, b8, b5, tk, d, k, z, c, -, -, -, hq, -, -, hr⟩ | ⟨tk, d, k, z, c, hq, hr⟩
  · exact ⟨1, false, 0, 0, 0, rfl, fun X hX => ⟨(hr.new hX).at_ 0 _ rfl, fl_overn (hq.new hX), fl_got_no (hq.new hX), rf_got_no (hr.new hX) rfl⟩⟩
  · exact ⟨2, false, 0, 0, 0, rfl, fun X hX => ⟨(hr.new hX).at_ 0 _ rfl, fl_overn (hq.new hX), fl_got_no (hq.new hX), rf_got_no (hr.new hX) rfl⟩⟩
  · exact ⟨3, false, 0, 0, 0, rfl, fun X hX => ⟨(hr.new hX).at_ 0 _ rfl, fl_overn (hq.new hX), fl_got_no (hq.new hX), rf_got_no (hr.new hX) rfl⟩⟩
  · exact ⟨0, true, k, z, c, rfl, fun X hX => ⟨(hr.new hX).at_ 0 _ rfl, fl_over (hq.new hX), fl_got (hq.new hX), rf_got (hr.new hX)⟩⟩
end Go.Proofs.YtaipbagnkjmddaaGreat
/- Next: A Flush beside the chapter's: both take a step. -/
namespace Go.Proofs.YtaipbagnkjmddaaGreat
open Go.RowKit Go.Maps
set_option linter.unusedVariables false
section
variable {G H O : Nat → Prop} {w W X : World} {A R : Ad} {V V1 V2 : Wv} {p q r b3 b5 b6 b8 g tk : Nat} {d k z c u tick : Int} {C C' : List Value}
theorem xp_stepA (hop : Opw H w A V p C) (hq : H q) (ho : Ob w q (flC (clo1 b6 b5 b3) 0 0 0)) (c6 : w.cell? ⟨b6, 0, none⟩ = some (.pointer (some ⟨p, 0, none⟩))) (hs : Calls Tryz.prog 36 #[.pointer (some ⟨p, 0, none⟩), .pointer (some ⟨A.p, 0, none⟩)] w (OpP H w A V1 p C' false)) :
    Calls Tryz.prog 14 #[.pointer (some ⟨q, 0, none⟩), .pointer (some ⟨A.p, 0, none⟩)] w fun e w' => e = .returned (.bool false) ∧ Opw H w' A V1 p C' ∧ Kp H w w' := by
  refine fl_st1 (r := false) (P := fun w' => Opw H w' A V1 p C' ∧ Kp H w w') ho (fl_c1n c6 (hs.mono ?_)) ?_
  · rintro e w' ⟨he, h', hk⟩
    exact ⟨he, h', hk⟩
  · rintro w' ⟨h', hk⟩
    exact fl_overn (ob_kp ho hk hq)
theorem xp_stepB (hop : Opw H w A V p C) (hq : H q) (h5 : H b5) (ho : Ob w q (flC (clo1 b6 b5 b3) 0 0 0)) (c6 : w.cell? ⟨b6, 0, none⟩ = some (.pointer (some ⟨p, 0, none⟩))) (c5 : w.cell? ⟨b5, 0, none⟩ = some (.pointer (some ⟨q, 0, none⟩))) (hs : Calls Tryz.prog 36 #[.pointer (some ⟨p, 0, none⟩), .pointer (some ⟨A.p, 0, none⟩)] w (OpP H w A V1 p C' true)) :
    Calls Tryz.prog 14 #[.pointer (some ⟨q, 0, none⟩), .pointer (some ⟨A.p, 0, none⟩)] w fun e w' => e = .returned (.bool false) ∧ WdG (fun j => H j ∨ j = p) w' A V1 ∧ Ob w' q (flC (clo2 b5 b3) 0 0 0) ∧ Kp (fun j => H j ∧ j ≠ q) w w' := by
  refine fl_st1 (r := false) (P := fun w' => WdG (fun j => H j ∨ j = p) w' A V1 ∧ Ob w' q (flC (clo2 b5 b3) 0 0 0) ∧ Kp (fun j => H j ∧ j ≠ q) w w') ho ((fl_c1y (q := q) (nx := clo1 b6 b5 b3) (k := 0) (ep := 0) (pt := 0) (P := fun w' => Opw H w' A V1 p C' ∧ Kp H w w') c6 (hs.mono ?_) ?_).mono ?_) ?_
  · rintro e w' ⟨he, h', hk⟩
    exact ⟨he, h', hk⟩
  · rintro w' ⟨h', hk⟩
    exact ⟨hk.cell (p := ⟨b5, 0, none⟩) (fun n => n h5) c5, ob_kp ho hk hq⟩
  · rintro e w'' ⟨he, w', ⟨h', hk⟩, rfl⟩
    have ks : Keeps (fun j => j = q) w' (w'.setCell ⟨q, 0, none⟩ (clo2 b5 b3)) := Keeps.setCell (S := fun j => j = q) (Keeps.refl _ w') (p := ⟨q, 0, none⟩) (.inl rfl) _
    exact ⟨he, fl_keep h'.wdG ks (fun k e => e ▸ .inl hq), (ob_kp ho hk hq).set 0 _ (by show 0 < 11; decide) rfl, Kp.to (hk.less (fun j g => g.1)) (ks.mono (fun j _ e g => g.2 e))⟩
  · rintro w' ⟨h', ho', -⟩
    exact fl_overn ho'
theorem xp_stepC (hop : Opw H w A V q (flC (clo2 b5 b3) 0 0 0)) (c5 : w.cell? ⟨b5, 0, none⟩ = some (.pointer (some ⟨q, 0, none⟩))) (c3 : w.cell? ⟨b3, 0, none⟩ = some (.int .i64 d)) (hs : Calls Tryz.prog 38 #[.pointer (some ⟨q, 0, none⟩), .pointer (some ⟨A.p, 0, none⟩), .int .i64 d] w (FlR H w A V1 q k z c)) :
    Calls Tryz.prog 14 #[.pointer (some ⟨q, 0, none⟩), .pointer (some ⟨A.p, 0, none⟩)] w fun e w' => e = .returned (.bool false) ∧ ∃ g b8 b5, Opw (fun j => ((H j ∨ j = b5) ∨ j = g) ∨ j = b8) w' A V1 q (flC (clo3 b8 b5) k z c) ∧ Ob w' g [mV 118 g] ∧ w'.cell? ⟨b8, 0, none⟩ = some (.pointer (some ⟨g, 0, none⟩)) ∧ w'.cell? ⟨b5, 0, none⟩ = some (.pointer (some ⟨q, 0, none⟩)) ∧ (w.heap.size ≤ b5 ∧ b5 < g ∧ g < b8 ∧ b8 < w'.heap.size) ∧ Kp H w w' := by
  refine fl_st2 (r := false) (P := fun w' => ∃ g b8 b5, Opw (fun j => ((H j ∨ j = b5) ∨ j = g) ∨ j = b8) w' A V1 q (flC (clo3 b8 b5) k z c) ∧ Ob w' g [mV 118 g] ∧ w'.cell? ⟨b8, 0, none⟩ = some (.pointer (some ⟨g, 0, none⟩)) ∧ w'.cell? ⟨b5, 0, none⟩ = some (.pointer (some ⟨q, 0, none⟩)) ∧ (w.heap.size ≤ b5 ∧ b5 < g ∧ g < b8 ∧ b8 < w'.heap.size) ∧ Kp H w w') hop.ob (fl_c2 c5 c3 (hs.mono ?_)) ?_
  · rintro e w' ⟨he, h'⟩
    exact ⟨he, h'⟩
  · rintro w' ⟨g, b8, b5, h', -⟩
    exact fl_overn h'.ob
theorem xp_stepD (hop : Opw H w A V g C) (hq : H q) (h5 : H b5) (ho : Ob w q (flC (clo3 b8 b5) k z c)) (c8 : w.cell? ⟨b8, 0, none⟩ = some (.pointer (some ⟨g, 0, none⟩))) (c5 : w.cell? ⟨b5, 0, none⟩ = some (.pointer (some ⟨q, 0, none⟩))) (hs : Calls Tryz.prog 88 #[.pointer (some ⟨g, 0, none⟩), .pointer (some ⟨A.p, 0, none⟩)] w (OpP H w A V1 g C' true)) :
    Calls Tryz.prog 14 #[.pointer (some ⟨q, 0, none⟩), .pointer (some ⟨A.p, 0, none⟩)] w fun e w' => e = .returned (.bool true) ∧ WdG (fun j => H j ∨ j = g) w' A V1 ∧ Ob w' q (flC .nilFunc k z c) ∧ Kp (fun j => H j ∧ j ≠ q) w w' := by
  refine fl_st3 (r := true) (P := fun w' => WdG (fun j => H j ∨ j = g) w' A V1 ∧ Ob w' q (flC .nilFunc k z c) ∧ Kp (fun j => H j ∧ j ≠ q) w w') ho ((fl_c3 (q := q) (nx := clo3 b8 b5) (k := k) (ep := z) (pt := c) (r := true) (P := fun w' => Opw H w' A V1 g C' ∧ Kp H w w') c8 (hs.mono ?_) ?_).mono ?_) ?_
  · rintro e w' ⟨he, h', hk⟩
    exact ⟨he, h', hk⟩
  · rintro w' ⟨h', hk⟩
    exact ⟨hk.cell (p := ⟨b5, 0, none⟩) (fun n => n h5) c5, ob_kp ho hk hq⟩
  · rintro e w'' ⟨he, w', ⟨h', hk⟩, rfl⟩
    have ks : Keeps (fun j => j = q) w' (w'.setCell ⟨q, 0, none⟩ .nilFunc) := Keeps.setCell (S := fun j => j = q) (Keeps.refl _ w') (p := ⟨q, 0, none⟩) (.inl rfl) _
    exact ⟨he, fl_keep h'.wdG ks (fun k e => e ▸ .inl hq), (ob_kp ho hk hq).set 0 _ (by show 0 < 11; decide) rfl, Kp.to (hk.less (fun j g => g.1)) (ks.mono (fun j _ e g => g.2 e))⟩
  · rintro w' ⟨h', ho', -⟩
    exact fl_over ho'
/-- What both steps leave. -/
def FpT (G O : Nat → Prop) (A R : Ad) (V' : Wv) (q r : Nat) (ln : Int) (ov : Bool) (X : World) (e : Ending) (w2 : World) : Prop := e = .returned (.bool ov) ∧ ∃ N : Nat → Prop, (∀ j, N j → X.heap.size ≤ j ∧ j < w2.heap.size) ∧ Hf (fun j => G j ∨ N j) w2 A R V' V' ∧ FpS (fun j => O j ∨ N j) w2 q r ∧ Kp (fun j => G j ∧ ¬ O j) X w2 ∧ w2.cell? ⟨r, 0, none⟩ = some (.int .i64 ln)
theorem fpt_same {ln : Int} {ov : Bool} {e : Ending} {w2 : World} (he : e = .returned (.bool ov)) (h : Hf G w2 A R V1 V1) (hx : FpS O w2 q r) (hk : Kp (fun j => G j ∧ ¬ O j) X w2) (hl : w2.cell? ⟨r, 0, none⟩ = some (.int .i64 ln)) : FpT G O A R V1 q r ln ov X e w2 := by
  refine ⟨he, fun _ => False, fun j f => f.elim, h.less (fun j g => by rcases g with g | g; exact g; exact g.elim), ?_, hk, hl⟩
  rw [show (fun j => O j ∨ False) = O from funext (fun j => by simp)]
  exact hx
end
end Go.Proofs.YtaipbagnkjmddaaGreat
/- Next: A Flush beside the chapter's: both take a step, alike. -/
namespace Go.Proofs.YtaipbagnkjmddaaGreat
open Go.RowKit Go.Maps
set_option linter.unusedVariables false
section
variable {G O : Nat → Prop} {w W X : World} {A R : Ad} {V V1 V2 : Wv} {p q r : Nat} {C : List Value}
theorem fp_lift (h : Hf G X A R V V2) (hp : G p) (hpo : Ob X p C) : ∃ H : Nat → Prop, (∀ k, G k → k ≠ p → H k) ∧ ¬ H p ∧ Opw H X A V p C ∧ ∀ (N b : Nat → Prop) w' V', WdG (fun k => (H k ∨ k = p) ∨ N k) w' A V' → (∀ j, N j → X.heap.size ≤ j) → (∀ k, b k → G k) → Kp (fun k => H k ∧ ¬ b k) X w' → Hf (fun k => G k ∨ N k) w' A R V' V2 ∧ Kp (fun k => G k ∧ k ≠ p ∧ ¬ b k) X w' := by
  obtain ⟨T, hw, hT, back⟩ := h.frameA
  refine ⟨fun k => (G k ∧ k ≠ p) ∨ T k, fun k g n => .inl ⟨g, n⟩, fun g => ?_, fl_of hw hpo (.inl hp) (fun k g => ?_) (fun g => ?_), fun N b w' V' hw' hN hb hk => ⟨back _ w' V' (fl_lessW hw' (fun k g => ?_)) (fun k g t => ?_) (hk.less (fun j t => ⟨.inr t, fun bj => (hT j t).2 (hb j bj)⟩)), hk.less (fun j g => ⟨.inl ⟨g.1, g.2.1⟩, g.2.2⟩)⟩⟩
  · rcases g with g | g
    · exact g.2 rfl
    · exact (hT p g).2 hp
  · rcases g with g | g
    · exact .inl g.1
    · exact .inr g
  · rcases g with g | g
    · exact g.2 rfl
    · exact (hT p g).2 hp
  · rcases g with (g | g) | g
    · by_cases e : k = p
      · exact .inl (.inr e)
      · exact .inl (.inl (.inl ⟨g, e⟩))
    · exact .inr g
    · exact .inl (.inl (.inr g))
  · rcases g with g | g
    · exact (hT k t).2 g
    · have := hT k t
      have := hN k g
      omega
theorem hf_no (h : Hf (fun k => G k ∨ False) w A R V V2) : Hf G w A R V V2 := h.less (fun k g => .inl g)
/-- What the two steps do. -/
def FpW (G O : Nat → Prop) (A R : Ad) (V : Wv) (q r : Nat) (w : World) : Prop := ∃ (ln : Int) (ov : Bool) (V' : Wv), (ln == 0) = ov ∧ (V'.M = V.M ∧ V'.I = V.I ∧ V'.cnt ≤ V.cnt + 1) ∧ Calls Tryz.prog 13 #[.pointer (some ⟨r, 0, none⟩), .pointer (some ⟨R.p, 0, none⟩)] w fun e w1 => e = .returned (.tuple #[]) ∧ w1.cell? ⟨r, 0, none⟩ = some (.int .i64 ln) ∧ Kp (fun j => G j ∧ ¬ O j) w w1 ∧ ∀ X, Below w1.heap.size w1 X → Calls Tryz.prog 14 #[.pointer (some ⟨q, 0, none⟩), .pointer (some ⟨A.p, 0, none⟩)] X (FpT G O A R V' q r ln ov X)
theorem fp_two (h : Hf G w A R V V) (hx : FpS O w q r) (hG : ∀ j, O j → G j) (hc : V.cnt < 1000000) : FpW G O A R V q r w := by
  obtain ⟨⟨oq, or, hqr⟩, hx⟩ := hx
  have gq := hG q oq
  have gr := hG r or
  have lq := h.lts q gq
  have lr := h.lts r gr
  rcases hx with ⟨p, b6, b5, b3, tk, t, d, tick, ht, ⟨op, o6, o5, o3, ok⟩, ⟨npq, npr, np6, np5, np3, npk⟩, ⟨n6q, n5q, n3q, nkq⟩, ⟨nrk, nr6, nr5, nr3⟩, ⟨nk6, nk5, nk3⟩, hq, ⟨c6, c5, c3⟩, hr, hx⟩ | ⟨b5, b3, tk, d, ⟨o5, o3⟩, ⟨n5q, n3q, n5r, n3r⟩, hq, ⟨c5, c3⟩, hr⟩ | ⟨g, b8, b5, tk, d, k, z, c, ⟨og, o8, o5⟩, ⟨ngq, ng8, ng5, ngr⟩, ⟨n8q, n5q, n8r, n5r⟩, hq, hg, ⟨c8, c5⟩, hr⟩ | ⟨tk, d, k, z, c, hq, hr⟩
  · rcases hx with ⟨hp, hk⟩ | ⟨hp, hk⟩
    · refine ⟨1, false, (V.acc (upd V.f 0 (IntKind.u64.wrap (V.f 0 + 1))) 4 0 (V.f 0) (IntKind.u64.wrap (V.f 0 + 1))).tkset t (IntKind.u64.wrap (V.f 0 + 1)), rfl, ⟨rfl, rfl, Int.le_refl _⟩, ?_⟩
      refine (rf_s1n (ln := 2) gr hr nrk (rt_step1 ht h (hG _ ok) hk (by omega) rfl rfl) rfl rfl).mono ?_
      rintro e w1 ⟨he, h1, hk1, hr1, k1⟩
      have K1 : Kp (fun j => G j ∧ ¬ O j) w w1 := k1.less (fun j g => ⟨g.1, fun e => g.2 (e ▸ ok)⟩)
      refine ⟨he, hr1.at_ 0 _ rfl, K1, fun X hX => ?_⟩
      have hq1 := (ob_kp hq k1 ⟨gq, fun e => nkq e.symm⟩).new hX
      have hp1 := (ob_kp hp k1 ⟨hG _ op, npk⟩).new hX
      have d6 := fl_up hX (k1.cell (p := ⟨b6, 0, none⟩) (fun n => n ⟨hG _ o6, fun e => nk6 e.symm⟩) c6)
      have d5 := fl_up hX (k1.cell (p := ⟨b5, 0, none⟩) (fun n => n ⟨hG _ o5, fun e => nk5 e.symm⟩) c5)
      have d3 := fl_up hX (k1.cell (p := ⟨b3, 0, none⟩) (fun n => n ⟨hG _ o3, fun e => nk3 e.symm⟩) c3)
      obtain ⟨H, hH, hHp, hop, back⟩ := fp_lift (h1.new hX) (hG _ op) hp1
      refine (xp_stepA hop (hH q gq (fun e => npq e.symm)) hq1 d6 (tk_step1 ht hop (by omega) rfl rfl)).mono ?_
      rintro e w2 ⟨he2, h2, k2⟩
      obtain ⟨hf, K2⟩ := back (fun _ => False) (fun _ => False) w2 _ (fl_lessW h2.wdG (fun k g => by rcases g with g | g; exact g; exact g.elim)) (fun j f => f.elim) (fun k f => f.elim) (k2.less (fun j g => g.1))
      have KK : ∀ {b v}, G b → b ≠ p → X.cell? ⟨b, 0, none⟩ = some v → w2.cell? ⟨b, 0, none⟩ = some v := fun {b v} g n hc => K2.cell (p := ⟨b, 0, none⟩) (fun f => f ⟨g, n, fun x => x⟩) hc
      have hr2 := ob_kp (hr1.new hX) K2 ⟨gr, fun e => npr e.symm, fun x => x⟩
      exact fpt_same he2 (hf_no hf) ⟨⟨oq, or, hqr⟩, .inl ⟨p, b6, b5, b3, tk, t, d, V.f 0, ht, ⟨op, o6, o5, o3, ok⟩, ⟨npq, npr, np6, np5, np3, npk⟩, ⟨n6q, n5q, n3q, nkq⟩, ⟨nrk, nr6, nr5, nr3⟩, ⟨nk6, nk5, nk3⟩, ob_kp hq1 K2 ⟨gq, fun e => npq e.symm, fun x => x⟩, ⟨KK (hG _ o6) (fun e => np6 e.symm) d6, KK (hG _ o5) (fun e => np5 e.symm) d5, KK (hG _ o3) (fun e => np3 e.symm) d3⟩, hr2, .inr ⟨h2.ob, ob_kp (hk1.new hX) K2 ⟨hG _ ok, fun e => npk e.symm, fun x => x⟩⟩⟩⟩ (K2.less (fun j g => ⟨g.1, fun e => g.2 (e ▸ op), fun x => x⟩)) (hr2.at_ 0 _ rfl)
    · by_cases hs : V.f 1 = tick
      · refine ⟨2, false, ((V.acc V.f 1 1 tick tick).tkset t 0).hset t, rfl, ⟨rfl, rfl, Int.le_refl _⟩, ?_⟩
        refine (rf_s1y gr hr nrk (rt_step2 ht h (hG _ ok) hk (by omega) hs) rfl).mono ?_
        rintro e w1 ⟨he, h1, hr1, k1⟩
        have K1 : Kp (fun j => G j ∧ ¬ O j) w w1 := k1.less (fun j g => ⟨g.1, fun e => g.2 (e ▸ ok), fun e => g.2 (e ▸ or)⟩)
        refine ⟨he, hr1.at_ 0 _ rfl, K1, fun X hX => ?_⟩
        have hq1 := (ob_kp hq k1 ⟨gq, fun e => nkq e.symm, hqr⟩).new hX
        have hp1 := (ob_kp hp k1 ⟨hG _ op, npk, npr⟩).new hX
        have d6 := fl_up hX (k1.cell (p := ⟨b6, 0, none⟩) (fun n => n ⟨hG _ o6, fun e => nk6 e.symm, fun e => nr6 e.symm⟩) c6)
        have d5 := fl_up hX (k1.cell (p := ⟨b5, 0, none⟩) (fun n => n ⟨hG _ o5, fun e => nk5 e.symm, fun e => nr5 e.symm⟩) c5)
        have d3 := fl_up hX (k1.cell (p := ⟨b3, 0, none⟩) (fun n => n ⟨hG _ o3, fun e => nk3 e.symm, fun e => nr3 e.symm⟩) c3)
        obtain ⟨H, hH, hHp, hop, back⟩ := fp_lift (h1.new hX) (hG _ op) hp1
        refine (xp_stepB hop (hH q gq (fun e => npq e.symm)) (hH b5 (hG _ o5) (fun e => np5 e.symm)) hq1 d6 d5 (tk_step2 ht hop (by omega) hs)).mono ?_
        rintro e w2 ⟨he2, h2, hq2, k2⟩
        obtain ⟨hf, K2⟩ := back (fun _ => False) (fun j => j = q) w2 _ (fl_lessW h2 (fun k g => by rcases g with g | g; exact g; exact g.elim)) (fun j f => f.elim) (fun k e => e ▸ gq) k2
        have KK : ∀ {b v}, G b → b ≠ p → b ≠ q → X.cell? ⟨b, 0, none⟩ = some v → w2.cell? ⟨b, 0, none⟩ = some v := fun {b v} g n n2 hc => K2.cell (p := ⟨b, 0, none⟩) (fun f => f ⟨g, n, n2⟩) hc
        have hr2 := ob_kp (hr1.new hX) K2 ⟨gr, fun e => npr e.symm, fun e => hqr e.symm⟩
        exact fpt_same he2 (hf_no hf) ⟨⟨oq, or, hqr⟩, .inr (.inl ⟨b5, b3, tk, d, ⟨o5, o3⟩, ⟨n5q, n3q, fun e => nr5 e.symm, fun e => nr3 e.symm⟩, hq2, ⟨KK (hG _ o5) (fun e => np5 e.symm) n5q d5, KK (hG _ o3) (fun e => np3 e.symm) n3q d3⟩, hr2⟩)⟩ (K2.less (fun j g => ⟨g.1, fun e => g.2 (e ▸ op), fun e => g.2 (e ▸ oq)⟩)) (hr2.at_ 0 _ rfl)
      · refine ⟨1, false, V.acc V.f 1 1 (V.f 1) (V.f 1), rfl, ⟨rfl, rfl, Int.le_refl _⟩, ?_⟩
        refine (rf_s1n (ln := 2) gr hr nrk (rt_step2n h (hG _ ok) hk (by omega) rfl (by simpa using hs)) rfl rfl).mono ?_
        rintro e w1 ⟨he, h1, hk1, hr1, k1⟩
        have K1 : Kp (fun j => G j ∧ ¬ O j) w w1 := k1.less (fun j g => ⟨g.1, fun e => g.2 (e ▸ ok)⟩)
        refine ⟨he, hr1.at_ 0 _ rfl, K1, fun X hX => ?_⟩
        have hq1 := (ob_kp hq k1 ⟨gq, fun e => nkq e.symm⟩).new hX
        have hp1 := (ob_kp hp k1 ⟨hG _ op, npk⟩).new hX
        have d6 := fl_up hX (k1.cell (p := ⟨b6, 0, none⟩) (fun n => n ⟨hG _ o6, fun e => nk6 e.symm⟩) c6)
        have d5 := fl_up hX (k1.cell (p := ⟨b5, 0, none⟩) (fun n => n ⟨hG _ o5, fun e => nk5 e.symm⟩) c5)
        have d3 := fl_up hX (k1.cell (p := ⟨b3, 0, none⟩) (fun n => n ⟨hG _ o3, fun e => nk3 e.symm⟩) c3)
        obtain ⟨H, hH, hHp, hop, back⟩ := fp_lift (h1.new hX) (hG _ op) hp1
        refine (xp_stepA hop (hH q gq (fun e => npq e.symm)) hq1 d6 (tk_step2n hop (by omega) rfl (by simpa using hs))).mono ?_
        rintro e w2 ⟨he2, h2, k2⟩
        obtain ⟨hf, K2⟩ := back (fun _ => False) (fun _ => False) w2 _ (fl_lessW h2.wdG (fun k g => by rcases g with g | g; exact g; exact g.elim)) (fun j f => f.elim) (fun k f => f.elim) (k2.less (fun j g => g.1))
        have KK : ∀ {b v}, G b → b ≠ p → X.cell? ⟨b, 0, none⟩ = some v → w2.cell? ⟨b, 0, none⟩ = some v := fun {b v} g n hc => K2.cell (p := ⟨b, 0, none⟩) (fun f => f ⟨g, n, fun x => x⟩) hc
        have hr2 := ob_kp (hr1.new hX) K2 ⟨gr, fun e => npr e.symm, fun x => x⟩
        exact fpt_same he2 (hf_no hf) ⟨⟨oq, or, hqr⟩, .inl ⟨p, b6, b5, b3, tk, t, d, tick, ht, ⟨op, o6, o5, o3, ok⟩, ⟨npq, npr, np6, np5, np3, npk⟩, ⟨n6q, n5q, n3q, nkq⟩, ⟨nrk, nr6, nr5, nr3⟩, ⟨nk6, nk5, nk3⟩, ob_kp hq1 K2 ⟨gq, fun e => npq e.symm, fun x => x⟩, ⟨KK (hG _ o6) (fun e => np6 e.symm) d6, KK (hG _ o5) (fun e => np5 e.symm) d5, KK (hG _ o3) (fun e => np3 e.symm) d3⟩, hr2, .inr ⟨h2.ob, ob_kp (hk1.new hX) K2 ⟨hG _ ok, fun e => npk e.symm, fun x => x⟩⟩⟩⟩ (K2.less (fun j g => ⟨g.1, fun e => g.2 (e ▸ op), fun x => x⟩)) (hr2.at_ 0 _ rfl)
  · have hzu : isU (V.f 8) := h.rng ⟨by decide, by decide⟩
    have key : ∀ (kk : Int) (VN : Wv), (VN.M = V.M ∧ VN.I = V.I ∧ VN.cnt ≤ V.cnt + 1) → Calls Tryz.prog 13 #[.pointer (some ⟨r, 0, none⟩), .pointer (some ⟨R.p, 0, none⟩)] w (fun e w' => e = .returned (.tuple #[]) ∧ Hf G w' A R V VN ∧ Ob w' r (rfC 3 kk (V.f 8) (V.cnt + 1) d tk) ∧ Kp (fun j => G j ∧ j ≠ r) w w') → (∀ (H : Nat → Prop) (Y : World), Opw H Y A V q (flC (clo2 b5 b3) 0 0 0) → Calls Tryz.prog 38 #[.pointer (some ⟨q, 0, none⟩), .pointer (some ⟨A.p, 0, none⟩), .int .i64 d] Y (FlR H Y A VN q kk (V.f 8) (V.cnt + 1))) → FpW G O A R V q r w := by
      intro kk VN hVN hS hF
      refine ⟨3, false, VN, rfl, hVN, hS.mono ?_⟩
      rintro e w1 ⟨he, h1, hr1, k1⟩
      refine ⟨he, hr1.at_ 0 _ rfl, k1.less (fun j g => ⟨g.1, fun e => g.2 (e ▸ or)⟩), fun X hX => ?_⟩
      have hq1 := (ob_kp hq k1 ⟨gq, hqr⟩).new hX
      have d5 := fl_up hX (k1.cell (p := ⟨b5, 0, none⟩) (fun n => n ⟨hG _ o5, n5r⟩) c5)
      have d3 := fl_up hX (k1.cell (p := ⟨b3, 0, none⟩) (fun n => n ⟨hG _ o3, n3r⟩) c3)
      obtain ⟨H, hH, hHp, hop, back⟩ := fp_lift (h1.new hX) gq hq1
      refine (xp_stepC hop d5 d3 (hF _ _ hop)).mono ?_
      rintro e w2 ⟨he2, g, b8, b5', h2, hg2, e8, e5, ⟨l1, l2, l3, l4⟩, k2⟩
      have lX : w.heap.size ≤ X.heap.size := Nat.le_trans k1.size hX.size
      obtain ⟨hf, K2⟩ := back (fun j => j = b5' ∨ j = g ∨ j = b8) (fun _ => False) w2 _ (fl_lessW h2.wdG (fun k g => by
        rcases g with (g | g) | g | g | g
        · exact .inl (.inl (.inl (.inl g)))
        · exact .inr g
        · exact .inl (.inl (.inl (.inr g)))
        · exact .inl (.inl (.inr g))
        · exact .inl (.inr g))) (fun j f => by omega) (fun k f => f.elim) (k2.less (fun j g => g.1))
      have hr2 := ob_kp (hr1.new hX) K2 ⟨gr, fun e => hqr e.symm, fun x => x⟩
      exact ⟨he2, fun j => j = b5' ∨ j = g ∨ j = b8, fun j f => by omega, hf, ⟨⟨.inl oq, .inl or, hqr⟩, .inr (.inr (.inl ⟨g, b8, b5', tk, d, kk, V.f 8, V.cnt + 1, ⟨.inr (.inr (.inl rfl)), .inr (.inr (.inr rfl)), .inr (.inl rfl)⟩, ⟨by omega, by omega, by omega, by omega⟩, ⟨by omega, by omega, by omega, by omega⟩, h2.ob, hg2, ⟨e8, e5⟩, hr2⟩))⟩, K2.less (fun j g => ⟨g.1, fun e => g.2 (e ▸ oq), fun x => x⟩), hr2.at_ 0 _ rfl⟩
    cases hf : flushes (V.f 8) with
    | true => exact key 10 (V.acc (upd V.f 8 (flushf (V.f 8) d)) 3 8 (V.f 8) (flushf (V.f 8) d)) ⟨rfl, rfl, Int.le_refl _⟩ (rf_s2Y h gr hr (by omega) rfl hzu hf rfl rfl) (fun H Y hop => fl_flY hop (by omega) rfl hf rfl rfl)
    | false => exact key 5 (V.acc V.f 1 8 (V.f 8) (V.f 8)) ⟨rfl, rfl, Int.le_refl _⟩ (rf_s2N h gr hr (by omega) rfl hzu hf rfl rfl) (fun H Y hop => fl_flN hop (by omega) rfl hf rfl rfl)
  · refine ⟨0, true, (V.acc (upd V.f 1 (IntKind.u64.wrap (V.f 1 + 1))) 4 1 (V.f 1) (IntKind.u64.wrap (V.f 1 + 1))).hset (-1), rfl, ⟨rfl, rfl, Int.le_refl _⟩, ?_⟩
    refine (rf_s3 h gr hr (by omega) rfl rfl).mono ?_
    rintro e w1 ⟨he, h1, hr1, k1⟩
    refine ⟨he, hr1.at_ 0 _ rfl, k1.less (fun j g => ⟨g.1, fun e => g.2 (e ▸ or)⟩), fun X hX => ?_⟩
    have hq1 := (ob_kp hq k1 ⟨gq, hqr⟩).new hX
    have hg1 := (ob_kp hg k1 ⟨hG _ og, ngr⟩).new hX
    have d8 := fl_up hX (k1.cell (p := ⟨b8, 0, none⟩) (fun n => n ⟨hG _ o8, n8r⟩) c8)
    have d5 := fl_up hX (k1.cell (p := ⟨b5, 0, none⟩) (fun n => n ⟨hG _ o5, n5r⟩) c5)
    obtain ⟨H, hH, hHp, hop, back⟩ := fp_lift (h1.new hX) (hG _ og) hg1
    refine (xp_stepD hop (hH q gq (fun e => ngq e.symm)) (hH b5 (hG _ o5) (fun e => ng5 e.symm)) hq1 d8 d5 (gv_step hop (by omega) rfl rfl)).mono ?_
    rintro e w2 ⟨he2, h2, hq2, k2⟩
    obtain ⟨hf, K2⟩ := back (fun _ => False) (fun j => j = q) w2 _ (fl_lessW h2 (fun k g => by rcases g with g | g; exact g; exact g.elim)) (fun j f => f.elim) (fun k e => e ▸ gq) k2
    have hr2 := ob_kp (hr1.new hX) K2 ⟨gr, fun e => ngr e.symm, fun e => hqr e.symm⟩
    exact fpt_same he2 (hf_no hf) ⟨⟨oq, or, hqr⟩, .inr (.inr (.inr ⟨tk, d, k, z, c, hq2, hr2⟩))⟩ (K2.less (fun j g => ⟨g.1, fun e => g.2 (e ▸ og), fun e => g.2 (e ▸ oq)⟩)) (hr2.at_ 0 _ rfl)
  · refine ⟨0, true, V, rfl, ⟨rfl, rfl, by omega⟩, ?_⟩
    refine (rf_s0 h hr).mono ?_
    rintro e w1 ⟨he, rfl⟩
    refine ⟨he, hr.at_ 0 _ rfl, Keeps.refl _ _, fun X hX => ?_⟩
    refine (fl_st_over (hq.new hX) _).mono ?_
    rintro e w2 ⟨he2, rfl⟩
    exact fpt_same he2 (h.new hX) ⟨⟨oq, or, hqr⟩, .inr (.inr (.inr ⟨tk, d, k, z, c, hq.new hX, hr.new hX⟩))⟩ (Keeps.refl _ _) ((hr.new hX).at_ 0 _ rfl)
end
end Go.Proofs.YtaipbagnkjmddaaGreat
/- Next: A Flush beside the chapter's: they tell alike. -/
namespace Go.Proofs.YtaipbagnkjmddaaGreat
open Go.RowKit Go.Maps
set_option linter.unusedVariables false
theorem belowFp {w : World} (n : Nat) : Below w.heap.size w (w.drewN n) := by
  induction n with
  | zero => exact Below.refl _ _
  | succ n ih => exact ih.drew
set_option maxHeartbeats 1000000 in
set_option maxRecDepth 100000 in
theorem fp_same {O : Nat → Prop} {w : World} {q r : Nat} (h : FpS O w q r) : Calls Tryz.prog 10 #[.agg #[.pointer (some ⟨q, 0, none⟩), .pointer (some ⟨r, 0, none⟩)]] w fun e w' => e = .returned (.bool true) ∧ Below w.heap.size w w' := by
  obtain ⟨ln, ov, k, z, c, hov, ht⟩ := fp_tells h
  unfold anV at ht
  have HT := Lib.hid ht
  have hoo : (ov == ov) = true := by simp
  have hz : (z == z) = true := by simp
  have hc : (c == c) = true := by simp
  clear h ht
  go_enter Tryz.func10, Tryz.ntmps10
  go_upto_region 1 with (fail)
  obtain ⟨B, hB⟩ : ∃ B, B = w.heap.size := ⟨_, rfl⟩
  generalize hW1 : World.alloc w _ = W1
  rw [← hB]
  have b1 : Below w.heap.size w W1 := by rw [← hW1]; exact fl_bs (Below.refl _ _)
  have x0 : W1.cell? ⟨B, 0, none⟩ = some (.pointer (some ⟨q, 0, none⟩)) := by rw [← hW1]; exact fl_new hB rfl
  have x1 : W1.cell? ⟨B, 1, none⟩ = some (.pointer (some ⟨r, 0, none⟩)) := by rw [← hW1]; exact fl_new hB rfl
  have B1 := Lib.hid b1
  clear hW1 hB b1
  go_upto_region 2 with (go_at_call 17; ((with_reducible refine (HT.out _ B1.out).2.2.1.mono ?_); rintro e w2 ⟨rfl, b2⟩; replace x0 := fl_up b2 x0; replace x1 := fl_up b2 x1; have B2 := Lib.hid (below_then B1.out b2); clear b2))
  obtain ⟨M, hM⟩ : ∃ M, M = w2.heap.size := ⟨_, rfl⟩
  generalize hW3 : World.alloc w2 _ = W3
  rw [← hM]
  have b3 : Below w2.heap.size w2 W3 := by rw [← hW3]; exact fl_bs (Below.refl _ _)
  have m0 : W3.cell? ⟨M, 0, none⟩ = some (.int .u8 k) := by rw [← hW3]; exact fl_new hM rfl
  have m1 : W3.cell? ⟨M, 1, none⟩ = some (.int .u64 0) := by rw [← hW3]; exact fl_new hM rfl
  have m2 : W3.cell? ⟨M, 2, none⟩ = some (.string ⟨#[]⟩) := by rw [← hW3]; exact fl_new hM rfl
  have m3 : W3.cell? ⟨M, 3, none⟩ = some (.string ⟨#[]⟩) := by rw [← hW3]; exact fl_new hM rfl
  have m4 : W3.cell? ⟨M, 4, none⟩ = some (.int .u32 0) := by rw [← hW3]; exact fl_new hM rfl
  have m5 : W3.cell? ⟨M, 5, none⟩ = some (.int .u64 0) := by rw [← hW3]; exact fl_new hM rfl
  have m6 : W3.cell? ⟨M, 6, none⟩ = some (.int .i64 0) := by rw [← hW3]; exact fl_new hM rfl
  have m7 : W3.cell? ⟨M, 7, none⟩ = some (.int .i64 0) := by rw [← hW3]; exact fl_new hM rfl
  replace x0 := fl_up b3 x0
  replace x1 := fl_up b3 x1
  have B3 := Lib.hid (below_then B2.out b3)
  clear hW3 hM b3 B1 B2
  go_upto_region 3 with (go_at_call 40; ((with_reducible refine (HT.out _ B3.out).2.2.2.mono ?_); rintro e w4 ⟨rfl, b4⟩; replace x0 := fl_up b4 x0; replace x1 := fl_up b4 x1; replace m0 := fl_up b4 m0; replace m1 := fl_up b4 m1; replace m2 := fl_up b4 m2; replace m3 := fl_up b4 m3; replace m4 := fl_up b4 m4; replace m5 := fl_up b4 m5; replace m6 := fl_up b4 m6; replace m7 := fl_up b4 m7; have B4 := Lib.hid (below_then B3.out b4); clear b4))
  obtain ⟨N, hN⟩ : ∃ N, N = w4.heap.size := ⟨_, rfl⟩
  generalize hW5 : World.alloc w4 _ = W5
  rw [← hN]
  have b5 : Below w4.heap.size w4 W5 := by rw [← hW5]; exact fl_bs (Below.refl _ _)
  have n0 : W5.cell? ⟨N, 0, none⟩ = some (.int .u8 k) := by rw [← hW5]; exact fl_new hN rfl
  have n1 : W5.cell? ⟨N, 1, none⟩ = some (.int .u64 0) := by rw [← hW5]; exact fl_new hN rfl
  have n2 : W5.cell? ⟨N, 2, none⟩ = some (.string ⟨#[]⟩) := by rw [← hW5]; exact fl_new hN rfl
  have n3 : W5.cell? ⟨N, 3, none⟩ = some (.string ⟨#[]⟩) := by rw [← hW5]; exact fl_new hN rfl
  have n4 : W5.cell? ⟨N, 4, none⟩ = some (.int .u32 0) := by rw [← hW5]; exact fl_new hN rfl
  have n5 : W5.cell? ⟨N, 5, none⟩ = some (.int .u64 0) := by rw [← hW5]; exact fl_new hN rfl
  have n6 : W5.cell? ⟨N, 6, none⟩ = some (.int .i64 0) := by rw [← hW5]; exact fl_new hN rfl
  have n7 : W5.cell? ⟨N, 7, none⟩ = some (.int .i64 0) := by rw [← hW5]; exact fl_new hN rfl
  replace m0 := fl_up b5 m0
  replace m1 := fl_up b5 m1
  replace m2 := fl_up b5 m2
  replace m3 := fl_up b5 m3
  replace m4 := fl_up b5 m4
  replace m5 := fl_up b5 m5
  replace m6 := fl_up b5 m6
  replace m7 := fl_up b5 m7
  replace x0 := fl_up b5 x0
  replace x1 := fl_up b5 x1
  have B5 := Lib.hid (below_then B4.out b5)
  have hl := (HT.out _ B5.out).1
  have CO := Lib.hid (fun n => (HT.out (W5.drewN n) (below_then B5.out (belowFp n))).2.1)
  clear hW5 hN b5 B3 B4 HT
  have hag : ∀ W, (binOp .eql 57 (.agg #[.int .u8 k, .int .u64 0, .string ⟨#[]⟩, .string ⟨#[]⟩, .int .u32 0, .int .u64 0, .int .i64 0, .int .i64 0]) (.agg #[.int .u8 k, .int .u64 0, .string ⟨#[]⟩, .string ⟨#[]⟩, .int .u32 0, .int .u64 0, .int .i64 0, .int .i64 0])).run Tryz.prog W = .ok (.bool true) W := fun W => by
    simp [go_sem]
  go_quiet ((go_at_call 18; exact quiet_left (CO.out _)))
  go_wp2_with fail
  go_ret
  exact ⟨rfl, below_then B5.out (belowFp _)⟩
end Go.Proofs.YtaipbagnkjmddaaGreat
/- Next: A table of four Flushes beside a pair of worlds, as acts go. -/
namespace Go.Proofs.YtaipbagnkjmddaaGreat
open Go.RowKit Go.Maps
set_option linter.unusedVariables false
structure Fe where
  o : Option (Nat × Nat)
  own : Nat → Prop
def Fe.v0 (e : Fe) : Value := match e.o with | none => .pointer none | some (q, _) => .pointer (some ⟨q, 0, none⟩)
def Fe.v1 (e : Fe) : Value := match e.o with | none => .pointer none | some (_, r) => .pointer (some ⟨r, 0, none⟩)
def FeS (w : World) (e : Fe) : Prop := ∀ q r, e.o = some (q, r) → FpS e.own w q r
theorem FeS.keep {w W : World} {e : Fe} {U : Nat → Prop} (h : FeS w e) (hk : Keeps U w W) (hU : ∀ j, e.own j → ¬ U j) : FeS W e := fun q r he => (h q r he).keep hk hU
/-- A table of operations in block T: four of them, of two cells each. -/
structure Tb4 (GL : Nat → Prop) (X : World) (T : Nat) (f : Nat → Fe) : Prop where
  c0 : ∀ i, i < 4 → X.cell? ⟨T, i * 2, none⟩ = some (f i).v0
  c1 : ∀ i, i < 4 → X.cell? ⟨T, i * 2 + 1, none⟩ = some (f i).v1
  fz : ∀ j, j < 8 → X.frozen? ⟨T, j, none⟩ = false
  all : ∀ i, i < 4 → FeS X (f i) ∧ ∀ k, (f i).own k → GL k
  dis : ∀ i j, i < 4 → j < 4 → i ≠ j → ∀ k, (f i).own k → ¬ (f j).own k
  nt : ¬ GL T
  lt : T < X.heap.size
section
variable {GL : Nat → Prop} {X Y : World} {T : Nat} {f : Nat → Fe} {U : Nat → Prop}
theorem Tb4.keep (h : Tb4 GL X T f) (hk : Keeps U X Y) (hT : ¬ U T) (hU : ∀ k, GL k → ¬ U k) : Tb4 GL Y T f :=
  ⟨fun i hi => hk.cell (p := ⟨T, i * 2, none⟩) hT (h.c0 i hi), fun i hi => hk.cell (p := ⟨T, i * 2 + 1, none⟩) hT (h.c1 i hi), fun j hj => hk.frozen (p := ⟨T, j, none⟩) hT h.lt (h.fz j hj), fun i hi => ⟨(h.all i hi).1.keep hk (fun k o u => hU k ((h.all i hi).2 k o) u), (h.all i hi).2⟩, h.dis, h.nt, Nat.lt_of_lt_of_le h.lt hk.size⟩
theorem Tb4.new (h : Tb4 GL X T f) (hb : Below X.heap.size X Y) : Tb4 GL Y T f := h.keep (U := fun _ => False) (Keeps.of_new hb) (fun s => s) (fun _ _ s => s)
theorem Tb4.step {q r : Nat} {N : Nat → Prop} (h : Tb4 GL X T f) {i : Nat} (hi : i < 4) (hk : Keeps U X Y) (hT : ¬ U T) (hU : ∀ k, GL k → U k → (f i).own k) (ho : (f i).o = some (q, r)) (hN : ∀ j, N j → X.heap.size ≤ j) (hg : ∀ k, GL k → k < X.heap.size) (hx : FpS (fun j => (f i).own j ∨ N j) Y q r) :
    Tb4 (fun k => GL k ∨ N k) Y T (fun j => if j = i then ⟨some (q, r), fun k => (f i).own k ∨ N k⟩ else f j) := by
  have hN2 : ∀ k, GL k → ¬ N k := fun k g n => by have := hg k g; have := hN k n; omega
  refine ⟨fun j hj => ?_, fun j hj => ?_, fun j hj => hk.frozen (p := ⟨T, j, none⟩) hT h.lt (h.fz j hj), fun j hj => ?_, fun a b ha hb hab k oa ob => ?_, fun g => ?_, Nat.lt_of_lt_of_le h.lt hk.size⟩
  · have := hk.cell (p := ⟨T, j * 2, none⟩) hT (h.c0 j hj)
    by_cases e : j = i
    · subst e
      simp only [if_true]
      rw [this]; unfold Fe.v0; rw [ho]
    · simp only [if_neg e]; exact this
  · have := hk.cell (p := ⟨T, j * 2 + 1, none⟩) hT (h.c1 j hj)
    by_cases e : j = i
    · subst e
      simp only [if_true]
      rw [this]; unfold Fe.v1; rw [ho]
    · simp only [if_neg e]; exact this
  · by_cases e : j = i
    · simp only [if_pos e]
      refine ⟨fun q' r' he => ?_, fun k o => ?_⟩
      · simp at he
        obtain ⟨rfl, rfl⟩ := he
        exact hx
      · rcases o with o | o
        · exact .inl ((h.all i hi).2 k o)
        · exact .inr o
    · simp only [if_neg e]
      exact ⟨(h.all j hj).1.keep hk (fun k o u => h.dis j i hj hi e k o (hU k ((h.all j hj).2 k o) u)), fun k o => .inl ((h.all j hj).2 k o)⟩
  · by_cases ea : a = i
    · by_cases eb : b = i
      · exact hab (ea.trans eb.symm)
      · simp only [if_pos ea] at oa
        simp only [if_neg eb] at ob
        rcases oa with oa | oa
        · exact h.dis i b hi hb (fun e => eb e.symm) k oa ob
        · exact hN2 k ((h.all b hb).2 k ob) oa
    · by_cases eb : b = i
      · simp only [if_neg ea] at oa
        simp only [if_pos eb] at ob
        rcases ob with ob | ob
        · exact h.dis a i ha hi ea k oa ob
        · exact hN2 k ((h.all a ha).2 k oa) ob
      · simp only [if_neg ea] at oa
        simp only [if_neg eb] at ob
        exact h.dis a b ha hb hab k oa ob
  · rcases g with g | g
    · exact h.nt g
    · have := hN T g; have := h.lt; omega
/-- One is laid anew. -/
theorem Tb4.put {q r : Nat} {N : Nat → Prop} (h : Tb4 GL X T f) {i : Nat} (hi : i < 4) (hN : ∀ j, N j → ¬ GL j ∧ j ≠ T) (hx : FpS N X q r) (hY : Y = (X.setCell ⟨T, i * 2, none⟩ (.pointer (some ⟨q, 0, none⟩))).setCell ⟨T, i * 2 + 1, none⟩ (.pointer (some ⟨r, 0, none⟩))) :
    Tb4 (fun k => GL k ∨ N k) Y T (fun j => if j = i then ⟨some (q, r), N⟩ else f j) ∧ Keeps (fun k => k = T) X Y := by
  subst hY
  have hk : Keeps (fun k => k = T) X ((X.setCell ⟨T, i * 2, none⟩ (.pointer (some ⟨q, 0, none⟩))).setCell ⟨T, i * 2 + 1, none⟩ (.pointer (some ⟨r, 0, none⟩))) := ((Keeps.refl (fun k => k = T) X).setCell (p := ⟨T, i * 2, none⟩) (.inl rfl) _).setCell (p := ⟨T, i * 2 + 1, none⟩) (.inl rfl) _
  have so : ∀ {w : World} {i j : Nat} {u v : Value}, i ≠ j → w.cell? ⟨T, j, none⟩ = some v → (w.setCell ⟨T, i, none⟩ u).cell? ⟨T, j, none⟩ = some v := fun {w i j u v} hij hc => (World.cell?_setCell_other _ ⟨T, i, none⟩ ⟨T, j, none⟩ _ (by intro e; injection e with _ e; exact hij e)).trans hc
  refine ⟨⟨fun j hj => ?_, fun j hj => ?_, fun j hj => by simp only [World.frozen?_setCell]; exact h.fz j hj, fun j hj => ?_, fun a b ha hb hab k oa ob => ?_, fun g => ?_, Nat.lt_of_lt_of_le h.lt hk.size⟩, hk⟩
  · by_cases e : j = i
    · subst e
      simp only [if_true]
      exact so (by omega) (World.cell?_setCell_same _ _ _ (h.c0 j hj))
    · simp only [if_neg e]; exact so (by omega) (so (by omega) (h.c0 j hj))
  · by_cases e : j = i
    · subst e
      simp only [if_true]
      exact World.cell?_setCell_same _ _ _ (so (by omega) (h.c1 j hj))
    · simp only [if_neg e]; exact so (by omega) (so (by omega) (h.c1 j hj))
  · by_cases e : j = i
    · simp only [if_pos e]
      refine ⟨fun q' r' he => ?_, fun k o => .inr o⟩
      simp at he
      obtain ⟨rfl, rfl⟩ := he
      exact hx.keep hk (fun k o e => (hN k o).2 e)
    · simp only [if_neg e]
      exact ⟨(h.all j hj).1.keep hk (fun k o e => h.nt (e ▸ (h.all j hj).2 k o)), fun k o => .inl ((h.all j hj).2 k o)⟩
  · by_cases ea : a = i
    · by_cases eb : b = i
      · exact hab (ea.trans eb.symm)
      · simp only [if_pos ea] at oa
        simp only [if_neg eb] at ob
        exact (hN k oa).1 ((h.all b hb).2 k ob)
    · by_cases eb : b = i
      · simp only [if_neg ea] at oa
        simp only [if_pos eb] at ob
        exact (hN k ob).1 ((h.all a ha).2 k oa)
      · simp only [if_neg ea] at oa
        simp only [if_neg eb] at ob
        exact h.dis a b ha hb hab k oa ob
  · rcases g with g | g
    · exact h.nt g
    · exact (hN T g).2 rfl
end
/-- What stands between two acts: the pair; the table T; the blocks of G0. -/
def PlF (G0 : Nat → Prop) (T : Nat) (W : World) (A R : Ad) (X : World) (c : Int) : Prop :=
  ∃ (V : Wv) (f : Nat → Fe) (G GL : Nat → Prop), Hf G X A R V V ∧ (∀ j, G0 j ∨ j = T → G j) ∧ Tb4 GL X T f ∧ (∀ j, GL j → G j ∧ ¬ G0 j) ∧ Kp G0 W X ∧ (V.M = [] ∧ V.I.length ≤ 300 ∧ V.cnt ≤ c) ∧ ¬ G0 T
section
variable {G0 : Nat → Prop} {T : Nat} {W X Y : World} {A R : Ad} {c c' : Int}
theorem PlF.new (h : PlF G0 T W A R X c) (hb : Below X.heap.size X Y) : PlF G0 T W A R Y c := by
  obtain ⟨V, f, G, GL, h1, h2, h3, h4, h5, h6, h7⟩ := h
  exact ⟨V, f, G, GL, h1.new hb, h2, h3.new hb, h4, Kp.to h5 (Kp.of hb), h6, h7⟩
theorem PlF.le (h : PlF G0 T W A R X c) (hc : c ≤ c') : PlF G0 T W A R X c' := by
  obtain ⟨V, f, G, GL, h1, h2, h3, h4, h5, ⟨a, b, d⟩, h7⟩ := h
  exact ⟨V, f, G, GL, h1, h2, h3, h4, h5, ⟨a, b, by omega⟩, h7⟩
theorem PlF.kp (h : PlF G0 T W A R X c) : Kp G0 W X := by
  obtain ⟨V, f, G, GL, h1, h2, h3, h4, h5, h6, h7⟩ := h
  exact h5
theorem PlF.store (h : PlF G0 T W A R X c) (hc : c < 1000000) {a v : Int} (ha : isU a) (hv : isU v) :
    Calls Tryz.prog 11 #[.agg #[.pointer (some ⟨A.p, 0, none⟩), .pointer (some ⟨R.p, 0, none⟩)], .agg #[.int .u64 a, .int .u64 v]] X fun e' w' => e' = .returned (.tuple #[]) ∧ PlF G0 T W A R w' (c + 1) := by
  obtain ⟨V, f, G, GL, h1, h2, h3, h4, h5, ⟨m1, m2, m3⟩, h7⟩ := h
  refine (h1.pw.store (by omega) ha hv).mono ?_
  rintro e' w' ⟨he, h', hk⟩
  exact ⟨he, _, f, G, GL, h'.hf, h2, h3.keep hk (fun n => n (h2 T (.inr rfl))) (fun j g n => n (h4 j g).1), h4, Kp.to h5 (hk.less (fun j g => h2 j (.inl g))), ⟨m1, m2, by show V.cnt + 1 ≤ _; omega⟩, h7⟩
theorem PlF.tick (h : PlF G0 T W A R X c) (hc : c < 1000000) :
    Calls Tryz.prog 12 #[.agg #[.pointer (some ⟨A.p, 0, none⟩), .pointer (some ⟨R.p, 0, none⟩)]] X fun e' w' => e' = .returned (.tuple #[]) ∧ PlF G0 T W A R w' (c + 1) := by
  obtain ⟨V, f, G, GL, h1, h2, h3, h4, h5, ⟨m1, m2, m3⟩, h7⟩ := h
  obtain ⟨S, T', p1, p2, p3⟩ := h1.pw
  refine (pw_tick p1 (by omega)).mono ?_
  rintro e' w' ⟨he, hp⟩
  obtain ⟨h', hk⟩ := PwG.post p2 p3 hp
  exact ⟨he, _, f, G, GL, h'.hf, h2, h3.keep hk (fun n => n (h2 T (.inr rfl))) (fun j g n => n (h4 j g).1), h4, Kp.to h5 (hk.less (fun j g => h2 j (.inl g))), ⟨m1, m2, by show V.cnt + 1 ≤ _; omega⟩, h7⟩
theorem PlF.same (h : PlF G0 T W A R X c) :
    Calls Tryz.prog 15 #[.agg #[.pointer (some ⟨A.p, 0, none⟩), .pointer (some ⟨R.p, 0, none⟩)]] X fun e' w' => e' = .returned (.bool true) ∧ Below X.heap.size X w' := by
  obtain ⟨V, f, G, GL, h1, h2, h3, h4, h5, ⟨m1, m2, m3⟩, h7⟩ := h
  obtain ⟨S, T, hp, -⟩ := h1.pw
  exact pw_same hp (by rw [m1]; decide)
theorem PlF.all (h : PlF G0 T W A R X c) (hc : c ≤ 1000000) :
    Calls Tryz.prog 16 #[.agg #[.pointer (some ⟨A.p, 0, none⟩), .pointer (some ⟨R.p, 0, none⟩)]] X fun e' w' => e' = .returned (.bool true) ∧ Below X.heap.size X w' := by
  obtain ⟨V, f, G, GL, h1, h2, h3, h4, h5, ⟨m1, m2, m3⟩, h7⟩ := h
  obtain ⟨S, T, hp, -⟩ := h1.pw
  exact pw_all hp m1 m2 (by omega)
/-- What lies at an entry: none, or one; then both take a step. -/
theorem PlF.at_ (h : PlF G0 T W A R X c) {i : Nat} (hi : i < 4) : (∀ Y, Below X.heap.size X Y → Y.cell? ⟨T, i * 2 + 1, none⟩ = some (.pointer none)) ∨
    ∃ q r, (∀ Y, Below X.heap.size X Y → Y.cell? ⟨T, i * 2, none⟩ = some (.pointer (some ⟨q, 0, none⟩)) ∧ Y.cell? ⟨T, i * 2 + 1, none⟩ = some (.pointer (some ⟨r, 0, none⟩))) ∧
    (c < 1000000 → ∀ Y, Below X.heap.size X Y → ∃ (ln : Int) (ov : Bool), (ln == 0) = ov ∧ Calls Tryz.prog 13 #[.pointer (some ⟨r, 0, none⟩), .pointer (some ⟨R.p, 0, none⟩)] Y fun e w1 => e = .returned (.tuple #[]) ∧ w1.cell? ⟨r, 0, none⟩ = some (.int .i64 ln) ∧ Kp (fun j => G0 j ∨ j = T ∨ (X.heap.size ≤ j ∧ j < Y.heap.size)) Y w1 ∧ ∀ Z, Below w1.heap.size w1 Z → Calls Tryz.prog 14 #[.pointer (some ⟨q, 0, none⟩), .pointer (some ⟨A.p, 0, none⟩)] Z fun e w2 => e = .returned (.bool ov) ∧ PlF G0 T W A R w2 (c + 1) ∧ (∃ O, FpS O w2 q r) ∧ Kp (fun j => G0 j ∨ j = T ∨ (X.heap.size ≤ j ∧ j < Y.heap.size)) Z w2 ∧ w2.cell? ⟨r, 0, none⟩ = some (.int .i64 ln)) := by
  obtain ⟨V, f, G, GL, h1, h2, h3, h4, h5, ⟨m1, m2, m3⟩, h7⟩ := h
  have lt0 := h1.lts
  cases ho : (f i).o with
  | none =>
    left
    intro Y hb
    have := (h3.new hb).c1 i hi
    rw [this]; unfold Fe.v1; rw [ho]
  | some qr =>
    obtain ⟨q, r⟩ := qr
    right
    refine ⟨q, r, fun Y hb => ?_, fun hc Y hb => ?_⟩
    · have a := (h3.new hb).c0 i hi
      have b := (h3.new hb).c1 i hi
      rw [a, b]; unfold Fe.v0 Fe.v1; rw [ho]; exact ⟨rfl, rfl⟩
    · have hx := ((h3.new hb).all i hi).1 q r ho
      have hGo : ∀ k, (f i).own k → G k := fun k o => (h4 k ((h3.all i hi).2 k o)).1
      have nT : ¬ (f i).own T := fun o => h3.nt ((h3.all i hi).2 T o)
      have n0 : ∀ j, G0 j → ¬ (f i).own j := fun j g o => (h4 j ((h3.all i hi).2 j o)).2 g
      obtain ⟨ln, ov, V', hov, ⟨r1, r2, r3⟩, hS⟩ := fp_two (G := fun j => G j ∨ (X.heap.size ≤ j ∧ j < Y.heap.size)) (h1.addN hb) hx (fun j o => .inl (hGo j o)) (by omega)
      refine ⟨ln, ov, hov, hS.mono ?_⟩
      rintro e w1 ⟨he, hl, k1, hP⟩
      have less : ∀ j, (G0 j ∨ j = T ∨ (X.heap.size ≤ j ∧ j < Y.heap.size)) → (G j ∨ (X.heap.size ≤ j ∧ j < Y.heap.size)) ∧ ¬ (f i).own j := by
        intro j g
        rcases g with g | rfl | g
        · exact ⟨.inl (h2 j (.inl g)), n0 j g⟩
        · exact ⟨.inl (h2 j (.inr rfl)), nT⟩
        · exact ⟨.inr g, fun o => by have := lt0 j (hGo j o); omega⟩
      refine ⟨he, hl, k1.less less, fun Z hZ => ?_⟩
      refine (hP Z hZ).mono ?_
      rintro e w2 ⟨he2, N, hN, hf, hx2, k2, hl2⟩
      have kY : Kp (fun j => (G j ∨ (X.heap.size ≤ j ∧ j < Y.heap.size)) ∧ ¬ (f i).own j) Y w2 := Kp.to (Kp.to k1 (Kp.of hZ)) k2
      have sY : X.heap.size ≤ Y.heap.size := hb.size
      have sZ : Y.heap.size ≤ Z.heap.size := Nat.le_trans k1.size hZ.size
      have hgl : ∀ k, GL k → k < Y.heap.size := fun k g => Nat.lt_of_lt_of_le (lt0 k (h4 k g).1) sY
      have t2 := (h3.new hb).step (N := N) hi kY (fun n => n ⟨.inl (h2 T (.inr rfl)), nT⟩) (fun k g n => Classical.byContradiction (fun no => n ⟨.inl (h4 k g).1, no⟩)) ho (fun j n => Nat.le_trans sZ (hN j n).1) hgl hx2
      have g0lt : ∀ j, G0 j → j < X.heap.size := fun j g => lt0 j (h2 j (.inl g))
      refine ⟨he2, ⟨V', _, _, _, hf.less (G' := fun j => G j ∨ N j) (fun j g => by rcases g with g | g; exact .inl (.inl g); exact .inr g), fun j g => .inl (h2 j g), t2, fun j g => ?_, Kp.to (Kp.to h5 (Kp.of hb)) (kY.less (fun j g => less j (.inl g))), ⟨r1.trans m1, by rw [r2]; exact m2, by omega⟩, h7⟩, ⟨_, hx2⟩, k2.less less, hl2⟩
      rcases g with g | g
      · exact ⟨.inl (h4 j g).1, (h4 j g).2⟩
      · exact ⟨.inr g, fun g0 => by have := g0lt j g0; have := (hN j g).1; omega⟩
theorem PlF.cells (h : PlF G0 T W A R X c) {i : Nat} (hi : i < 4) : ∃ v0 v1, ∀ Y, Below X.heap.size X Y → (Y.cell? ⟨T, i * 2, none⟩ = some v0 ∧ Y.cell? ⟨T, i * 2 + 1, none⟩ = some v1) ∧ Y.frozen? ⟨T, i * 2, none⟩ = false ∧ Y.frozen? ⟨T, i * 2 + 1, none⟩ = false := by
  obtain ⟨V, f, G, GL, h1, h2, h3, h4, h5, h6, h7⟩ := h
  exact ⟨_, _, fun Y hb => ⟨⟨(h3.new hb).c0 i hi, (h3.new hb).c1 i hi⟩, (h3.new hb).fz _ (by omega), (h3.new hb).fz _ (by omega)⟩⟩
theorem PlF.tlt (h : PlF G0 T W A R X c) : T < X.heap.size := by
  obtain ⟨V, f, G, GL, h1, h2, h3, h4, h5, h6, h7⟩ := h
  exact h3.lt
/-- A new Flush, and the chapter's. -/
theorem fp_new {t : Nat} {d : Int} (ht : t < 64) {w0 w1 w2 : World} {e : Ending} {q r tk : Nat} (hn : NwFl ((t : Nat) : Int) d w0 (.returned (.pointer (some ⟨q, 0, none⟩))) w1) (h1 : w0.heap.size ≤ w1.heap.size) (hb : Below w1.heap.size w1 w2) (hr : Ob w2 r (rfC 1 0 0 0 d tk)) (hk : Ob w2 tk (rtC 1 0 false ((t : Nat) : Int))) (hl : w1.heap.size ≤ tk ∧ tk < r) : FpS (fun j => w0.heap.size ≤ j ∧ j < w2.heap.size) w2 q r := by
  obtain ⟨q', p, b6, b5, b3, he, ho, hp, ⟨c6, c5, c3⟩, ⟨l1, l2, l3, l4, l5, l6⟩, hbb⟩ := hn
  injection he with he; injection he with he; injection he with he; injection he with he
  subst he
  have lr := hr.lt
  have s2 := hb.size
  exact ⟨⟨⟨by omega, by omega⟩, ⟨by omega, by omega⟩, by omega⟩, .inl ⟨p, b6, b5, b3, tk, t, d, 0, ht, ⟨⟨by omega, by omega⟩, ⟨by omega, by omega⟩, ⟨by omega, by omega⟩, ⟨by omega, by omega⟩, ⟨by omega, by omega⟩⟩, ⟨by omega, by omega, by omega, by omega, by omega, by omega⟩, ⟨by omega, by omega, by omega, by omega⟩, ⟨by omega, by omega, by omega, by omega⟩, ⟨by omega, by omega, by omega⟩, ho.new hb, ⟨fl_up hb c6, fl_up hb c5, fl_up hb c3⟩, hr, .inl ⟨hp.new hb, hk⟩⟩⟩
/-- One begins. -/
theorem PlF.put {q r : Nat} (h : PlF G0 T W A R X c) {i : Nat} (hi : i < 4) {Z : World} (hb : Below X.heap.size X Y) (hx : FpS (fun j => X.heap.size ≤ j ∧ j < Y.heap.size) Y q r) (hZ : Z = (Y.setCell ⟨T, i * 2, none⟩ (.pointer (some ⟨q, 0, none⟩))).setCell ⟨T, i * 2 + 1, none⟩ (.pointer (some ⟨r, 0, none⟩))) :
    PlF G0 T W A R Z c ∧ Keeps (fun k => k = T) Y Z := by
  obtain ⟨V, f, G, GL, h1, h2, h3, h4, h5, h6, h7⟩ := h
  have lt0 := h1.lts
  have hlt := h3.lt
  have t := (h3.new hb).put (N := fun j => X.heap.size ≤ j ∧ j < Y.heap.size) hi (fun j n => ⟨fun g => by have := lt0 j (h4 j g).1; omega, by omega⟩) hx hZ
  refine ⟨⟨V, _, _, _, (h1.addN hb).keep t.2 (fun k e => .inl (h2 k (.inr e))), fun j g => .inl (h2 j g), t.1, fun j g => ?_, Kp.to (Kp.to h5 (Kp.of hb)) (t.2.mono (fun k _ e g => by subst e; exact h7 g)), h6, h7⟩, t.2⟩
  rcases g with g | g
  · exact ⟨.inl (h4 j g).1, (h4 j g).2⟩
  · exact ⟨.inr g, fun g0 => by have := lt0 j (h2 j (.inl g0)); omega⟩
/-- At first. -/
theorem PlF.first {V : Wv} {G : Nat → Prop} (h1 : Hf G X A R V V) (h2 : ∀ j, G0 j ∨ j = T → G j) (hT : ∀ i, i < 8 → X.cell? ⟨T, i, none⟩ = some (.pointer none)) (hz : ∀ i, i < 8 → X.frozen? ⟨T, i, none⟩ = false) (h7 : ¬ G0 T) (h6 : V.M = [] ∧ V.I.length ≤ 300 ∧ V.cnt ≤ c) : PlF G0 T X A R X c :=
  ⟨V, fun _ => ⟨none, fun _ => False⟩, G, fun _ => False, h1, h2, ⟨fun i hi => hT _ (by omega), fun i hi => hT _ (by omega), hz, fun i hi => ⟨fun q r he => by simp at he, fun k o => o⟩, fun i j _ _ _ k o => o.elim, fun g => g, World.block_lt_of_cell? _ _ (hT 0 (by decide))⟩, fun j g => g.elim, Keeps.refl _ _, h6, h7⟩
end
end Go.Proofs.YtaipbagnkjmddaaGreat
