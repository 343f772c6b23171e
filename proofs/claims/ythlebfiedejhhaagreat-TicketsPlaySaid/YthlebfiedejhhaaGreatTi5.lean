/- Tickets: what else is asked; tickets that go round. -/
import Derived.Test.YthlebfiedejhhaaGreatTi4
namespace Go.Proofs.YthlebfiedejhhaaGreat
open Go.RowKit Go.Maps
set_option linter.unusedVariables false
section
variable {G : Nat → Prop} {w : World} {A : Ad} {V : Wv} {q : Nat} {C : List Value} {t tick : Int}
theorem tk_got {nx : Value} (h : Ob w q (tkC t tick true nx)) : Calls Tryz.prog 92 #[.pointer (some ⟨q, 0, none⟩)] w fun e w' => e = .returned (.tuple #[.int .u64 tick, .bool true]) ∧ w = w' := by
  have c1 := h.at_ 1 _ rfl
  have c2 := h.at_ 2 _ rfl
  clear h
  go_enter Tryz.func92, Tryz.ntmps92
  go_wp2_with fail
  go_ret2
  exact ⟨rfl, rfl⟩
theorem Opw.last (h : Opw G w A V q C) {k : Int} (hk : V.k = k) : Calls Tryz.prog 78 #[.pointer (some ⟨A.pc, 0, none⟩)] w fun e w' => e = .returned (.agg #[.int .u8 k, .int .u64 V.a, .int .u64 V.x, .int .u64 V.y]) ∧ Below w.heap.size w w' := by
  subst hk
  obtain ⟨S, ⟨n, SC, SI, SN, ha⟩, -⟩ := h
  exact last_any ha.cel
theorem Opw.steps (h : Opw G w A V q C) {c : Int} (hc : V.cnt = c) : Calls Tryz.prog 56 #[.pointer (some ⟨A.p, 0, none⟩)] w fun e w' => e = .returned (.int .i64 c) ∧ w = w' := by
  subst hc
  obtain ⟨S, h1, -⟩ := h
  exact wsteps h1
theorem Opw.peekv (h : Opw G w A V q C) {a v : Int} (ha : isU a) (hv : V.f a = v) : Calls Tryz.prog 35 #[.pointer (some ⟨A.pc, 0, none⟩), .int .u64 a] w fun e w' => e = .returned (.int .u64 v) ∧ w = w' := hv ▸ h.peek ha
end
/-- Tickets, as they go round. -/
def tkt (F : Int) (k : Nat) : Int := (F + k) % 18446744073709551616
theorem tkt_U (F : Int) (k : Nat) : isU (tkt F k) := by unfold tkt isU; omega
theorem tkt_0 {F : Int} (h : isU F) : tkt F 0 = F := by unfold tkt isU at *; omega
theorem tkt_s (F : Int) (k : Nat) : IntKind.u64.wrap (tkt F k + 1) = tkt F (k + 1) := by rw [IntKind.wrap_u64]; unfold tkt; omega
theorem tkt_p (F : Int) (k : Nat) : IntKind.u64.wrap (tkt F (k + 1) - 1) = tkt F k := by rw [IntKind.wrap_u64]; unfold tkt; omega
theorem tkt_add (F : Int) (k : Nat) : IntKind.u64.wrap (F + k) = tkt F k := by rw [IntKind.wrap_u64]; rfl
theorem tkt_ne {F : Int} {k n : Nat} (h : k < n) (hn : n ≤ 100) : tkt F n ≠ tkt F k := by unfold tkt; omega
theorem tkt_top {F : Int} {n : Nat} (h : tkt F (n + 1) = 0) : tkt F n = 18446744073709551615 := by unfold tkt at *; omega
/-- Tickets are drawn. -/
structure Tq1 (G : Nat → Prop) (w : World) (A : Ad) (V : Wv) (F : Int) (k : Nat) : Prop where
  wd : WdG G w A V
  f0 : V.f 0 = tkt F k
  f1 : V.f 1 = F
  t40 : V.tk 40 = 0
  cnt : V.cnt = (k : Int) + 2
  h : V.h = -1
def Tq1.v (V : Wv) (F : Int) (k : Nat) : Wv := (V.acc (upd V.f 0 (tkt F (k + 1))) 4 0 (tkt F k) (tkt F (k + 1))).tkset k (tkt F (k + 1))
/-- One more of them. -/
theorem Tq1.step {G : Nat → Prop} {w : World} {A : Ad} {V : Wv} {F : Int} {k : Nat} (h : Tq1 G w A V F k) (hk : k < 40) {W : World} {q : Nat} (ho : Opw G W A V q (tkC k 0 false (mV 85 q))) :
    Calls Tryz.prog 82 #[.pointer (some ⟨q, 0, none⟩), .pointer (some ⟨A.p, 0, none⟩)] W fun e w' => e = .returned (.bool false) ∧ (∃ V', Tq1 G w' A V' F (k + 1)) ∧ Kp G W w' := by
  refine (tk_step1 (n := k) (by omega) ho (by rw [h.cnt]; omega) h.f0 (tkt_s F k)).mono ?_
  rintro e w' ⟨rfl, h1, k1⟩
  refine ⟨rfl, ⟨_, h1.wd, ?_, ?_, ?_, ?_, h.h⟩, k1⟩
  · show upd V.f 0 (tkt F (k + 1)) 0 = _
    exact upd_same _ _ _
  · show upd V.f 0 (tkt F (k + 1)) 1 = _
    exact (upd_other (by decide)).trans h.f1
  · show tkU V.tk k _ 40 = 0
    unfold tkU
    rw [if_neg (by omega)]
    exact h.t40
  · show V.cnt + 1 = _
    rw [h.cnt]; simp; omega
/-- One waits. -/
structure Tq2 (G : Nat → Prop) (w : World) (A : Ad) (V : Wv) (q : Nat) (F : Int) (n k : Nat) : Prop where
  op : Opw G w A V q (tkC 40 (tkt F n) true (mV 148 q))
  f0 : V.f 0 = tkt F (n + 1)
  f1 : V.f 1 = tkt F k
  t40 : V.tk 40 = tkt F (n + 1)
  cnt : 0 ≤ V.cnt ∧ V.cnt ≤ 100 + 2 * (k : Int)
  h : V.h = -1
theorem Tq2.new {G : Nat → Prop} {w W : World} {A : Ad} {V : Wv} {q : Nat} {F : Int} {n k : Nat} (h : Tq2 G w A V q F n k) (hb : Below w.heap.size w W) : Tq2 G W A V q F n k :=
  ⟨h.op.new hb, h.f0, h.f1, h.t40, h.cnt, h.h⟩
theorem Tq1.last {G : Nat → Prop} {w : World} {A : Ad} {V : Wv} {F : Int} {n : Nat} (h : Tq1 G w A V F n) (hn : n ≤ 31) (hF : isU F) {W : World} {q : Nat} (ho : Opw G W A V q (tkC 40 0 false (mV 85 q))) :
    Calls Tryz.prog 82 #[.pointer (some ⟨q, 0, none⟩), .pointer (some ⟨A.p, 0, none⟩)] W fun e w' => e = .returned (.bool false) ∧ (∃ V', Tq2 G w' A V' q F n 0) ∧ Kp G W w' := by
  refine (tk_step1 (n := 40) (by decide) ho (by rw [h.cnt]; omega) h.f0 (tkt_s F n)).mono ?_
  rintro e w' ⟨rfl, h1, k1⟩
  refine ⟨rfl, ⟨_, h1, ?_, ?_, ?_, ?_, h.h⟩, k1⟩
  · show upd V.f 0 (tkt F (n + 1)) 0 = _
    exact upd_same _ _ _
  · rw [tkt_0 hF]
    show upd V.f 0 (tkt F (n + 1)) 1 = _
    exact (upd_other (by decide)).trans h.f1
  · show tkU V.tk 40 _ 40 = _
    exact if_pos rfl
  · show 0 ≤ V.cnt + 1 ∧ V.cnt + 1 ≤ _
    rw [h.cnt]
    constructor
    · omega
    · simp; omega
theorem Tq2.wt {G : Nat → Prop} {w : World} {A : Ad} {V : Wv} {q : Nat} {F : Int} {n k : Nat} (h : Tq2 G w A V q F n k) (h0 : (tkt F (n + 1) == 0) = false) {b : Bool} (hb : (tkt F n != tkt F k) = b) :
    Calls Tryz.prog 24 #[.pointer (some ⟨A.p, 0, none⟩), .int .i64 40] w fun e w' => e = .returned (.bool b) ∧ Below w.heap.size w w' := by
  obtain ⟨S, h1, -⟩ := h.op
  exact waits (n := 40) (by decide) h1 h.t40 h0 (tkt_p F n) h.f1 hb
/-- A step while it waits. -/
structure Tq3 (G : Nat → Prop) (w : World) (A : Ad) (V : Wv) (q : Nat) (F : Int) (n k : Nat) (c : Int) : Prop where
  b : Tq2 G w A V q F n k
  k1 : V.k = 1
  c1 : V.cnt = c + 1
theorem Tq2.miss {G : Nat → Prop} {w : World} {A : Ad} {V : Wv} {q : Nat} {F : Int} {n k : Nat} (h : Tq2 G w A V q F n k) (hk : k < n) (hn : n ≤ 31) :
    Calls Tryz.prog 82 #[.pointer (some ⟨q, 0, none⟩), .pointer (some ⟨A.p, 0, none⟩)] w fun e w' => e = .returned (.bool false) ∧ (∃ V', Opw G w' A V' q (tkC 40 (tkt F n) true (mV 148 q)) ∧ V'.f = V.f ∧ V'.tk = V.tk ∧ V'.cnt = V.cnt + 1 ∧ V'.h = V.h ∧ V'.k = 1) ∧ Kp G w w' := by
  refine (tk_step2n h.op (by have := h.cnt; omega) h.f1 (by simpa using (tkt_ne hk (by omega)).symm)).mono ?_
  rintro e w' ⟨rfl, h1, k1⟩
  exact ⟨rfl, ⟨_, h1, rfl, rfl, rfl, rfl, rfl⟩, k1⟩
/-- One gives the lock back. -/
theorem tq_give {G : Nat → Prop} {w : World} {A : Ad} {V : Wv} {y q : Nat} {F : Int} {k : Nat} (h : Opw (fun j => G j ∨ j = y) w A V q [mV 86 q]) (hc : V.cnt < 1000000000) (f1 : V.f 1 = tkt F k) :
    Calls Tryz.prog 83 #[.pointer (some ⟨q, 0, none⟩), .pointer (some ⟨A.p, 0, none⟩)] w fun e w' => e = .returned (.bool true) ∧ (∃ V', WdG (fun j => G j ∨ j = y) w' A V' ∧ V'.f 0 = V.f 0 ∧ V'.f 1 = tkt F (k + 1) ∧ V'.tk = V.tk ∧ V'.cnt = V.cnt + 1 ∧ V'.h = -1) ∧ Kp (fun j => G j ∨ j = y) w w' := by
  refine (gv_step h hc f1 (tkt_s F k)).mono ?_
  rintro e w' ⟨rfl, h1, k1⟩
  refine ⟨rfl, ⟨_, h1.wd, ?_, ?_, rfl, rfl, rfl⟩, k1⟩
  · show upd V.f 1 (tkt F (k + 1)) 0 = _
    exact upd_other (by decide)
  · show upd V.f 1 (tkt F (k + 1)) 1 = _
    exact upd_same _ _ _
theorem Tq2.hit {G : Nat → Prop} {w : World} {A : Ad} {V : Wv} {q : Nat} {F : Int} {n : Nat} (h : Tq2 G w A V q F n n) (hn : n ≤ 31) :
    Calls Tryz.prog 82 #[.pointer (some ⟨q, 0, none⟩), .pointer (some ⟨A.p, 0, none⟩)] w fun e w' => e = .returned (.bool true) ∧ (w'.cell? ⟨A.p, 72, none⟩ = some (.int .i64 40) ∧ w'.cell? ⟨A.p, 48, none⟩ = some (.int .u64 0)) ∧ Kp G w w' := by
  refine (tk_step2 (n := 40) (by decide) h.op (by have := h.cnt; omega) h.f1).mono ?_
  rintro e w' ⟨rfl, h1, k1⟩
  have b := h1.box
  have e1 := b.ch
  have e2 := b.ct 40 (by decide)
  refine ⟨rfl, ⟨e1, ?_⟩, k1⟩
  rw [e2]
  rfl
end Go.Proofs.YthlebfiedejhhaaGreat
