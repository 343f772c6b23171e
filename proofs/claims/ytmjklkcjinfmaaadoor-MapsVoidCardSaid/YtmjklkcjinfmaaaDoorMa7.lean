/- Maps: what each verb's function is. -/
import Derived.Test.YtmjklkcjinfmaaaDoorMa6
namespace Go.Proofs.YtmjklkcjinfmaaaDoor
open Go.RowKit
set_option linter.unusedVariables false
theorem one_cells {v : Value} (h1 : v.oneCell' = true) : Value.cells v = #[v] := by cases v <;> first | rfl | (simp [Value.oneCell'] at h1)
/-- A box that holds one value. -/
theorem wpList_box1 {P : Program} {ops : Array Oper} {rest : List Oper} {op : Oper} {a : Act} {w : World} {Q : Exit → Act → World → Prop} (hgd : op.guard = none) (ty : TypeId) (x : Operand) (ho : op.op = .box ty x) (v : Value) (h1 : v.oneCell' = true) (hx : a.eval x = v)
    (hK : ∀ W g, Nb w W g [v] → wpList P ops Q rest (a.put op.dst (.pointer (some ⟨g, 0, none⟩))) W) : wpList P ops Q (op :: rest) a w := by
  refine wpList_plain hgd fun K hK' => ?_
  unfold Oper.wp execOp
  simp only [ho, hx, Sem.run_bind, Instr.box, newVar, newRow, run_newObj_alloc, Sem.run_pure, Result.andThen_ok, one_cells h1]
  exact hK' _ _ (hK _ _ ⟨bk_new (by simp), rfl, by simp, (Below.refl _ _).alloc (Nat.le_refl _) _⟩)
/-- A new closure, its variable in a block of its own. -/
def Clo (f : FuncId) (v : Value) (w : World) (e : Ending) (w' : World) : Prop := ∃ b, e = .returned (fn1 f b) ∧ Bk w' b [v] ∧ Below w.heap.size w w' ∧ w.heap.size ≤ b
theorem unlessm (v : Value) (h1 : v.oneCell' = true) (w : World) : Calls Tryd.prog 60 #[v] w (Clo 89 v w) := by
  go_enter Tryd.func60, Tryd.ntmps60
  go_wp2_with (refine wpList_box1 rfl 119 (.tmp 0) rfl v h1 rfl ?_; intro W1 q1 h1)
  go_ret
  exact ⟨q1, rfl, h1.bk, h1.below, by rw [h1.eq]; exact Nat.le_refl _⟩
theorem needsm (v : Value) (h1 : v.oneCell' = true) (w : World) : Calls Tryd.prog 64 #[v] w (Clo 91 v w) := by
  go_enter Tryd.func64, Tryd.ntmps64
  go_wp2_with (refine wpList_box1 rfl 106 (.tmp 0) rfl v h1 rfl ?_; intro W1 q1 h1)
  go_ret
  exact ⟨q1, rfl, h1.bk, h1.below, by rw [h1.eq]; exact Nat.le_refl _⟩
theorem countsm (v : Value) (h1 : v.oneCell' = true) (w : World) : Calls Tryd.prog 68 #[v] w (Clo 93 v w) := by
  go_enter Tryd.func68, Tryd.ntmps68
  go_wp2_with (refine wpList_box1 rfl 122 (.tmp 0) rfl v h1 rfl ?_; intro W1 q1 h1)
  go_ret
  exact ⟨q1, rfl, h1.bk, h1.below, by rw [h1.eq]; exact Nat.le_refl _⟩
def nils : List Value := [.nilFunc, .nilFunc, .nilFunc, .nilFunc, .nilFunc, .nilFunc, .nilFunc, .nilFunc, .nilFunc, .nilFunc, .nilFunc, .nilFunc, .nilFunc, .nilFunc]
theorem alloc_vs (w : World) : (Instr.alloc 107 true (.tuple #[])).run Tryd.prog w = .ok (.pointer (some ⟨w.heap.size, 0, none⟩)) (w.alloc (.cells nils.toArray 107)) := by kernel_rfl
def vsL (b3 b4 b5 b6 b7 b8 b9 b10 : Nat) : List Value := [.nilFunc, fn0 59, fn0 59, fn1 89 b3, fn1 89 b4, fn1 89 b5, fn1 91 b6, fn1 91 b7, fn1 91 b8, fn1 91 b9, fn1 91 b10, fn0 71, .nilFunc, .nilFunc]
theorem info_vs : (Tryd.prog.info? 107).map (·.size) = some 14 := by kernel_rfl
theorem vsL_one (b3 b4 b5 b6 b7 b8 b9 b10 : Nat) : (vsL b3 b4 b5 b6 b7 b8 b9 b10).toArray.all (·.oneCell') = true := by simp [vsL, fn0, fn1, Value.oneCell']
/-- The table of the verbs: its functions, and the variables that they have captured. -/
structure VsAt (w : World) (L : List Value) : Prop where
  ex : ∃ b3 b4 b5 b6 b7 b8 b9 b10 c6 c9 c10 : Nat, L = vsL b3 b4 b5 b6 b7 b8 b9 b10 ∧ Bk w b3 [fn0 61] ∧ Bk w b4 [fn0 62] ∧ Bk w b5 [fn0 63] ∧ Bk w b6 [fn1 89 c6] ∧ Bk w c6 [fn0 65] ∧ Bk w b7 [fn0 66] ∧ Bk w b8 [fn0 67] ∧ Bk w b9 [fn1 93 c9] ∧ Bk w c9 [fn0 69] ∧ Bk w b10 [fn1 93 c10] ∧ Bk w c10 [fn0 70]
set_option maxHeartbeats 4000000 in
set_option maxRecDepth 100000 in
theorem verbsw (w : World) : Calls Tryd.prog 48 #[] w fun e w' => ∃ L, e = .returned (.agg L.toArray) ∧ VsAt w' L ∧ Below w.heap.size w w' := by
  go_enter Tryd.func48, Tryd.ntmps48
  go_wp2_with (first
    | (refine wpList_alloc_bk rfl 107 nils alloc_vs rfl ?_; intro W0 q0 h0)
    | (go_at_call 60; (with_reducible refine (unlessm (fn0 61) rfl _).mono ?_); rintro e W1 ⟨b3, rfl, k1, f1, n1⟩)
    | (go_at_call 60; (with_reducible refine (unlessm (fn0 62) rfl _).mono ?_); rintro e W2 ⟨b4, rfl, k2, f2, n2⟩)
    | (go_at_call 60; (with_reducible refine (unlessm (fn0 63) rfl _).mono ?_); rintro e W3 ⟨b5, rfl, k3, f3, n3⟩)
    | (go_at_call 60; (with_reducible refine (unlessm (fn0 65) rfl _).mono ?_); rintro e W4 ⟨c6, rfl, k4, f4, n4⟩)
    | (go_at_call 64; (with_reducible refine (needsm (fn1 89 c6) rfl _).mono ?_); rintro e W5 ⟨b6, rfl, k5, f5, n5⟩)
    | (go_at_call 64; (with_reducible refine (needsm (fn0 66) rfl _).mono ?_); rintro e W6 ⟨b7, rfl, k6, f6, n6⟩)
    | (go_at_call 64; (with_reducible refine (needsm (fn0 67) rfl _).mono ?_); rintro e W7 ⟨b8, rfl, k7, f7, n7⟩)
    | (go_at_call 68; (with_reducible refine (countsm (fn0 69) rfl _).mono ?_); rintro e W8 ⟨c9, rfl, k8, f8, n8⟩)
    | (go_at_call 64; (with_reducible refine (needsm (fn1 93 c9) rfl _).mono ?_); rintro e W9 ⟨b9, rfl, k9, f9, n9⟩)
    | (go_at_call 68; (with_reducible refine (countsm (fn0 70) rfl _).mono ?_); rintro e W10 ⟨c10, rfl, k10, f10, n10⟩)
    | (go_at_call 64; (with_reducible refine (needsm (fn1 93 c10) rfl _).mono ?_); rintro e W11 ⟨b10, rfl, k11, f11, n11⟩)
    | (refine wpList_store_bk rfl 107 (.tmp 0) (.tmp 12) rfl q0 0 nils (vsL b3 b4 b5 b6 b7 b8 b9 b10) (vsL b3 b4 b5 b6 b7 b8 b9 b10) (h0.bk.new (fr_new (fr_new (fr_new (fr_new (fr_new (fr_new (fr_new (fr_new (fr_new (fr_new f1 f2) f3) f4) f5) f6) f7) f8) f9) f10) f11)) (Nat.le_refl 14) rfl info_vs (vsL_one _ _ _ _ _ _ _ _) rfl rfl ?_; intro W12 h12 k12))
  refine bodyPost_ret (results_bk rfl _ h12 rfl _ Tryd.underlying107 rfl info_vs) rfl ⟨_, rfl, ?_, ?_⟩
  · have hq : ∀ {b : Nat} {C : List Value} {W V : World}, Bk W b C → Below W.heap.size W W11 → Below W0.heap.size W0 V → V.heap.size ≤ b → Bk W12 b C := fun hk hB hV hb => (hk.new hB).keep k12 (by have := h0.size; have := hV.size; omega)
    have g11 : Below W11.heap.size W11 W11 := Below.refl _ _
    have p0 : Below W0.heap.size W0 W0 := Below.refl _ _
    have g10 := fr_new f11 g11
    have g9 := fr_new f10 g10
    have g8 := fr_new f9 g9
    have g7 := fr_new f8 g8
    have g6 := fr_new f7 g7
    have g5 := fr_new f6 g6
    have g4 := fr_new f5 g5
    have g3 := fr_new f4 g4
    have g2 := fr_new f3 g3
    have g1 := fr_new f2 g2
    have p1 := fr_new p0 f1
    have p2 := fr_new p1 f2
    have p3 := fr_new p2 f3
    have p4 := fr_new p3 f4
    have p5 := fr_new p4 f5
    have p6 := fr_new p5 f6
    have p7 := fr_new p6 f7
    have p8 := fr_new p7 f8
    have p9 := fr_new p8 f9
    have p10 := fr_new p9 f10
    exact ⟨b3, b4, b5, b6, b7, b8, b9, b10, c6, c9, c10, rfl, hq k1 g1 p0 n1, hq k2 g2 p1 n2, hq k3 g3 p2 n3, hq k5 g5 p4 n5, hq k4 g4 p3 n4, hq k6 g6 p5 n6, hq k7 g7 p6 n7, hq k9 g9 p8 n9, hq k8 g8 p7 n8, hq k11 g11 p10 n11, hq k10 g10 p9 n10⟩
  · have e1 := fr_new h0.below (fr_new (fr_new (fr_new (fr_new (fr_new (fr_new (fr_new (fr_new (fr_new (fr_new f1 f2) f3) f4) f5) f6) f7) f8) f9) f10) f11)
    exact fr_set e1 k12 (by rw [h0.eq]; exact Nat.le_refl _)
/-- What a verb gives, by what is there. -/
def gvOf (x : Ask) : Option Giv :=
  if x.c.verb = 1 ∨ x.c.verb = 2 then some x.get
  else if x.c.verb = 3 then some (x.unless 0)
  else if x.c.verb = 4 then some (x.unless (if x.there then 2 else 0))
  else if x.c.verb = 5 then some (x.unless (if x.there then 0 else 2))
  else if x.c.verb = 6 then some (x.needs (x.unless (if x.was.id = x.c.id then 0 else 3)))
  else if x.c.verb = 7 then some (x.needs x.rem)
  else if x.c.verb = 8 then some (x.needs x.touch)
  else if x.c.verb = 9 then some (x.needs (x.count (incrF (parseF x.was.v.data.toList).1 x.c.by_)))
  else if x.c.verb = 10 then some (x.needs (x.count (decrF (parseF x.was.v.data.toList).1 x.c.by_)))
  else if x.c.verb = 11 then some x.flush
  else .none
/-- A verb's function: none, or one that gives just that. -/
def VfOk (w : World) (x : Ask) (vf : Value) (og : Option Giv) : Prop := (og = .none ∧ vf = .nilFunc) ∨ ∃ g f C, og = some g ∧ vf = .func (.func f) #[] C ∧ Fnc f ∧ ∀ W, Below w.heap.size w W → Calls Tryd.prog f (#[.agg (askC x).toArray] ++ C) W fun e w' => e = .returned (.agg (givC g).toArray) ∧ Below W.heap.size W w'
theorem vs_at {w : World} {L : List Value} (h : VsAt w L) (x : Ask) (hx : AskOk x) (htab : Lib.TabIs Tryd.prog w "internal/strconv.uint64pow10" .u64 Lib.pow10Tab) (n : Nat) (hn : x.c.verb = n) (h13 : n ≤ 13) : ∃ vf, L[n]? = some vf ∧ VfOk w x vf (gvOf x) := by
  obtain ⟨b3, b4, b5, b6, b7, b8, b9, b10, c6, c9, c10, rfl, k3, k4, k5, k6, m6, k7, k8, k9, m9, k10, m10⟩ := h.ex
  have hr := parseF_range x.was.v.data.toList
  have hv := hx.was.v
  have hb := hx.c.by_
  have cell : ∀ {b : Nat} {v : Value} {W : World}, Bk w b [v] → Below w.heap.size w W → W.cell? ⟨b, 0, none⟩ = some v := fun hk hB => (hk.new hB).at_ 0 _ rfl
  unfold gvOf
  rw [hn]
  match n, h13 with
  | 0, _ => exact ⟨_, rfl, .inl ⟨by simp, rfl⟩⟩
  | 1, _ => exact ⟨_, rfl, .inr ⟨x.get, _, #[], by simp, rfl, fnc_get, fun W _ => getw x W⟩⟩
  | 2, _ => exact ⟨_, rfl, .inr ⟨x.get, _, #[], by simp, rfl, fnc_get, fun W _ => getw x W⟩⟩
  | 3, _ => exact ⟨_, rfl, .inr ⟨_, _, #[_], by simp, rfl, fnc_unless, fun W hB => unlessw _ fnc_vs1 0 x b3 W (cell k3 hB) (fun W => vs1w x W) hx⟩⟩
  | 4, _ => exact ⟨_, rfl, .inr ⟨_, _, #[_], by simp, rfl, fnc_unless, fun W hB => unlessw _ fnc_vs2 _ x b4 W (cell k4 hB) (fun W => vs2w x W) hx⟩⟩
  | 5, _ => exact ⟨_, rfl, .inr ⟨_, _, #[_], by simp, rfl, fnc_unless, fun W hB => unlessw _ fnc_vs3 _ x b5 W (cell k5 hB) (fun W => vs3w x W) hx⟩⟩
  | 6, _ => exact ⟨_, rfl, .inr ⟨_, _, #[_], by simp, rfl, fnc_needs, fun W hB => needs1w _ fnc_unless c6 _ x b6 W (cell k6 hB) (fun _ W2 hB2 => unlessw _ fnc_vs4 _ x c6 W2 (cell m6 (fr_new hB hB2)) (fun W => vs4w x W) hx)⟩⟩
  | 7, _ => exact ⟨_, rfl, .inr ⟨_, _, #[_], by simp, rfl, fnc_needs, fun W hB => needs0w _ fnc_remove _ x b7 W (cell k7 hB) (fun _ W2 _ => removew x W2)⟩⟩
  | 8, _ => exact ⟨_, rfl, .inr ⟨_, _, #[_], by simp, rfl, fnc_needs, fun W hB => needs0w _ fnc_touch _ x b8 W (cell k8 hB) (fun _ W2 _ => touchw x W2 hx)⟩⟩
  | 9, _ => exact ⟨_, rfl, .inr ⟨_, _, #[_], by simp, rfl, fnc_needs, fun W hB => needs1w _ fnc_counts c9 _ x b9 W (cell k9 hB) (fun _ W2 hB2 => countsw _ fnc_incr _ x c9 W2 (cell m9 (fr_new hB hB2)) (incrF_range _ _) hv (fun W3 => incrw _ _ W3 hr.1 hr.2 hb.1 hb.2) (tab_below htab (fr_new hB hB2)))⟩⟩
  | 10, _ => exact ⟨_, rfl, .inr ⟨_, _, #[_], by simp, rfl, fnc_needs, fun W hB => needs1w _ fnc_counts c10 _ x b10 W (cell k10 hB) (fun _ W2 hB2 => countsw _ fnc_decr _ x c10 W2 (cell m10 (fr_new hB hB2)) (decrF_range hr.1 hr.2 hb.1) hv (fun W3 => decrw _ _ W3 hr.1 hr.2 hb.1 hb.2) (tab_below htab (fr_new hB hB2)))⟩⟩
  | 11, _ => exact ⟨_, rfl, .inr ⟨x.flush, _, #[], by simp, rfl, fnc_flush, fun W _ => flushmw x W hx⟩⟩
  | 12, _ => exact ⟨_, rfl, .inl ⟨by simp, rfl⟩⟩
  | 13, _ => exact ⟨_, rfl, .inl ⟨by simp, rfl⟩⟩
end Go.Proofs.YtmjklkcjinfmaaaDoor
