/- The chapter's cells, of nothing: one access. -/
import Derived.Test.YtodppilfpemepaaGreatChecked
import Derived.Test.YtodppilfpemepaaGreatKeep
import Derived.Deep.RegionLaw
import Derived.Deep.AppendLies
import Derived.BigRegion
import Derived.Deep.RegionHeld
import Derived.LoopN
import Derived.LoopTactic
import Derived.IntWalk
namespace Go.Proofs.YtodppilfpemepaaGreat
open Go.RowKit
set_option linter.unusedVariables false

theorem info_rw : (Tryz.prog.info? 127).map (fun i => (i.zero, i.size, i.bytes)) = some (some (.agg #[.int .u64 0, .int .u64 0]), 2, 16) := by kernel_rfl
structure RcE (w : World) (r : Nat) (v : Value) : Prop where
  c0 : w.cell? ⟨r, 0, none⟩ = some v
  c1 : w.cell? ⟨r, 1, none⟩ = some (.int .i64 0)
  c2 : w.cell? ⟨r, 2, none⟩ = some (.int .u8 0)
  c3 : w.cell? ⟨r, 3, none⟩ = some (.int .u64 0)
  c4 : w.cell? ⟨r, 4, none⟩ = some (.int .u64 0)
  c5 : w.cell? ⟨r, 5, none⟩ = some (.int .u64 0)
  fz : ∀ o, o < 6 → w.frozen? ⟨r, o, none⟩ = false
theorem RcE.keep {w W : World} {r : Nat} {v : Value} {S : Nat → Prop} (h : RcE w r v) (hk : Keeps S w W) (hS : ¬ S r) : RcE W r v := by
  obtain ⟨h0, h1, h2, h3, h4, h5, hf⟩ := h
  have hr : r < w.heap.size := World.block_lt_of_cell? _ _ h0
  exact ⟨hk.cell (p := ⟨r, 0, none⟩) hS h0, hk.cell (p := ⟨r, 1, none⟩) hS h1, hk.cell (p := ⟨r, 2, none⟩) hS h2, hk.cell (p := ⟨r, 3, none⟩) hS h3, hk.cell (p := ⟨r, 4, none⟩) hS h4, hk.cell (p := ⟨r, 5, none⟩) hS h5, fun o ho => hk.frozen (p := ⟨r, o, none⟩) hS hr (hf o ho)⟩
theorem rc_made (W : World) (t : TypeId) : RcE (W.alloc (.cells #[.slice none 0 0, .int .i64 0, .int .u8 0, .int .u64 0, .int .u64 0, .int .u64 0] t)) W.heap.size (.slice none 0 0) :=
  ⟨by simp, by simp, by simp, by simp, by simp, by simp, fun o ho => by simp⟩
theorem RcE.store {w : World} {r : Nat} {v u : Value} (h : RcE w r v) : RcE (w.setCell ⟨r, 0, none⟩ u) r u ∧ Keeps (fun k => k = r) w (w.setCell ⟨r, 0, none⟩ u) := by
  obtain ⟨h0, h1, h2, h3, h4, h5, hf⟩ := h
  have o := fun (j : Nat) (hj : j ≠ 0) (x : Value) (hx : w.cell? ⟨r, j, none⟩ = some x) => (World.cell?_setCell_other w ⟨r, 0, none⟩ ⟨r, j, none⟩ u (by intro e; injection e with _ e; exact hj e.symm)).trans hx
  exact ⟨⟨World.cell?_setCell_same _ _ _ h0, o 1 (by decide) _ h1, o 2 (by decide) _ h2, o 3 (by decide) _ h3, o 4 (by decide) _ h4, o 5 (by decide) _ h5, fun j hj => by rw [World.frozen?_setCell]; exact hf j hj⟩, Keeps.setCell (S := fun k => k = r) (Keeps.refl _ w) (p := ⟨r, 0, none⟩) (.inl rfl) u⟩
theorem rc_peek {w : World} {r : Nat} (h : RcE w r (.slice none 0 0)) (a : Int) :
    Calls Tryz.prog 102 #[.pointer (some ⟨r, 0, none⟩), .int .u64 a] w fun e w' => e = .returned (.int .u64 0) ∧ w = w' := by
  have hc := h.c0
  clear h
  go_enter Tryz.func102, Tryz.ntmps102
  go_wp2_with fail
  refine wp_loop_rounds 1 ?_
  rw [rounds_succ]
  go_wp2_with fail
  go_ret
  exact ⟨rfl, rfl⟩
theorem undrew' {w w1 : World} {row : Option Nat} (h : w.drew.grownBy w1 row) : w.grownBy w1 row := ⟨h.os, h.tape, h.output, h.size, h.block⟩
theorem news2c {W : World} {x y : Int} {t : TypeId} {j : Nat} {u : Value} (hj : [Value.int .u64 x, Value.int .u64 y][j]? = some u) : (W.alloc (.cells #[.int .u64 x, .int .u64 y] t)).cell? ((⟨W.heap.size, 0, none⟩ : Addr).add j) = some u :=
  World.news_of_block (B := W.heap.size) (cs := #[.int .u64 x, .int .u64 y]) (t := t) (fr := (0, 0)) (by show (W.heap.push _)[W.heap.size]? = _; simp) j u hj
def RPut (w : World) (r : Nat) (w' : World) : Prop := (∃ u, RcE w' r u) ∧ Keeps (fun k => k = r) w w'
set_option maxHeartbeats 2000000 in
set_option maxRecDepth 100000 in
theorem rc_put {w : World} {r : Nat} (h : RcE w r (.slice none 0 0)) (a v : Int) :
    Calls Tryz.prog 95 #[.pointer (some ⟨r, 0, none⟩), .int .u64 a, .int .u64 v] w fun e w' => e = .returned (.tuple #[]) ∧ RPut w r w' := by
  have hc := h.c0
  have hf := h.fz 0 (by omega)
  have HH := Lib.hid h
  clear h
  by_cases hv : v = 0
  · subst hv
    go_enter Tryz.func95, Tryz.ntmps95
    go_wp2_with fail
    refine wp_loop_rounds 1 ?_
    rw [rounds_succ]
    go_wp2_with fail
    go_end0
    exact ⟨rfl, ⟨_, HH.out.store.1⟩, HH.out.store.2⟩
  · have hb : (v == 0) = false := by simpa using hv
    have hd : decide (v = 0) = false := decide_eq_false hv
    obtain ⟨i0, hi, hz0, hz1, hz2⟩ := info_parts info_rw
    clear hv
    have hr : r < w.heap.size := World.block_lt_of_cell? _ _ hc
    have hca : ∀ o1 o2, ((w.alloc o1).alloc o2).cell? ⟨r, 0, none⟩ = some (.slice none 0 0) := fun o1 o2 => (World.cell?_alloc_lt (w.alloc o1) o2 ⟨r, 0, none⟩ (by simp; omega)).trans ((World.cell?_alloc_lt w o1 ⟨r, 0, none⟩ hr).trans hc)
    have hfa : ∀ o1 o2, ((w.alloc o1).alloc o2).frozen? ⟨r, 0, none⟩ = false := fun o1 o2 => (((Keeps.refl (fun _ => False) w).alloc o1).alloc o2).frozen (p := ⟨r, 0, none⟩) (by simp) hr hf
    go_enter Tryz.func95, Tryz.ntmps95
    go_wp2_with fail
    refine wp_loop_rounds 1 ?_
    rw [rounds_succ]
    go_wp2_with fail
    all_goals
      go_end0
      exact ⟨rfl, ⟨_, HH.out.store.1.keep (S := fun _ => False) ((((Keeps.refl _ _).alloc _).alloc _).drew) (by simp)⟩, (((HH.out.store.2).alloc _).alloc _).drew⟩
def AccP (w : World) (r : Nat) (w' : World) : Prop := Keeps (fun k => k = r) w w'
set_option maxHeartbeats 2000000 in
set_option maxRecDepth 100000 in
theorem rc_access {w : World} {r : Nat} (h : RcE w r (.slice none 0 0)) (kk a v : Int) :
    Calls Tryz.prog 126 #[.pointer (some ⟨r, 0, none⟩), .int .u8 kk, .int .u64 a, .int .u64 v] w fun e w' => e = .returned (.int .u64 0) ∧ AccP w r w' := by
  have C1 := Lib.hid (rc_peek h a)
  have C2 := Lib.hid (rc_put h a v)
  clear h
  go_enter Tryz.func126, Tryz.ntmps126
  go_wp2_with (first
    | (go_at_call 102; ((with_reducible refine C1.out.mono ?_); rintro e w1 ⟨rfl, rfl⟩))
    | (go_at_call 95; ((with_reducible refine C2.out.mono ?_); rintro e w1 ⟨rfl, ⟨u, hu⟩, hk⟩; obtain ⟨c0, c1, c2, c3, c4, c5, fz⟩ := hu; have f1 := fz 1 (by decide); have f2 := fz 2 (by decide); have f3 := fz 3 (by decide); have f4 := fz 4 (by decide); have f5 := fz 5 (by decide); have HK := Lib.hid hk; clear C1 C2 hk fz)))
  go_ret
  exact ⟨rfl, ((((HK.out.setCell (.inl rfl) _).setCell (.inl rfl) _).setCell (.inl rfl) _).setCell (.inl rfl) _).setCell (.inl rfl) _⟩
section
variable {w : World} {r : Nat}
theorem rc_store (h : RcE w r (.slice none 0 0)) (a v : Int) :
    Calls Tryz.prog 97 #[.pointer (some ⟨r, 0, none⟩), .int .u64 a, .int .u64 v] w fun e w' => e = .returned (.int .u64 0) ∧ AccP w r w' := by
  have C2 := Lib.hid (fun kk v => rc_access h kk a v)
  clear h
  go_enter Tryz.func97, Tryz.ntmps97
  go_wp2_with ((go_at_call 126; ((with_reducible refine (C2.out _ _).mono ?_); rintro e w1 ⟨rfl, hk⟩)))
  go_ret
  exact ⟨rfl, hk⟩
theorem rc_cas (h : RcE w r (.slice none 0 0)) (a was is : Int) {b : Bool} (hb : ((0 : Int) == was) = b) :
    Calls Tryz.prog 131 #[.pointer (some ⟨r, 0, none⟩), .int .u64 a, .int .u64 was, .int .u64 is] w fun e w' => e = .returned (.tuple #[.int .u64 0, .bool b]) ∧ AccP w r w' := by
  subst hb
  have C1 := Lib.hid (rc_peek h a)
  have C2 := Lib.hid (fun kk v => rc_access h kk a v)
  clear h
  by_cases hw : was = 0
  · subst hw
    go_enter Tryz.func131, Tryz.ntmps131
    go_wp2_with (first
      | (go_at_call 102; ((with_reducible refine C1.out.mono ?_); rintro e w1 ⟨rfl, rfl⟩))
      | (go_at_call 126; ((with_reducible refine (C2.out _ _).mono ?_); rintro e w1 ⟨rfl, hk⟩)))
    go_ret2
    exact ⟨rfl, hk⟩
  · have d1 : ((0 : Int) == was) = false := by simpa using fun e => hw e.symm
    have d2 : ((0 : Int) != was) = true := by simpa using fun e => hw e.symm
    rw [d1]
    go_enter Tryz.func131, Tryz.ntmps131
    go_wp2_with (first
      | (go_at_call 102; ((with_reducible refine C1.out.mono ?_); rintro e w1 ⟨rfl, rfl⟩))
      | (go_at_call 126; ((with_reducible refine (C2.out _ _).mono ?_); rintro e w1 ⟨rfl, hk⟩)))
    go_ret2
    exact ⟨rfl, hk⟩
theorem rc_new (w : World) : Calls Tryz.prog 51 #[.slice none 0 0] w fun e w' => e = .returned (.pointer (some ⟨w.heap.size, 0, none⟩)) ∧ w' = w.alloc (.cells #[.slice none 0 0, .int .i64 0, .int .u8 0, .int .u64 0, .int .u64 0, .int .u64 0] 147) := by
  go_enter Tryz.func51, Tryz.ntmps51
  go_wp2_with fail
  refine wp_loop_rounds 1 ?_
  rw [rounds_succ]
  go_wp2_with fail
  go_ret
  exact ⟨rfl, rfl⟩
end
end Go.Proofs.YtodppilfpemepaaGreat
