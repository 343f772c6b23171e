/- The law CellsVoid. -/
import Derived.Test.YteofbgbjibbdaabRcS
import Derived.Test.YteofbgbjibbdaabClSort
import Derived.Deep.RegionHeld3
namespace Go.Proofs.Yteofbgbjibbdaab
open Go.RowKit
set_option linter.unusedVariables false
theorem rc_new' (w : World) : Calls Try.prog 25 #[.slice none 0 0] w fun e w' => e = .returned (.pointer (some ⟨w.heap.size, 0, none⟩)) ∧ RcE w' w.heap.size (.slice none 0 0) ∧ Below w.heap.size w w' ∧ w.heap.size < w'.heap.size := by
  refine (rc_new w).mono ?_
  rintro e w' ⟨rfl, rfl⟩
  exact ⟨rfl, rc_made _ _, (Below.refl _ _).alloc (Nat.le_refl _) _, by simp⟩
theorem wf_u8v {a : Int} (h : (Lit.int .u8 a).wf = true) : 0 ≤ a ∧ a ≤ 255 := by
  simp [Lit.wf, IntKind.min, IntKind.max, IntKind.signed, IntKind.bits] at h
  omega
set_option maxHeartbeats 4000000 in
set_option maxRecDepth 100000 in
theorem walk_CellsVoid (a0_0 : Int) (a0_1 : Int) (a0_2 : Int) (a0_3 : Int) (w : World) (w0_0 : (Lit.int .u8 a0_0).wf = true) (w0_1 : (Lit.int .u64 a0_1).wf = true) (w0_2 : (Lit.int .u64 a0_2).wf = true) (w0_3 : (Lit.int .u64 a0_3).wf = true) :
    Calls Try.prog 3 #[.agg #[.int .u8 a0_0, .int .u64 a0_1, .int .u64 a0_2, .int .u64 a0_3]] w fun e w' => e = .returned (.bool true) ∧ Below w.heap.size w w' := by
  have HSN := Lib.hid sort_none
  have u0 := wf_u8v w0_0
  have u1 := wf_isU w0_1
  have u2 := wf_isU w0_2
  have u3 := wf_isU w0_3
  clear w0_0 w0_1 w0_2 w0_3
  obtain ⟨N, hN⟩ : ∃ N, N = w.heap.size := ⟨_, rfl⟩
  have HN := Lib.hid hN
  clear hN
  go_enter Try.func3, Try.ntmps3
  go_wp2_with fail
  generalize hW : World.alloc _ _ = W
  have hb0 : Below N w W := by rw [← hW, HN.out]; exact ((Below.refl _ _).alloc (Nat.le_refl _) _).alloc (by simp) _
  have d0 : W.cell? ⟨w.heap.size, 0, none⟩ = some (.int .u8 a0_0) := by rw [← hW]; simp
  have d1 : W.cell? ⟨w.heap.size, 1, none⟩ = some (.int .u64 a0_1) := by rw [← hW]; simp
  have d2 : W.cell? ⟨w.heap.size, 2, none⟩ = some (.int .u64 a0_2) := by rw [← hW]; simp
  have d3 : W.cell? ⟨w.heap.size, 3, none⟩ = some (.int .u64 a0_3) := by rw [← hW]; simp
  have hs : W.heap.size = w.heap.size + 2 := by rw [← hW]; simp
  have hq : Cel W (w.heap.size + 1) (fun _ => 0) 0 0 0 0 0 0 (fun k => k = w.heap.size + 1) := by
    have := made_cel (w.alloc (.cells #[.int .u8 a0_0, .int .u64 a0_1, .int .u64 a0_2, .int .u64 a0_3] 25)) 32
    rw [hW, show (w.alloc (.cells #[.int .u8 a0_0, .int .u64 a0_1, .int .u64 a0_2, .int .u64 a0_3] 25)).heap.size = w.heap.size + 1 by simp] at this
    exact this
  have ltM : w.heap.size < W.heap.size := by omega
  have HB : Below W.heap.size W W := Below.refl _ _
  have X0 := Lib.hid d0
  have X1 := Lib.hid d1
  have X2 := Lib.hid d2
  have X3 := Lib.hid d3
  have HQ := Lib.hid hq
  have HB0 := Lib.hid hb0
  have HS := Lib.hid hs
  clear hW hq hb0 hs
  refine (cas_nil _ _ _ _).mono ?_
  rintro e w1 ⟨rfl, hk⟩
  replace HB := below_then HB hk; replace d1 := HB.cell (p := ⟨w.heap.size, 1, none⟩) ltM |>.trans X1.out; replace d2 := HB.cell (p := ⟨w.heap.size, 2, none⟩) ltM |>.trans X2.out; replace d3 := HB.cell (p := ⟨w.heap.size, 3, none⟩) ltM |>.trans X3.out; clear hk
  go_wp2_with (first
    | (go_at_call 16; refine (load_nil _ _).mono ?_; rintro e w2 ⟨rfl, rfl⟩)
    | (go_at_call 17; refine (store_nil _ _ _).mono ?_; rintro e w2 ⟨rfl, hk⟩; replace HB := below_then HB hk; replace d1 := HB.cell (p := ⟨w.heap.size, 1, none⟩) ltM |>.trans X1.out; replace d2 := HB.cell (p := ⟨w.heap.size, 2, none⟩) ltM |>.trans X2.out; replace d3 := HB.cell (p := ⟨w.heap.size, 3, none⟩) ltM |>.trans X3.out; clear hk)
    | (go_at_call 18; refine (swap_nil _ _ _).mono ?_; rintro e w2 ⟨rfl, hk⟩; replace HB := below_then HB hk; replace d1 := HB.cell (p := ⟨w.heap.size, 1, none⟩) ltM |>.trans X1.out; replace d2 := HB.cell (p := ⟨w.heap.size, 2, none⟩) ltM |>.trans X2.out; replace d3 := HB.cell (p := ⟨w.heap.size, 3, none⟩) ltM |>.trans X3.out; clear hk)
    | (go_at_call 19; refine (add_nil _ _ _).mono ?_; rintro e w2 ⟨rfl, hk⟩; replace HB := below_then HB hk; replace d1 := HB.cell (p := ⟨w.heap.size, 1, none⟩) ltM |>.trans X1.out; replace d2 := HB.cell (p := ⟨w.heap.size, 2, none⟩) ltM |>.trans X2.out; replace d3 := HB.cell (p := ⟨w.heap.size, 3, none⟩) ltM |>.trans X3.out; clear hk)
    | (go_at_call 20; refine (count_nil _).mono ?_; rintro e w2 ⟨rfl, rfl⟩)
    | (go_at_call 21; refine (last_nil _).mono ?_; rintro e w2 ⟨rfl, hk⟩; replace HB := below_then HB hk; replace d1 := HB.cell (p := ⟨w.heap.size, 1, none⟩) ltM |>.trans X1.out; replace d2 := HB.cell (p := ⟨w.heap.size, 2, none⟩) ltM |>.trans X2.out; replace d3 := HB.cell (p := ⟨w.heap.size, 3, none⟩) ltM |>.trans X3.out; clear hk)
    | (go_at_call 22; refine (peek_nil _ _).mono ?_; rintro e w2 ⟨rfl, rfl⟩)
    | (go_at_call 23; refine (words_nil _).mono ?_; rintro e w2 ⟨rfl, rfl⟩))
  replace d0 := (HB.cell (p := ⟨w.heap.size, 0, none⟩) ltM).trans X0.out
  have hsz := HB.size
  have HS2 : W.heap.size = w.heap.size + 2 := HS.out
  go_region_held3 (fun w' => w'.cell? ⟨w.heap.size, 0, none⟩ = some (.int .u8 a0_0) ∧ w'.cell? ⟨w.heap.size, 1, none⟩ = some (.int .u64 a0_1) ∧ w'.cell? ⟨w.heap.size, 2, none⟩ = some (.int .u64 a0_2) ∧ w'.cell? ⟨w.heap.size, 3, none⟩ = some (.int .u64 a0_3))
    (first
      | exact ⟨by assumption, by assumption, by assumption, by assumption⟩
      | exact ⟨d0, d1, d2, d3⟩)
    (first
      | (go_at_call 25; refine (rc_new' _).mono ?_; rintro e w3 ⟨rfl, hr, hb3, hl3⟩; have HB3 : Below W.heap.size W w3 := below_then HB.drew hb3; have y0 := (HB3.cell (p := ⟨w.heap.size, 0, none⟩) ltM).trans X0.out; have y1 := (HB3.cell (p := ⟨w.heap.size, 1, none⟩) ltM).trans X1.out; have y2 := (HB3.cell (p := ⟨w.heap.size, 2, none⟩) ltM).trans X2.out; have y3 := (HB3.cell (p := ⟨w.heap.size, 3, none⟩) ltM).trans X3.out; have C := Lib.hid (same0 (IsCells.keep HQ.out (Keeps.of_new (S := fun _ => False) HB3) (fun _ _ s => s)) (by omega) (fun k e => by have := HB3.size; omega) hr (fun e => by have := HB.drew.size; omega) u0 u1 u2 u3); have HB3' := Lib.hid HB3)
      | (go_at_call 24; (refine C.out.mono ?_; rintro e w4 ⟨rfl, S', f, kk, a, x, y, m, hk4, q4⟩; have hne : ¬ (w.heap.size = w.heap.size + 1 ∨ w.heap.size = w2.drew.heap.size) := (by have := HB.drew.size; omega); have z0 := hk4.cell (p := ⟨w.heap.size, 0, none⟩) hne y0; have z1 := hk4.cell (p := ⟨w.heap.size, 1, none⟩) hne y1; have z2 := hk4.cell (p := ⟨w.heap.size, 2, none⟩) hne y2; have z3 := hk4.cell (p := ⟨w.heap.size, 3, none⟩) hne y3; have hl4 : w.heap.size < w4.heap.size := World.block_lt_of_cell? _ _ z0; have HB4 := Lib.hid (hk4.to_below (B := N) (fun k _ s => by have := HB.drew.size; have := HN.out; omega) (by have := HB3'.out.size; have := HN.out; omega)); have C5 := Lib.hid (count_any q4)))
      | (go_at_call 20; ((with_reducible refine C5.out.mono ?_); rintro e w5 ⟨rfl, rfl⟩))
      | (go_at_call 26; refine (lives05 HSN.out _).mono ?_; rintro e w5 ⟨rfl, hk5⟩; have v0 := (hk5.cell (p := ⟨w.heap.size, 0, none⟩) hl4).trans z0; have v1 := (hk5.cell (p := ⟨w.heap.size, 1, none⟩) hl4).trans z1; have v2 := (hk5.cell (p := ⟨w.heap.size, 2, none⟩) hl4).trans z2; have v3 := (hk5.cell (p := ⟨w.heap.size, 3, none⟩) hl4).trans z3))
  have hbb := (HB0.out.trans (HB3'.out.mono (by have := HN.out; omega))).trans HB4.out
  rw [HN.out] at hbb
  clear y0 y1 y2 y3 z0 z1 z2 z3 v0 v1 v2 v3 d0 d1 d2 d3 C C5 HB4 hk4 q4
  go_wp2
  go_ret
  exact ⟨rfl, below_then hbb hk5⟩
end Go.Proofs.Yteofbgbjibbdaab
