/- One access of new cells, the program's and the chapter's. -/
import Derived.Test.YteofbgbjibbdaabClL
import Derived.Test.YteofbgbjibbdaabRc
import Derived.Deep.RegionHeld3
namespace Go.Proofs.Yteofbgbjibbdaab
open Go.RowKit
set_option linter.unusedVariables false
def D0 (p : Nat) (S : Nat → Prop) (w w' : World) : Prop := ∃ S' f kk a x y m, Turn S S' w w' ∧ Cel w' p f 1 kk a x y m S'
section
variable {w : World} {p n : Nat} {kk a0 x y xa v u : Int} {S : Nat → Prop}
theorem o_load (h : Cel w p (fun _ => 0) 0 kk a0 x y n S) (ha : isU xa) (hn : n ≤ 1000) :
    Calls Try.prog 16 #[.pointer (some ⟨p, 0, none⟩), .int .u64 xa] w fun e w' => e = .returned (.int .u64 0) ∧ D0 p S w w' := by
  refine (load_any h ha (by omega) (by omega) (by omega)).mono ?_
  rintro e w' ⟨rfl, S', t, q⟩
  exact ⟨rfl, S', _, _, _, _, _, _, t, q⟩
theorem o_store (h : Cel w p (fun _ => 0) 0 kk a0 x y n S) (ha : isU xa) (hv : isU v) (hn : n ≤ 1000) :
    Calls Try.prog 17 #[.pointer (some ⟨p, 0, none⟩), .int .u64 xa, .int .u64 v] w fun e w' => e = .returned (.int .u64 0) ∧ D0 p S w w' := by
  refine (store_any h ha hv (by omega) (by omega) (by omega)).mono ?_
  rintro e w' ⟨rfl, S', t, q⟩
  exact ⟨rfl, S', _, _, _, _, _, _, t, q⟩
theorem o_swap (h : Cel w p (fun _ => 0) 0 kk a0 x y n S) (ha : isU xa) (hv : isU v) (hn : n ≤ 1000) :
    Calls Try.prog 18 #[.pointer (some ⟨p, 0, none⟩), .int .u64 xa, .int .u64 v] w fun e w' => e = .returned (.int .u64 0) ∧ D0 p S w w' := by
  refine (swap_any h ha hv (by omega) (by omega) (by omega)).mono ?_
  rintro e w' ⟨rfl, S', t, q⟩
  exact ⟨rfl, S', _, _, _, _, _, _, t, q⟩
theorem o_add (h : Cel w p (fun _ => 0) 0 kk a0 x y n S) (ha : isU xa) (hn : n ≤ 1000) :
    Calls Try.prog 19 #[.pointer (some ⟨p, 0, none⟩), .int .u64 xa, .int .u64 v] w fun e w' => e = .returned (.int .u64 0) ∧ D0 p S w w' := by
  refine (add_any h ha (by omega) (by omega) (by omega)).mono ?_
  rintro e w' ⟨rfl, S', t, q⟩
  exact ⟨rfl, S', _, _, _, _, _, _, t, q⟩
theorem o_cas (h : Cel w p (fun _ => 0) 0 kk a0 x y n S) (hS : ∀ j, S j → j < w.heap.size) (ha : isU xa) (hv : isU v) (hn : n ≤ 1000) {b : Bool} (hb : ((0 : Int) == u) = b) :
    Calls Try.prog 15 #[.pointer (some ⟨p, 0, none⟩), .int .u64 xa, .int .u64 u, .int .u64 v] w fun e w' => e = .returned (.tuple #[.int .u64 0, .bool b]) ∧ D0 p S w w' := by
  refine (cas_any h hS ha hv (by omega) (by omega) (by omega) hb).mono ?_
  rintro e w' ⟨rfl, S', t, q⟩
  exact ⟨rfl, S', _, _, _, _, _, _, t, q⟩
end
theorem five' {kd : Int} (h : 0 ≤ kd ∧ kd ≤ 255) : kd.tmod 5 = 0 ∨ kd.tmod 5 = 1 ∨ kd.tmod 5 = 2 ∨ kd.tmod 5 = 3 ∨ kd.tmod 5 = 4 := by
  rw [Int.tmod_eq_emod_of_nonneg h.1]; omega
def SmPost (p r : Nat) (S : Nat → Prop) (w w' : World) : Prop := ∃ S' f kk a x y m, Keeps (fun k => S k ∨ k = r) w w' ∧ Cel w' p f 1 kk a x y m S'
theorem sm_done {p r : Nat} {S : Nat → Prop} {w W w2 w3 : World} (hW : Keeps (fun _ => False) w W) (hd : D0 p S W w2) (hr : AccP w2 r w3) (hrS : ¬ S r) (hlt : r < W.heap.size) : SmPost p r S w w3 := by
  obtain ⟨S', f, kk, a, x, y, m, t, q⟩ := hd
  have hrS' : ¬ S' r := fun s => by
    rcases t.only r s with s | s
    · exact hrS s
    · omega
  refine ⟨S', f, kk, a, x, y, m, (hW.mono (fun k _ s => s.elim)).trans ((t.keeps.mono (fun k _ s => Or.inl s)).trans (hr.mono (fun k _ s => Or.inr s)) (fun k _ s => s)) (fun k _ s => s), IsCells.keep q hr (fun k s e => hrS' (e ▸ s))⟩
theorem D0.cell {p : Nat} {S : Nat → Prop} {W w2 : World} (h : D0 p S W w2) {b j : Nat} {v : Value} (hb : ¬ S b) (hc : W.cell? ⟨b, j, none⟩ = some v) : w2.cell? ⟨b, j, none⟩ = some v := by
  obtain ⟨S', f, kk, a, x, y, m, t, q⟩ := h
  exact t.keeps.cell (p := ⟨b, j, none⟩) hb hc
theorem D0.rc {p r : Nat} {S : Nat → Prop} {W w2 : World} {v : Value} (h : D0 p S W w2) (hr : RcE W r v) (hb : ¬ S r) : RcE w2 r v := by
  obtain ⟨S', f, kk, a, x, y, m, t, q⟩ := h
  exact hr.keep t.keeps hb
set_option maxHeartbeats 4000000 in
set_option maxRecDepth 100000 in
theorem same0 {w : World} {p r n : Nat} {S : Nat → Prop} (h : Cel w p (fun _ => 0) 0 0 0 0 0 n S) (hn : n ≤ 1000) (hS : ∀ k, S k → k < w.heap.size) (hr : RcE w r (.slice none 0 0)) (hrS : ¬ S r) {kd xa xv xi : Int} (hkd : 0 ≤ kd ∧ kd ≤ 255) (ux : isU xa) (uv : isU xv) (ui : isU xi) :
    Calls Try.prog 24 #[.pointer (some ⟨p, 0, none⟩), .pointer (some ⟨r, 0, none⟩), .agg #[.int .u8 kd, .int .u64 xa, .int .u64 xv, .int .u64 xi]] w fun e w' => e = .returned (.bool true) ∧ SmPost p r S w w' := by
  have hrl : r < w.heap.size := World.block_lt_of_cell? _ _ hr.c0
  have h5 := five' hkd
  have HH := Lib.hid h
  have HS := Lib.hid hS
  have HR := Lib.hid hr
  have HRS := Lib.hid hrS
  have HRL := Lib.hid hrl
  clear h hS hr hrS hrl
  rcases h5 with h5 | h5 | h5 | h5 | h5
  all_goals
    have h5' : kd % 5 = kd.tmod 5 := (Int.tmod_eq_emod_of_nonneg hkd.1).symm
    rw [h5] at h5'
    go_enter Try.func24, Try.ntmps24
    go_wp2_with fail
    generalize hW : w.alloc _ = W
    have kW : Keeps (fun _ => False) w W := by rw [← hW]; exact (Keeps.refl _ _).alloc _
    have x1 : W.cell? ⟨w.heap.size, 1, none⟩ = some (.int .u64 xa) := by rw [← hW]; simp
    have x2 : W.cell? ⟨w.heap.size, 2, none⟩ = some (.int .u64 xv) := by rw [← hW]; simp
    have x3 : W.cell? ⟨w.heap.size, 3, none⟩ = some (.int .u64 xi) := by rw [← hW]; simp
    have hnS : ¬ S w.heap.size := fun s => by have := HS.out _ s; omega
    have hrW : r < W.drew.heap.size := by have := HRL.out; have := kW.drew.size; omega
    have hSW : ∀ k, S k → k < W.heap.size := fun k s => by have := HS.out k s; have := kW.size; omega
    replace x1 : W.drew.cell? ⟨w.heap.size, 1, none⟩ = some (.int .u64 xa) := x1
    have q1 : Cel W.drew p (fun _ => 0) 0 0 0 0 0 n S := IsCells.keep HH.out kW.drew (fun _ _ s => s)
    have q0 : Cel W p (fun _ => 0) 0 0 0 0 0 n S := IsCells.keep HH.out kW (fun _ _ s => s)
    have r1 : RcE W.drew r (.slice none 0 0) := HR.out.keep kW.drew (by simp)
    have R0 := Lib.hid (show RcE W r (.slice none 0 0) from HR.out.keep kW (by simp))
    have HK := Lib.hid kW
    have HX := Lib.hid hnS
    have HL := Lib.hid hrW
    have R1 := Lib.hid r1
    have HSW := Lib.hid hSW
    clear hW kW hnS hrW r1 hSW HS HR HH
  · have C1 := Lib.hid (o_load q1 ux hn)
    clear q1 q0 x2 x3
    go_region_held3 (fun w' => w'.cell? ⟨w.heap.size, 1, none⟩ = some (.int .u64 xa))
      (first
        | assumption)
      (first
        | (go_at_call 16; ((with_reducible refine C1.out.mono ?_); rintro e w2 ⟨rfl, hd⟩; have y1 := hd.cell HX.out x1; have C2 := Lib.hid (rc_load (hd.rc R1.out HRS.out) xa); have HD := Lib.hid hd; clear hd))
        | (go_at_call 64; ((with_reducible refine C2.out.mono ?_); rintro e w3 ⟨rfl, hk⟩; have D := sm_done HK.out.drew HD.out hk HRS.out HL.out; have y3 : w3.cell? ⟨w.heap.size, 1, none⟩ = some (.int .u64 xa) := Keeps.cell hk (p := ⟨w.heap.size, 1, none⟩) (by have := HRL.out; simp; omega) y1)))
    all_goals
      go_wp2
      go_ret
      exact ⟨rfl, D⟩
  · have C1 := Lib.hid (o_store (v := xv) q1 ux uv hn)
    replace x2 : W.drew.cell? ⟨w.heap.size, 2, none⟩ = some (.int .u64 xv) := x2
    clear q1 q0 x3
    go_region_held3 (fun w' => w'.cell? ⟨w.heap.size, 1, none⟩ = some (.int .u64 xa) ∧ w'.cell? ⟨w.heap.size, 2, none⟩ = some (.int .u64 xv))
      (first
        | exact ⟨by assumption, by assumption⟩)
      (first
        | (go_at_call 17; ((with_reducible refine C1.out.mono ?_); rintro e w2 ⟨rfl, hd⟩; have y1 := hd.cell HX.out x1; have y2 := hd.cell HX.out x2; have C2 := Lib.hid (rc_store (hd.rc R1.out HRS.out) xa xv); have HD := Lib.hid hd; clear hd))
        | (go_at_call 65; ((with_reducible refine C2.out.mono ?_); rintro e w3 ⟨rfl, hk⟩; have D := sm_done HK.out.drew HD.out hk HRS.out HL.out; have y3 : w3.cell? ⟨w.heap.size, 1, none⟩ = some (.int .u64 xa) := Keeps.cell hk (p := ⟨w.heap.size, 1, none⟩) (by have := HRL.out; simp; omega) y1; have y4 : w3.cell? ⟨w.heap.size, 2, none⟩ = some (.int .u64 xv) := Keeps.cell hk (p := ⟨w.heap.size, 2, none⟩) (by have := HRL.out; simp; omega) y2)))
    all_goals
      go_wp2
      go_ret
      exact ⟨rfl, D⟩
  · obtain ⟨b, hb⟩ : ∃ b, ((0 : Int) == xv) = b := ⟨_, rfl⟩
    have C1 := Lib.hid (o_cas q0 HSW.out ux ui hn hb)
    replace x1 : W.cell? ⟨w.heap.size, 1, none⟩ = some (.int .u64 xa) := x1
    have HBB := Lib.hid hb
    clear q1 q0 hb
    go_wp2_with (go_at_call 15; ((with_reducible refine C1.out.mono ?_); rintro e w2 ⟨rfl, hd⟩; have y1 := hd.cell HX.out x1; have y2 := hd.cell HX.out x2; have y3 := hd.cell HX.out x3; have C2 := Lib.hid (rc_cas (hd.rc R0.out HRS.out) xa xv xi HBB.out); have HD := Lib.hid hd; clear hd x1 x2 x3))
    refine C2.out.mono ?_
    rintro e w3 ⟨rfl, hk⟩
    have D := sm_done HK.out HD.out hk HRS.out HL.out
    clear y1 y2 y3 C1 C2
    cases b
    all_goals
      go_wp2_with fail
      go_ret
      exact ⟨rfl, D⟩
  · have C1 := Lib.hid (o_swap (v := xv) q1 ux uv hn)
    replace x2 : W.drew.cell? ⟨w.heap.size, 2, none⟩ = some (.int .u64 xv) := x2
    clear q1 q0 x3
    go_region_held3 (fun w' => w'.cell? ⟨w.heap.size, 1, none⟩ = some (.int .u64 xa) ∧ w'.cell? ⟨w.heap.size, 2, none⟩ = some (.int .u64 xv))
      (first
        | exact ⟨by assumption, by assumption⟩)
      (first
        | (go_at_call 18; ((with_reducible refine C1.out.mono ?_); rintro e w2 ⟨rfl, hd⟩; have y1 := hd.cell HX.out x1; have y2 := hd.cell HX.out x2; have C2 := Lib.hid (rc_swap (hd.rc R1.out HRS.out) xa xv); have HD := Lib.hid hd; clear hd))
        | (go_at_call 67; ((with_reducible refine C2.out.mono ?_); rintro e w3 ⟨rfl, hk⟩; have D := sm_done HK.out.drew HD.out hk HRS.out HL.out; have y3 : w3.cell? ⟨w.heap.size, 1, none⟩ = some (.int .u64 xa) := Keeps.cell hk (p := ⟨w.heap.size, 1, none⟩) (by have := HRL.out; simp; omega) y1; have y4 : w3.cell? ⟨w.heap.size, 2, none⟩ = some (.int .u64 xv) := Keeps.cell hk (p := ⟨w.heap.size, 2, none⟩) (by have := HRL.out; simp; omega) y2)))
    all_goals
      go_wp2
      go_ret
      exact ⟨rfl, D⟩
  · have C1 := Lib.hid (o_add (v := xv) q1 ux hn)
    replace x2 : W.drew.cell? ⟨w.heap.size, 2, none⟩ = some (.int .u64 xv) := x2
    clear q1 q0 x3
    go_region_held3 (fun w' => w'.cell? ⟨w.heap.size, 1, none⟩ = some (.int .u64 xa) ∧ w'.cell? ⟨w.heap.size, 2, none⟩ = some (.int .u64 xv))
      (first
        | exact ⟨by assumption, by assumption⟩)
      (first
        | (go_at_call 19; ((with_reducible refine C1.out.mono ?_); rintro e w2 ⟨rfl, hd⟩; have y1 := hd.cell HX.out x1; have y2 := hd.cell HX.out x2; have C2 := Lib.hid (rc_add (hd.rc R1.out HRS.out) xa xv); have HD := Lib.hid hd; clear hd))
        | (go_at_call 68; ((with_reducible refine C2.out.mono ?_); rintro e w3 ⟨rfl, hk⟩; have D := sm_done HK.out.drew HD.out hk HRS.out HL.out; have y3 : w3.cell? ⟨w.heap.size, 1, none⟩ = some (.int .u64 xa) := Keeps.cell hk (p := ⟨w.heap.size, 1, none⟩) (by have := HRL.out; simp; omega) y1; have y4 : w3.cell? ⟨w.heap.size, 2, none⟩ = some (.int .u64 xv) := Keeps.cell hk (p := ⟨w.heap.size, 2, none⟩) (by have := HRL.out; simp; omega) y2)))
    all_goals
      go_wp2
      go_ret
      exact ⟨rfl, D⟩
end Go.Proofs.Yteofbgbjibbdaab
