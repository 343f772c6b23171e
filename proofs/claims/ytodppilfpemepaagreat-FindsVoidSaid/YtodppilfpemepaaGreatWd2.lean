/- Worlds: New. -/
import Derived.Test.YtodppilfpemepaaGreatWd
import Derived.Test.YtodppilfpemepaaGreatGWo
import Derived.Test.YtodppilfpemepaaGreatGPl
import Derived.Test.YtodppilfpemepaaGreatGAr
import Derived.Deep.RegionHeld3
namespace Go.Proofs.YtodppilfpemepaaGreat
open Go.RowKit Go.Maps
set_option linter.unusedVariables false

/-- A world whose blocks are none below B. -/
def WdB (w : World) (A : Ad) (V : Wv) (B : Nat) : Prop := ∃ S, Wd w A V S ∧ ∀ k, S k → B ≤ k
theorem new_one (v : Int) (hv : isU v) (g : Nat) (w : World) (c0 : w.cell? ⟨g, 0, none⟩ = some (.int .u64 2)) (c1 : w.cell? ⟨g, 1, none⟩ = some (.int .u64 v)) :
    Calls Tryz.prog 53 #[.slice (some ⟨g, 0, none⟩) 1 1] w fun e w' => e = .returned (.pointer (some ⟨w.heap.size, 0, none⟩)) ∧ ClsPost w.heap.size w w.heap.size (one 2 v) 0 0 0 0 0 w' := by
  have h := new_words [(2, v)] (fun x hx => by simp at hx; subst hx; exact ⟨⟨by simp, by simp⟩, hv⟩) g 0 1 w (by simp) (by simp) (fun i x hx => by
    match i, hx with
    | 0, hx => simp at hx; subst hx; exact ⟨by simpa using c0, by simpa using c1⟩
    | i + 1, hx => simp at hx) (World.block_lt_of_cell? _ _ c0)
  exact h
theorem newN (w : World) : Calls Tryz.prog 56 #[] w fun e w' => e = .returned (.pointer (some ⟨w.heap.size, 0, none⟩)) ∧ ∃ T, w.alloc (.cells #[.slice none 0 0] T) = w' := by
  go_enter Tryz.func56, Tryz.ntmps56
  go_wp2
  go_ret
  exact ⟨rfl, _, rfl⟩
theorem newI (w : World) : Calls Tryz.prog 55 #[] w fun e w' => e = .returned (.pointer (some ⟨w.heap.size, 0, none⟩)) ∧ ∃ T, w.alloc (.cells #[.slice none 0 0, .int .i64 0] T) = w' := by
  go_enter Tryz.func55, Tryz.ntmps55
  go_wp2_with fail
  go_ret
  exact ⟨rfl, _, rfl⟩
def V0 (c : Cfg) : Wv := ⟨c, fun _ => 0, -1, one 2 c.bits, 0, 0, 0, 0, 0, [], []⟩
/-- What New leaves. -/
def NewW (w : World) (c : Cfg) (e : Ending) (w' : World) : Prop := ∃ A, e = .returned (.tuple #[.pointer (some ⟨A.p, 0, none⟩), .int .i64 0]) ∧ WdB w' A (V0 c) w.heap.size ∧ Below w.heap.size w w'
theorem zworld : Tryz.zeroCells76.toList = [.pointer none, .pointer none, .pointer none, .int .i64 0, .int .i64 0, .int .i64 0, .int .i64 0, .int .i64 0] ++ List.replicate 64 (.int .u64 0) ++ [.int .i64 0] := by kernel_rfl
theorem zworld_facts : Tryz.zeroCells76.size = 73 ∧ ∀ i, i < 64 → Tryz.zeroCells76[8 + i]? = some (.int .u64 0) := by
  refine ⟨by rw [← Array.length_toList, zworld]; rfl, fun i hi => ?_⟩
  rw [← Array.getElem?_toList, zworld, List.append_assoc, List.getElem?_append_right (by simp), List.getElem?_append_left (by simp; omega)]
  rw [show [Value.pointer none, .pointer none, .pointer none, .int .i64 0, .int .i64 0, .int .i64 0, .int .i64 0, .int .i64 0].length = 8 from rfl, Nat.add_sub_cancel_left, List.getElem?_replicate, if_pos hi]
theorem box_made (W : World) (T : TypeId) {Z : Array Value} (hs : Z.size = 73) (ht : ∀ i, i < 64 → Z[8 + i]? = some (.int .u64 0)) (pc pi pn : Nat) (c : Cfg) {n : Nat} (hn : n = W.heap.size) :
    IsBox (W.alloc (.cells (((((((((Z.setIfInBounds 0 (.pointer (some ⟨pc, 0, none⟩))).setIfInBounds 1 (.pointer (some ⟨pi, 0, none⟩))).setIfInBounds 2 (.pointer (some ⟨pn, 0, none⟩))).setIfInBounds 3 (.int .i64 c.bits)).setIfInBounds 4 (.int .i64 c.budget)).setIfInBounds 5 (.int .i64 c.tries)).setIfInBounds 6 (.int .i64 c.quantum)).setIfInBounds 7 (.int .i64 c.way)).setIfInBounds 72 (.int .i64 (-1))) T)) ⟨n, pc, pi, pn⟩ c (fun _ => 0) (-1) := by
  subst hn
  refine ⟨?_, ?_, ?_, ?_, ?_, ?_, ?_, ?_, fun i hi => ?_, ?_, fun j hj => by simp⟩
  · simp [hs]
  · simp [hs]
  · simp [hs]
  · simp [hs]
  · simp [hs]
  · simp [hs]
  · simp [hs]
  · simp [hs]
  · have h0 := ht i hi
    simp only [World.cell?_alloc_new]
    rw [Array.getElem?_setIfInBounds_ne (by omega), Array.getElem?_setIfInBounds_ne (by omega), Array.getElem?_setIfInBounds_ne (by omega), Array.getElem?_setIfInBounds_ne (by omega), Array.getElem?_setIfInBounds_ne (by omega), Array.getElem?_setIfInBounds_ne (by omega), Array.getElem?_setIfInBounds_ne (by omega), Array.getElem?_setIfInBounds_ne (by omega), Array.getElem?_setIfInBounds_ne (by omega)]
    exact h0
  · simp [hs]
set_option maxHeartbeats 1000000 in
set_option maxRecDepth 100000 in
theorem newW_no (b u t q y : Int) (w : World) (hm : mayc b u t q y = false) : Calls Tryz.prog 21 #[.agg #[.int .i64 b, .int .i64 u, .int .i64 t, .int .i64 q, .int .i64 y]] w fun e w' => e = .returned (.tuple #[.pointer none, .int .i64 1]) ∧ Below w.heap.size w w' := by
  have CM := fun W => wmay b u t q y W
  rw [hm] at CM
  have C := Lib.hid CM
  clear CM hm
  go_enter Tryz.func21, Tryz.ntmps21
  go_wp2_with fail
  refine (C.out _).mono ?_
  rintro e w1 ⟨rfl, K1⟩
  have hb := ((Below.refl _ _).alloc (Nat.le_refl _) _).trans (K1.mono (by simp))
  clear K1
  go_wp2_with fail
  go_ret2
  exact ⟨rfl, hb⟩
set_option maxHeartbeats 1000000 in
set_option maxRecDepth 100000 in
theorem newW (b u t q y : Int) (w : World) (hm : mayc b u t q y = true) : Calls Tryz.prog 21 #[.agg #[.int .i64 b, .int .i64 u, .int .i64 t, .int .i64 q, .int .i64 y]] w (NewW w ⟨b, u, t, q, y⟩) := by
  have CM := fun W => wmay b u t q y W
  rw [hm] at CM
  have C := Lib.hid CM
  have hb1 : 1 ≤ b ∧ b ≤ 12 := by
    have := of_decide_eq_true (show decide _ = true from hm)
    omega
  have hw : wordf b 0 = b := by unfold wordf; omega
  have hU : isU b := ⟨by omega, by omega⟩
  have CW := fun W => wordw8 b 0 W
  rw [hw] at CW
  have HU := Lib.hid hU
  have HCW := Lib.hid CW
  clear CM hm CW hw hU
  go_enter Tryz.func21, Tryz.ntmps21
  go_wp2_with fail
  obtain ⟨Q, hQ⟩ : ∃ Q, Q = w.heap.size := ⟨_, rfl⟩
  have HQ := Lib.hid hQ
  rw [← hQ]
  refine (C.out _).mono ?_
  rintro e w1 ⟨rfl, K1⟩
  have d0 := (K1.cell (p := ⟨Q, 0, none⟩) (by simp [hQ])).trans (show _ = some (.int .i64 b) by simp [hQ])
  have d1 := (K1.cell (p := ⟨Q, 1, none⟩) (by simp [hQ])).trans (show _ = some (.int .i64 u) by simp [hQ])
  have d2 := (K1.cell (p := ⟨Q, 2, none⟩) (by simp [hQ])).trans (show _ = some (.int .i64 t) by simp [hQ])
  have d3 := (K1.cell (p := ⟨Q, 3, none⟩) (by simp [hQ])).trans (show _ = some (.int .i64 q) by simp [hQ])
  have d4 := (K1.cell (p := ⟨Q, 4, none⟩) (by simp [hQ])).trans (show _ = some (.int .i64 y) by simp [hQ])
  have hb := ((Below.refl _ _).alloc (Nat.le_refl _) _).trans (K1.mono (by simp))
  have sQ : Q < w1.heap.size := by have := K1.size; simp at this; omega
  have HB := Lib.hid hb
  clear K1 hb hQ
  go_wp2_with fail
  go_region_held3 (fun w' => w'.cell? ⟨Q, 0, none⟩ = some (.int .i64 b) ∧ w'.cell? ⟨Q, 1, none⟩ = some (.int .i64 u) ∧ w'.cell? ⟨Q, 2, none⟩ = some (.int .i64 t) ∧ w'.cell? ⟨Q, 3, none⟩ = some (.int .i64 q) ∧ w'.cell? ⟨Q, 4, none⟩ = some (.int .i64 y))
    (first | exact ⟨by assumption, by assumption, by assumption, by assumption, by assumption⟩ | exact ⟨(World.cell?_alloc_lt _ _ ⟨Q, 0, none⟩ (by first | assumption | (show Q < _; simp; omega))).trans (by assumption), (World.cell?_alloc_lt _ _ ⟨Q, 1, none⟩ (by first | assumption | (show Q < _; simp; omega))).trans (by assumption), (World.cell?_alloc_lt _ _ ⟨Q, 2, none⟩ (by first | assumption | (show Q < _; simp; omega))).trans (by assumption), (World.cell?_alloc_lt _ _ ⟨Q, 3, none⟩ (by first | assumption | (show Q < _; simp; omega))).trans (by assumption), (World.cell?_alloc_lt _ _ ⟨Q, 4, none⟩ (by first | assumption | (show Q < _; simp; omega))).trans (by assumption)⟩)
    (first
      | (go_at_call 54; ((with_reducible refine (HCW.out _).mono ?_); rintro e w2 ⟨rfl, rfl⟩))
      | (go_at_call 53; refine (new_one b HU.out _ _ (by simp) (by simp)).mono ?_; rintro e w3 ⟨rfl, K3, C3⟩; have hb3 := ((Below.refl w1.heap.size w1).drew.alloc (by simp) (.cells #[.int .u64 2, .int .u64 b] 134)).trans (K3.mono (by simp)); have sQ3 : Q < w3.heap.size := (by have := hb3.size; omega); replace d0 := (hb3.cell (p := ⟨Q, 0, none⟩) sQ).trans d0; replace d1 := (hb3.cell (p := ⟨Q, 1, none⟩) sQ).trans d1; replace d2 := (hb3.cell (p := ⟨Q, 2, none⟩) sQ).trans d2; replace d3 := (hb3.cell (p := ⟨Q, 3, none⟩) sQ).trans d3; replace d4 := (hb3.cell (p := ⟨Q, 4, none⟩) sQ).trans d4; have HB3 := Lib.hid hb3; have HC3 := Lib.hid C3; clear K3 C3 hb3)
      | (go_at_call 55; refine (newI _).mono ?_; rintro e w4 ⟨rfl, T4, rfl⟩; replace d0 := (World.cell?_alloc_lt w3 (.cells #[.slice none 0 0, .int .i64 0] T4) ⟨Q, 0, none⟩ sQ3).trans d0; replace d1 := (World.cell?_alloc_lt w3 (.cells #[.slice none 0 0, .int .i64 0] T4) ⟨Q, 1, none⟩ sQ3).trans d1; replace d2 := (World.cell?_alloc_lt w3 (.cells #[.slice none 0 0, .int .i64 0] T4) ⟨Q, 2, none⟩ sQ3).trans d2; replace d3 := (World.cell?_alloc_lt w3 (.cells #[.slice none 0 0, .int .i64 0] T4) ⟨Q, 3, none⟩ sQ3).trans d3; replace d4 := (World.cell?_alloc_lt w3 (.cells #[.slice none 0 0, .int .i64 0] T4) ⟨Q, 4, none⟩ sQ3).trans d4; have sQ4 : Q < (w3.alloc (.cells #[.slice none 0 0, .int .i64 0] T4)).heap.size := (by simp; omega))
      | (go_at_call 56; refine (newN _).mono ?_; rintro e w5 ⟨rfl, T5, rfl⟩; replace d0 := (World.cell?_alloc_lt (w3.alloc (.cells #[.slice none 0 0, .int .i64 0] T4)) (.cells #[.slice none 0 0] T5) ⟨Q, 0, none⟩ sQ4).trans d0; replace d1 := (World.cell?_alloc_lt (w3.alloc (.cells #[.slice none 0 0, .int .i64 0] T4)) (.cells #[.slice none 0 0] T5) ⟨Q, 1, none⟩ sQ4).trans d1; replace d2 := (World.cell?_alloc_lt (w3.alloc (.cells #[.slice none 0 0, .int .i64 0] T4)) (.cells #[.slice none 0 0] T5) ⟨Q, 2, none⟩ sQ4).trans d2; replace d3 := (World.cell?_alloc_lt (w3.alloc (.cells #[.slice none 0 0, .int .i64 0] T4)) (.cells #[.slice none 0 0] T5) ⟨Q, 3, none⟩ sQ4).trans d3; replace d4 := (World.cell?_alloc_lt (w3.alloc (.cells #[.slice none 0 0, .int .i64 0] T4)) (.cells #[.slice none 0 0] T5) ⟨Q, 4, none⟩ sQ4).trans d4; have sQ5 : Q < ((w3.alloc (.cells #[.slice none 0 0, .int .i64 0] T4)).alloc (.cells #[.slice none 0 0] T5)).heap.size := (by simp; omega)))
  clear d0 d1 d2 d3 d4
  go_wp2_with fail
  go_ret2
  obtain ⟨z1, z2⟩ := zworld_facts
  generalize Tryz.zeroCells76 = Z at *
  obtain ⟨n, SC, hc, hS, hn⟩ := HC3.out
  rw [show (w1.alloc (Obj.cells #[Value.int IntKind.u64 2, Value.int IntKind.u64 b] 134)).drew.heap.size = w1.heap.size + 1 by simp] at hc hS
  have s3 := HB3.out.size
  have sb := HB.out.size
  refine ⟨⟨w3.heap.size + 1 + 1, w1.heap.size + 1, w3.heap.size, w3.heap.size + 1⟩, rfl, ?_, ?_⟩
  · have k1 : ∀ T U, Below w3.heap.size w3 (((w3.alloc (.cells #[.slice none 0 0, .int .i64 0] T4)).alloc (.cells #[.slice none 0 0] T5)).alloc (.cells U T)) := fun T U => (((Below.refl _ _).alloc (Nat.le_refl _) _).alloc (by simp) _).alloc (by simp; omega) _
    have i1 := ars_made w3 T4
    have n1 := nts_made (w3.alloc (.cells #[.slice none 0 0, .int .i64 0] T4)) T5
    rw [show (w3.alloc (Obj.cells #[Value.slice none 0 0, Value.int IntKind.i64 0] T4)).heap.size = w3.heap.size + 1 by simp] at n1
    refine ⟨fun k => SC k ∨ k = w3.heap.size ∨ k = w3.heap.size + 1 ∨ k = w3.heap.size + 1 + 1, ⟨n, SC, (fun k => k = w3.heap.size), (fun k => k = w3.heap.size + 1), ?_⟩, fun k s => ?_⟩
    · refine ⟨box_made _ _ z1 z2 _ _ _ ⟨b, u, t, q, y⟩ (by simp), IsCells.keep hc (Keeps.of_new (S := fun _ => False) (k1 _ _)) (fun _ _ s => s), i1.new ((((Below.refl _ _).alloc (by simp) _).alloc (by simp) _)), n1.new ((Below.refl _ _).alloc (by simp) _), by simp [V0], by simp [V0]; omega, .inr (.inr (.inr rfl)), fun k s => ⟨.inl s, ?_, ?_, ?_⟩, fun k s => ⟨.inr (.inl s), ?_, ?_⟩, fun k s => ⟨.inr (.inr (.inl s)), ?_⟩, fun k s => ?_⟩
      · have := (hS k s).2; show k ≠ w3.heap.size + 1 + 1; omega
      · have := (hS k s).2; show ¬ k = w3.heap.size; omega
      · have := (hS k s).2; show ¬ k = w3.heap.size + 1; omega
      · have s' : k = w3.heap.size := s; show k ≠ w3.heap.size + 1 + 1; omega
      · have s' : k = w3.heap.size := s; show ¬ k = w3.heap.size + 1; omega
      · have s' : k = w3.heap.size + 1 := s; show k ≠ w3.heap.size + 1 + 1; omega
      · have := hS k
        simp
        rcases s with s | s | s | s
        · have := (hS k s).2; omega
        · omega
        · omega
        · omega
    · rcases s with s | s | s | s
      · have := (hS k s).1; omega
      · omega
      · omega
      · omega
  · exact (((HB.out.trans (HB3.out.mono sb)).alloc (by omega) _).alloc (by simp; omega) _).alloc (by simp; omega) _
end Go.Proofs.YtodppilfpemepaaGreat
