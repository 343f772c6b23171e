/- The law NotesNames. -/
import Derived.Test.YteofbgbjibbdaacNlG
import Derived.Test.YteofbgbjibbdaacNrB
import Derived.Test.YteofbgbjibbdaacNlV
import Derived.Deep.RegionHeld3
import Derived.Test.YteofbgbjibbdaacOpen
namespace Go.Proofs.Yteofbgbjibbdaac
open Go.RowKit
set_option linter.unusedVariables false

theorem name_both (k : Int) (k0 : 0 ≤ k) (k1 : k ≤ 255) : ∃ s, (∀ w, Calls Try.prog 67 #[.int .u8 k] w fun e w' => e = .returned (.string s) ∧ Below w.heap.size w w') ∧ (∀ w, Calls Try.prog 68 #[.int .i64 k] w fun e w' => e = .returned (.string s) ∧ w = w') := by
  by_cases h9 : 9 < k
  · exact ⟨_, fun w => namew_out k w h9, fun w => rname_else w k (.inr h9)⟩
  have hc : k = 0 ∨ k = 1 ∨ k = 2 ∨ k = 3 ∨ k = 4 ∨ k = 5 ∨ k = 6 ∨ k = 7 ∨ k = 8 ∨ k = 9 := by omega
  rcases hc with rfl | rfl | rfl | rfl | rfl | rfl | rfl | rfl | rfl | rfl
  · exact ⟨_, namew_0, fun w => rname_else w 0 (.inl (by omega))⟩
  · exact ⟨_, namew_1, rname_1⟩
  · exact ⟨_, namew_2, rname_2⟩
  · exact ⟨_, namew_3, rname_3⟩
  · exact ⟨_, namew_4, rname_4⟩
  · exact ⟨_, namew_5, rname_5⟩
  · exact ⟨_, namew_6, rname_6⟩
  · exact ⟨_, namew_7, rname_7⟩
  · exact ⟨_, namew_8, rname_8⟩
  · exact ⟨_, namew_9, rname_9⟩
set_option maxHeartbeats 8000000 in
set_option maxRecDepth 100000 in
theorem walk_NotesNames (a0 : Int) (a1_0 : Int) (a1_1 : Int) (a1_2 : Int) (a1_3 : Int) (a1_4 : Int) (a1_5 : Int) (a1_6 : Int) (a1_7 : Int) (a2 : Int) (w : World) (w0 : (Lit.int .u8 a0).wf = true) (w1_0 : (Lit.int .i64 a1_0).wf = true) (w1_1 : (Lit.int .i64 a1_1).wf = true) (w1_2 : (Lit.int .u8 a1_2).wf = true) (w1_3 : (Lit.int .i64 a1_3).wf = true) (w1_4 : (Lit.int .i64 a1_4).wf = true) (w1_5 : (Lit.int .i64 a1_5).wf = true) (w1_6 : (Lit.int .i64 a1_6).wf = true) (w1_7 : (Lit.int .i64 a1_7).wf = true) (w2 : (Lit.int .i64 a2).wf = true) :
    Calls Try.prog 13 #[.int .u8 a0, .agg #[.int .i64 a1_0, .int .i64 a1_1, .int .u8 a1_2, .int .i64 a1_3, .int .i64 a1_4, .int .i64 a1_5, .int .i64 a1_6, .int .i64 a1_7], .int .i64 a2] w fun e w' => e = .returned (.bool true) ∧ Below w.heap.size w w' := by
  obtain ⟨l0, u0⟩ := bounds_u8 w0
  obtain ⟨lk, uk⟩ := bounds_u8 w1_2
  obtain ⟨sn, hn1, hn2⟩ := name_both a0 l0 u0
  have HN1 := Lib.hid hn1
  have HN2 := Lib.hid hn2
  obtain ⟨W, hW⟩ : ∃ W, W = w.alloc (.cells #[.int .i64 a1_0, .int .i64 a1_1, .int .u8 a1_2, .int .i64 a1_3, .int .i64 a1_4, .int .i64 a1_5, .int .i64 a1_6, .int .i64 a1_7] 80) := ⟨_, rfl⟩
  have hWs : W.heap.size = w.heap.size + 1 := by rw [hW]; simp
  have hB0 : Below w.heap.size w W := by rw [hW]; exact (Below.refl _ _).alloc (Nat.le_refl _) _
  have hN : w.heap.size + 1 ≤ W.heap.size := by omega
  have hB : Below (w.heap.size + 1) W W := Below.refl _ _
  have lt : w.heap.size < w.heap.size + 1 := by omega
  have c0 : W.cell? ⟨w.heap.size, 0, none⟩ = some (.int .i64 a1_0) := by rw [hW]; simp
  have c1 : W.cell? ⟨w.heap.size, 1, none⟩ = some (.int .i64 a1_1) := by rw [hW]; simp
  have c2 : W.cell? ⟨w.heap.size, 2, none⟩ = some (.int .u8 a1_2) := by rw [hW]; simp
  have c3 : W.cell? ⟨w.heap.size, 3, none⟩ = some (.int .i64 a1_3) := by rw [hW]; simp
  have c4 : W.cell? ⟨w.heap.size, 4, none⟩ = some (.int .i64 a1_4) := by rw [hW]; simp
  have c5 : W.cell? ⟨w.heap.size, 5, none⟩ = some (.int .i64 a1_5) := by rw [hW]; simp
  have c6 : W.cell? ⟨w.heap.size, 6, none⟩ = some (.int .i64 a1_6) := by rw [hW]; simp
  have c7 : W.cell? ⟨w.heap.size, 7, none⟩ = some (.int .i64 a1_7) := by rw [hW]; simp
  clear w0 w1_0 w1_1 w1_2 w1_3 w1_4 w1_5 w1_6 w1_7 w2 hn1 hn2
  go_enter Try.func13, Try.ntmps13
  go_wp2_with fail
  rw [← hW]
  refine (none_dropped _ _).mono ?_
  rintro e w1 ⟨rfl, hk⟩
  have hB1 : Below (w.heap.size + 1) W w1 := hk.mono hN
  clear hk
  go_wp2_with fail
  refine (HN1.out _).mono ?_
  rintro e w2 ⟨rfl, hk⟩
  have hB2 := box_then hB1 hN hk
  clear hk
  have e0 := box_cell hB2 lt c0
  have e1 := box_cell hB2 lt c1
  have e2 := box_cell hB2 lt c2
  have e3 := box_cell hB2 lt c3
  have e4 := box_cell hB2 lt c4
  have e5 := box_cell hB2 lt c5
  have e6 := box_cell hB2 lt c6
  have e7 := box_cell hB2 lt c7
  go_wp2_with (first
    | (go_at_call 68; refine (HN2.out _).mono ?_; rintro e w' ⟨rfl, rfl⟩))
  refine (none_add _ _ _ _ _ _ _ _ _).mono ?_
  rintro e w3 ⟨rfl, hk⟩
  have hB3 := box_then hB2 hN hk
  clear hk e0 e1 e2 e3 e4 e5 e6 e7
  have e0 := box_cell hB3 lt c0
  have e1 := box_cell hB3 lt c1
  have e2 := box_cell hB3 lt c2
  have e3 := box_cell hB3 lt c3
  have e4 := box_cell hB3 lt c4
  have e5 := box_cell hB3 lt c5
  have e6 := box_cell hB3 lt c6
  have e7 := box_cell hB3 lt c7
  go_wp2_with (first
    | (go_at_call 57; refine (none_count _).mono ?_; rintro e w' ⟨rfl, rfl⟩)
    | (go_at_call 60; refine (none_all _).mono ?_; rintro e w' ⟨rfl, rfl⟩)
    | (go_at_call 58; refine (none_since _ _).mono ?_; rintro e w' ⟨rfl, rfl⟩))
  refine (none_of _ _).mono ?_
  rintro e w4 ⟨rfl, hk⟩
  have hB4 := box_then hB3 hN hk
  clear hk e0 e1 e2 e3 e4 e5 e6 e7
  have e0 := box_cell hB4 lt c0
  have e1 := box_cell hB4 lt c1
  have e2 := box_cell hB4 lt c2
  have e3 := box_cell hB4 lt c3
  have e4 := box_cell hB4 lt c4
  have e5 := box_cell hB4 lt c5
  have e6 := box_cell hB4 lt c6
  have e7 := box_cell hB4 lt c7
  have hs4 := hB4.size
  clear hB hB1 hB2 hB3 c0 c1 c2 c3 c4 c5 c6 c7 HN1 HN2
  go_wp2_with fail
  obtain ⟨V, hV⟩ : ∃ V, V = w4.heap.size := ⟨_, rfl⟩
  have ltV : w.heap.size < V := by omega
  generalize hX : World.alloc _ _ = X
  have hbX : Below w4.heap.size w4 X := by rw [← hX]; exact ((Below.refl _ _).alloc (Nat.le_refl _) _).alloc (by simp) _
  have sX : X.heap.size = V + 2 := by rw [← hX, hV]; simp
  have nv : Nil1 X V := by rw [← hX, hV]; exact ⟨by simp, by simp⟩
  have nr : Nil1 X (V + 1) := by rw [← hX, hV]; exact ⟨by simp, by simp⟩
  have hBX : Below (w.heap.size + 1) W X := box_then hB4 hN hbX
  replace e0 : X.drew.cell? ⟨w.heap.size, 0, none⟩ = some (.int .i64 a1_0) := (hbX.cell (p := ⟨w.heap.size, 0, none⟩) (by show w.heap.size < _; omega)).trans e0
  replace e1 : X.drew.cell? ⟨w.heap.size, 1, none⟩ = some (.int .i64 a1_1) := (hbX.cell (p := ⟨w.heap.size, 1, none⟩) (by show w.heap.size < _; omega)).trans e1
  replace e2 : X.drew.cell? ⟨w.heap.size, 2, none⟩ = some (.int .u8 a1_2) := (hbX.cell (p := ⟨w.heap.size, 2, none⟩) (by show w.heap.size < _; omega)).trans e2
  replace e3 : X.drew.cell? ⟨w.heap.size, 3, none⟩ = some (.int .i64 a1_3) := (hbX.cell (p := ⟨w.heap.size, 3, none⟩) (by show w.heap.size < _; omega)).trans e3
  replace e4 : X.drew.cell? ⟨w.heap.size, 4, none⟩ = some (.int .i64 a1_4) := (hbX.cell (p := ⟨w.heap.size, 4, none⟩) (by show w.heap.size < _; omega)).trans e4
  replace e5 : X.drew.cell? ⟨w.heap.size, 5, none⟩ = some (.int .i64 a1_5) := (hbX.cell (p := ⟨w.heap.size, 5, none⟩) (by show w.heap.size < _; omega)).trans e5
  replace e6 : X.drew.cell? ⟨w.heap.size, 6, none⟩ = some (.int .i64 a1_6) := (hbX.cell (p := ⟨w.heap.size, 6, none⟩) (by show w.heap.size < _; omega)).trans e6
  replace e7 : X.drew.cell? ⟨w.heap.size, 7, none⟩ = some (.int .i64 a1_7) := (hbX.cell (p := ⟨w.heap.size, 7, none⟩) (by show w.heap.size < _; omega)).trans e7
  replace nv : Nil1 X.drew V := nv
  replace nr : Nil1 X.drew (V + 1) := nr
  have sX' : X.drew.heap.size = V + 2 := sX
  have C1 := Lib.hid (count_nil1 nv)
  have C2 := Lib.hid (all_nil nv)
  have NV := Lib.hid nv
  have NR := Lib.hid nr
  have HBX := Lib.hid hBX
  have HB0 := Lib.hid hB0
  have HSX := Lib.hid sX'
  rw [← hV]
  clear hX hbX sX nv nr hBX hB0 hB4 hs4 sX' hV hW hWs
  by_cases hkk : iskf a1_2 = true
  · have hk19 : 1 ≤ a1_2 ∧ a1_2 ≤ 9 := by simpa [iskf] using hkk
    go_region_held3 (fun w' => w'.cell? ⟨w.heap.size, 0, none⟩ = some (.int .i64 a1_0) ∧ w'.cell? ⟨w.heap.size, 1, none⟩ = some (.int .i64 a1_1) ∧ w'.cell? ⟨w.heap.size, 2, none⟩ = some (.int .u8 a1_2) ∧ w'.cell? ⟨w.heap.size, 3, none⟩ = some (.int .i64 a1_3) ∧ w'.cell? ⟨w.heap.size, 4, none⟩ = some (.int .i64 a1_4) ∧ w'.cell? ⟨w.heap.size, 5, none⟩ = some (.int .i64 a1_5) ∧ w'.cell? ⟨w.heap.size, 6, none⟩ = some (.int .i64 a1_6) ∧ w'.cell? ⟨w.heap.size, 7, none⟩ = some (.int .i64 a1_7))
      (first
      | exact ⟨by assumption, by assumption, by assumption, by assumption, by assumption, by assumption, by assumption, by assumption⟩
      | exact ⟨by assumption, by assumption, by assumption, by assumption, by assumption, by assumption, by assumption, by assumption, by assumption⟩)
      (first
        | (go_at_call 57; ((with_reducible refine C1.out.mono ?_); rintro e w' ⟨rfl, rfl⟩))
        | (go_at_call 60; ((with_reducible refine C2.out.mono ?_); rintro e w5 ⟨la, lc, rfl, hk⟩; have z5 := hk.size; have K := Keeps.of_new (S := fun _ => False) hk; have hn : ¬ False := id; replace e0 := K.cell (p := ⟨w.heap.size, 0, none⟩) hn e0; replace e1 := K.cell (p := ⟨w.heap.size, 1, none⟩) hn e1; replace e2 := K.cell (p := ⟨w.heap.size, 2, none⟩) hn e2; replace e3 := K.cell (p := ⟨w.heap.size, 3, none⟩) hn e3; replace e4 := K.cell (p := ⟨w.heap.size, 4, none⟩) hn e4; replace e5 := K.cell (p := ⟨w.heap.size, 5, none⟩) hn e5; replace e6 := K.cell (p := ⟨w.heap.size, 6, none⟩) hn e6; replace e7 := K.cell (p := ⟨w.heap.size, 7, none⟩) hn e7; clear hn; have N5 := Lib.hid (NV.out.keep K id); have R5 := Lib.hid (NR.out.keep K id); have K5 := Lib.hid hk; have C3 := Lib.hid (addl_firstK a1_0 a1_1 a1_2 a1_3 a1_4 a1_5 a1_6 a1_7 w5 V N5.out.1 N5.out.2 hkk); clear K hk C2))
        | (go_at_call 54; ((with_reducible refine C3.out.mono ?_); rintro e w6 ⟨rfl, ho, hk⟩; have z6 := hk.size; have K := hk; have hn : ¬ (w.heap.size = V) := (by omega); replace e0 := K.cell (p := ⟨w.heap.size, 0, none⟩) hn e0; replace e1 := K.cell (p := ⟨w.heap.size, 1, none⟩) hn e1; replace e2 := K.cell (p := ⟨w.heap.size, 2, none⟩) hn e2; replace e3 := K.cell (p := ⟨w.heap.size, 3, none⟩) hn e3; replace e4 := K.cell (p := ⟨w.heap.size, 4, none⟩) hn e4; replace e5 := K.cell (p := ⟨w.heap.size, 5, none⟩) hn e5; replace e6 := K.cell (p := ⟨w.heap.size, 6, none⟩) hn e6; replace e7 := K.cell (p := ⟨w.heap.size, 7, none⟩) hn e7; clear hn; have O6 := Lib.hid ho; have R6 := Lib.hid (R5.out.keep K (by simp)); have K6 := Lib.hid hk; clear K hk ho C3))
        | (go_at_call 56; refine (otherw _ _ _ _ _ _ _ _ _ lk uk).mono ?_; rintro e w7 ⟨rfl, hk⟩; have z7 := hk.size; have K := Keeps.of_new (S := fun _ => False) hk; have hn : ¬ False := id; replace e0 := K.cell (p := ⟨w.heap.size, 0, none⟩) hn e0; replace e1 := K.cell (p := ⟨w.heap.size, 1, none⟩) hn e1; replace e2 := K.cell (p := ⟨w.heap.size, 2, none⟩) hn e2; replace e3 := K.cell (p := ⟨w.heap.size, 3, none⟩) hn e3; replace e4 := K.cell (p := ⟨w.heap.size, 4, none⟩) hn e4; replace e5 := K.cell (p := ⟨w.heap.size, 5, none⟩) hn e5; replace e6 := K.cell (p := ⟨w.heap.size, 6, none⟩) hn e6; replace e7 := K.cell (p := ⟨w.heap.size, 7, none⟩) hn e7; clear hn; have O7 := Lib.hid (O6.out.keep K id (fun _ _ _ => id)); have R7 := Lib.hid (R6.out.keep K id); have K7 := Lib.hid hk; have C4 := Lib.hid (radd_firstK a1_0 a1_1 a1_2 a1_3 a1_4 a1_5 a1_6 a1_7 w7 (V + 1) R7.out.1 R7.out.2 hk19.1 hk19.2); clear K hk)
        | (go_at_call 55; ((with_reducible refine C4.out.mono ?_); rintro e w8 ⟨rfl, ho, hk⟩; have z8 := hk.size; have K := hk; have hn : ¬ (w.heap.size = V + 1) := (by omega); replace e0 := K.cell (p := ⟨w.heap.size, 0, none⟩) hn e0; replace e1 := K.cell (p := ⟨w.heap.size, 1, none⟩) hn e1; replace e2 := K.cell (p := ⟨w.heap.size, 2, none⟩) hn e2; replace e3 := K.cell (p := ⟨w.heap.size, 3, none⟩) hn e3; replace e4 := K.cell (p := ⟨w.heap.size, 4, none⟩) hn e4; replace e5 := K.cell (p := ⟨w.heap.size, 5, none⟩) hn e5; replace e6 := K.cell (p := ⟨w.heap.size, 6, none⟩) hn e6; replace e7 := K.cell (p := ⟨w.heap.size, 7, none⟩) hn e7; clear hn; have O8 := Lib.hid (O7.out.keep K (by simp) (fun k h1 _ => by have := HSX.out; omega)); obtain ⟨gb, cb, q0, q1, q2, q3, q4⟩ := ho.at_; have Q4 := Lib.hid q4; have K8 := Lib.hid hk; have C5 := Lib.hid (all_one (O8.out.isNl (by have := HSX.out; omega))); clear K hk ho C4 q4; have hA : Shut (∀ (a : Act) (w' : World), _ → (_ → wpAnyH _ _ _ _ _ _ _ a w') → _) := (by assumption); have eqn := shut_eq hA (fun w' => w'.cell? ⟨w.heap.size, 0, none⟩ = some (.int .i64 a1_0) ∧ w'.cell? ⟨w.heap.size, 1, none⟩ = some (.int .i64 a1_1) ∧ w'.cell? ⟨w.heap.size, 2, none⟩ = some (.int .u8 a1_2) ∧ w'.cell? ⟨w.heap.size, 3, none⟩ = some (.int .i64 a1_3) ∧ w'.cell? ⟨w.heap.size, 4, none⟩ = some (.int .i64 a1_4) ∧ w'.cell? ⟨w.heap.size, 5, none⟩ = some (.int .i64 a1_5) ∧ w'.cell? ⟨w.heap.size, 6, none⟩ = some (.int .i64 a1_6) ∧ w'.cell? ⟨w.heap.size, 7, none⟩ = some (.int .i64 a1_7) ∧ w'.cell? ⟨V + 1, 0, none⟩ = some (.slice (some ⟨gb, 0, none⟩) 1 cb)) (fun w' h => ⟨h.1, h.2.1, h.2.2.1, h.2.2.2.1, h.2.2.2.2.1, h.2.2.2.2.2.1, h.2.2.2.2.2.2.1, h.2.2.2.2.2.2.2.1⟩); clear hA; simp only [eqn] at *; clear eqn))
        | (go_at_call 60; ((with_reducible refine C5.out.mono ?_); rintro e w9 ⟨ga, ca, rfl, ⟨g1, g2, g3, g4, g5⟩, hk⟩; have z9 := hk.size; have K := Keeps.of_new (S := fun _ => False) hk; have hn : ¬ False := id; replace e0 := K.cell (p := ⟨w.heap.size, 0, none⟩) hn e0; replace e1 := K.cell (p := ⟨w.heap.size, 1, none⟩) hn e1; replace e2 := K.cell (p := ⟨w.heap.size, 2, none⟩) hn e2; replace e3 := K.cell (p := ⟨w.heap.size, 3, none⟩) hn e3; replace e4 := K.cell (p := ⟨w.heap.size, 4, none⟩) hn e4; replace e5 := K.cell (p := ⟨w.heap.size, 5, none⟩) hn e5; replace e6 := K.cell (p := ⟨w.heap.size, 6, none⟩) hn e6; replace e7 := K.cell (p := ⟨w.heap.size, 7, none⟩) hn e7; clear hn; replace q0 := K.cell (p := ⟨V + 1, 0, none⟩) id q0; have K9 := Lib.hid hk; have C6 := Lib.hid (same_cells lk uk g2 (show gb < w9.heap.size by omega) g3 q2 g4 q3 g5 (fun j u h => K.cell (p := ⟨gb, j, none⟩) id (Q4.out j u h))); clear K hk C5 g1 g2 g3 g4 g5))
        | (go_at_call 61; ((with_reducible refine C6.out.mono ?_); rintro e w10 ⟨rfl, hk⟩; have z10 := hk.size; have K := Keeps.of_new (S := fun _ => False) hk; have hn : ¬ False := id; replace e0 := K.cell (p := ⟨w.heap.size, 0, none⟩) hn e0; replace e1 := K.cell (p := ⟨w.heap.size, 1, none⟩) hn e1; replace e2 := K.cell (p := ⟨w.heap.size, 2, none⟩) hn e2; replace e3 := K.cell (p := ⟨w.heap.size, 3, none⟩) hn e3; replace e4 := K.cell (p := ⟨w.heap.size, 4, none⟩) hn e4; replace e5 := K.cell (p := ⟨w.heap.size, 5, none⟩) hn e5; replace e6 := K.cell (p := ⟨w.heap.size, 6, none⟩) hn e6; replace e7 := K.cell (p := ⟨w.heap.size, 7, none⟩) hn e7; clear hn; replace q0 := K.cell (p := ⟨V + 1, 0, none⟩) id q0; have K10 := Lib.hid hk; clear K hk C6))
        | (go_at_call 52; refine (lives09 _).mono ?_; rintro e w11 ⟨rfl, hk⟩; have K := Keeps.of_new (S := fun _ => False) hk; have hn : ¬ False := id; replace e0 := K.cell (p := ⟨w.heap.size, 0, none⟩) hn e0; replace e1 := K.cell (p := ⟨w.heap.size, 1, none⟩) hn e1; replace e2 := K.cell (p := ⟨w.heap.size, 2, none⟩) hn e2; replace e3 := K.cell (p := ⟨w.heap.size, 3, none⟩) hn e3; replace e4 := K.cell (p := ⟨w.heap.size, 4, none⟩) hn e4; replace e5 := K.cell (p := ⟨w.heap.size, 5, none⟩) hn e5; replace e6 := K.cell (p := ⟨w.heap.size, 6, none⟩) hn e6; replace e7 := K.cell (p := ⟨w.heap.size, 7, none⟩) hn e7; clear hn; replace q0 := K.cell (p := ⟨V + 1, 0, none⟩) id q0; have K11 := Lib.hid hk; clear K hk))
    have hb := (HB0.out.trans (HBX.out.mono (by omega))).drew
    replace hb := below_then hb K5.out
    replace hb := hb.trans (K6.out.to_below (fun k _ e => by have e' : k = V := e; omega) (by have := HSX.out; omega))
    replace hb := below_then hb K7.out
    replace hb := hb.trans (K8.out.to_below (fun k _ e => by have e' : k = V + 1 := e; omega) (by have := HSX.out; omega))
    replace hb := below_then (below_then (below_then hb K9.out) K10.out) K11.out
    clear e0 e1 e2 e3 e4 e5 e6 e7
    go_wp2_with fail
    go_ret
    exact ⟨rfl, hb⟩
  · have hkf : iskf a1_2 = false := by simpa using hkk
    have hk19 : a1_2 < 1 ∨ 9 < a1_2 := by simp [iskf] at hkf; omega
    have q0 := NR.out.1
    go_region_held3 (fun w' => w'.cell? ⟨w.heap.size, 0, none⟩ = some (.int .i64 a1_0) ∧ w'.cell? ⟨w.heap.size, 1, none⟩ = some (.int .i64 a1_1) ∧ w'.cell? ⟨w.heap.size, 2, none⟩ = some (.int .u8 a1_2) ∧ w'.cell? ⟨w.heap.size, 3, none⟩ = some (.int .i64 a1_3) ∧ w'.cell? ⟨w.heap.size, 4, none⟩ = some (.int .i64 a1_4) ∧ w'.cell? ⟨w.heap.size, 5, none⟩ = some (.int .i64 a1_5) ∧ w'.cell? ⟨w.heap.size, 6, none⟩ = some (.int .i64 a1_6) ∧ w'.cell? ⟨w.heap.size, 7, none⟩ = some (.int .i64 a1_7) ∧ w'.cell? ⟨V + 1, 0, none⟩ = some (.slice none 0 0))
      (first
        | exact ⟨by assumption, by assumption, by assumption, by assumption, by assumption, by assumption, by assumption, by assumption, by assumption⟩)
      (first
        | (go_at_call 57; ((with_reducible refine C1.out.mono ?_); rintro e w' ⟨rfl, rfl⟩))
        | (go_at_call 60; ((with_reducible refine C2.out.mono ?_); rintro e w5 ⟨la, lc, rfl, hk⟩; have z5 := hk.size; have K := Keeps.of_new (S := fun _ => False) hk; replace e0 := K.cell (p := ⟨w.heap.size, 0, none⟩) id e0; replace e1 := K.cell (p := ⟨w.heap.size, 1, none⟩) id e1; replace e2 := K.cell (p := ⟨w.heap.size, 2, none⟩) id e2; replace e3 := K.cell (p := ⟨w.heap.size, 3, none⟩) id e3; replace e4 := K.cell (p := ⟨w.heap.size, 4, none⟩) id e4; replace e5 := K.cell (p := ⟨w.heap.size, 5, none⟩) id e5; replace e6 := K.cell (p := ⟨w.heap.size, 6, none⟩) id e6; replace e7 := K.cell (p := ⟨w.heap.size, 7, none⟩) id e7; replace q0 := K.cell (p := ⟨V + 1, 0, none⟩) id q0; have N5 := Lib.hid (NV.out.keep K id); have K5 := Lib.hid hk; have C3 := Lib.hid (addl_kind a1_0 a1_1 a1_2 a1_3 a1_4 a1_5 a1_6 a1_7 w5 V 0 [] N5.out.isL hkf); clear K hk C2))
        | (go_at_call 54; ((with_reducible refine C3.out.mono ?_); rintro e w6 ⟨rfl, hk⟩; have z6 := hk.size; have K := Keeps.of_new (S := fun _ => False) hk; replace e0 := K.cell (p := ⟨w.heap.size, 0, none⟩) id e0; replace e1 := K.cell (p := ⟨w.heap.size, 1, none⟩) id e1; replace e2 := K.cell (p := ⟨w.heap.size, 2, none⟩) id e2; replace e3 := K.cell (p := ⟨w.heap.size, 3, none⟩) id e3; replace e4 := K.cell (p := ⟨w.heap.size, 4, none⟩) id e4; replace e5 := K.cell (p := ⟨w.heap.size, 5, none⟩) id e5; replace e6 := K.cell (p := ⟨w.heap.size, 6, none⟩) id e6; replace e7 := K.cell (p := ⟨w.heap.size, 7, none⟩) id e7; replace q0 := K.cell (p := ⟨V + 1, 0, none⟩) id q0; have N6 := Lib.hid (N5.out.keep K id); have K6 := Lib.hid hk; clear K hk C3))
        | (go_at_call 56; refine (otherw _ _ _ _ _ _ _ _ _ lk uk).mono ?_; rintro e w7 ⟨rfl, hk⟩; have z7 := hk.size; have K := Keeps.of_new (S := fun _ => False) hk; replace e0 := K.cell (p := ⟨w.heap.size, 0, none⟩) id e0; replace e1 := K.cell (p := ⟨w.heap.size, 1, none⟩) id e1; replace e2 := K.cell (p := ⟨w.heap.size, 2, none⟩) id e2; replace e3 := K.cell (p := ⟨w.heap.size, 3, none⟩) id e3; replace e4 := K.cell (p := ⟨w.heap.size, 4, none⟩) id e4; replace e5 := K.cell (p := ⟨w.heap.size, 5, none⟩) id e5; replace e6 := K.cell (p := ⟨w.heap.size, 6, none⟩) id e6; replace e7 := K.cell (p := ⟨w.heap.size, 7, none⟩) id e7; replace q0 := K.cell (p := ⟨V + 1, 0, none⟩) id q0; have N7 := Lib.hid (N6.out.keep K id); have K7 := Lib.hid hk; clear K hk)
        | (go_at_call 55; refine (radd_bad _ _ _ _ _ _ _ _ _ _ hk19).mono ?_; rintro e w8 ⟨rfl, hk⟩; have z8 := hk.size; have K := Keeps.of_new (S := fun _ => False) hk; replace e0 := K.cell (p := ⟨w.heap.size, 0, none⟩) id e0; replace e1 := K.cell (p := ⟨w.heap.size, 1, none⟩) id e1; replace e2 := K.cell (p := ⟨w.heap.size, 2, none⟩) id e2; replace e3 := K.cell (p := ⟨w.heap.size, 3, none⟩) id e3; replace e4 := K.cell (p := ⟨w.heap.size, 4, none⟩) id e4; replace e5 := K.cell (p := ⟨w.heap.size, 5, none⟩) id e5; replace e6 := K.cell (p := ⟨w.heap.size, 6, none⟩) id e6; replace e7 := K.cell (p := ⟨w.heap.size, 7, none⟩) id e7; replace q0 := K.cell (p := ⟨V + 1, 0, none⟩) id q0; have N8 := Lib.hid (N7.out.keep K id); have K8 := Lib.hid hk; have C5 := Lib.hid (all_nil N8.out); clear K hk)
        | (go_at_call 60; ((with_reducible refine C5.out.mono ?_); rintro e w9 ⟨ga, ca, rfl, hk⟩; have z9 := hk.size; have K := Keeps.of_new (S := fun _ => False) hk; replace e0 := K.cell (p := ⟨w.heap.size, 0, none⟩) id e0; replace e1 := K.cell (p := ⟨w.heap.size, 1, none⟩) id e1; replace e2 := K.cell (p := ⟨w.heap.size, 2, none⟩) id e2; replace e3 := K.cell (p := ⟨w.heap.size, 3, none⟩) id e3; replace e4 := K.cell (p := ⟨w.heap.size, 4, none⟩) id e4; replace e5 := K.cell (p := ⟨w.heap.size, 5, none⟩) id e5; replace e6 := K.cell (p := ⟨w.heap.size, 6, none⟩) id e6; replace e7 := K.cell (p := ⟨w.heap.size, 7, none⟩) id e7; replace q0 := K.cell (p := ⟨V + 1, 0, none⟩) id q0; have K9 := Lib.hid hk; clear K hk C5))
        | (go_at_call 61; refine (same_none _ _ _ _ _).mono ?_; rintro e w10 ⟨rfl, rfl⟩; have K10 := Lib.hid (Below.refl w9.heap.size w9))
        | (go_at_call 52; refine (lives09 _).mono ?_; rintro e w11 ⟨rfl, hk⟩; have K := Keeps.of_new (S := fun _ => False) hk; replace e0 := K.cell (p := ⟨w.heap.size, 0, none⟩) id e0; replace e1 := K.cell (p := ⟨w.heap.size, 1, none⟩) id e1; replace e2 := K.cell (p := ⟨w.heap.size, 2, none⟩) id e2; replace e3 := K.cell (p := ⟨w.heap.size, 3, none⟩) id e3; replace e4 := K.cell (p := ⟨w.heap.size, 4, none⟩) id e4; replace e5 := K.cell (p := ⟨w.heap.size, 5, none⟩) id e5; replace e6 := K.cell (p := ⟨w.heap.size, 6, none⟩) id e6; replace e7 := K.cell (p := ⟨w.heap.size, 7, none⟩) id e7; replace q0 := K.cell (p := ⟨V + 1, 0, none⟩) id q0; have K11 := Lib.hid hk; clear K hk))
    have hb := (HB0.out.trans (HBX.out.mono (by omega))).drew
    replace hb := below_then hb K5.out
    replace hb := below_then hb K6.out
    replace hb := below_then hb K7.out
    replace hb := below_then hb K8.out
    replace hb := below_then (below_then (below_then hb K9.out) K10.out) K11.out
    clear e0 e1 e2 e3 e4 e5 e6 e7
    go_wp2_with fail
    go_ret
    exact ⟨rfl, hb⟩
end Go.Proofs.Yteofbgbjibbdaac
