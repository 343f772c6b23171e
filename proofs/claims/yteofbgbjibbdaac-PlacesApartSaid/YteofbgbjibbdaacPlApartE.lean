/- Law PlacesApart, case by case: e. -/
import Derived.Test.YteofbgbjibbdaacPlWords
import Derived.Deep.RegionHeld3
namespace Go.Proofs.Yteofbgbjibbdaac
open Go.RowKit
set_option linter.unusedVariables false
theorem belowNe {B : Nat} {a w : World} (h : Below B a w) (n : Nat) : Below B a (w.drewN n) := by
  induction n with
  | zero => exact h
  | succ n ih => exact ih.drew
theorem new3e (W : World) (n : Nat) (h : n = W.heap.size) (x y z : Value) (t : TypeId) : (W.alloc (.cells #[x, y, z] t)).cell? ⟨n, 0, none⟩ = some x ∧ (W.alloc (.cells #[x, y, z] t)).cell? ⟨n, 1, none⟩ = some y ∧ (W.alloc (.cells #[x, y, z] t)).cell? ⟨n, 2, none⟩ = some z := by
  subst h; exact ⟨by simp, by simp, by simp⟩
set_option maxHeartbeats 8000000 in
theorem apart_es (z0 z1 z2 z3 z4 z5 x P f p F k t1 i1 r : Int) (w : World)
  (l0 : 0 ≤ z0) (u0 : z0 ≤ 65535) (l1 : 0 ≤ z1) (u1 : z1 ≤ 65535) (l2 : 0 ≤ z2) (u2 : z2 ≤ 65535) (l3 : 0 ≤ z3) (u3 : z3 ≤ 65535) (l4 : 0 ≤ z4) (u4 : z4 ≤ 65535) (l5 : 0 ≤ z5) (u5 : z5 ≤ 65535) (lx : 0 ≤ x) (ux : x ≤ 4294967295) (ly : 0 ≤ x) (uy : x ≤ 4294967295)
  (hf : 1 + z0 % 12 = f) (hg : 1 + z3 % 12 = f) (hp : z2 % 4 = p) (hq : z5 % 4 = p) (f1 : 1 ≤ f) (f2 : f ≤ 12) (g1 : 1 ≤ f) (g2 : f ≤ 12) (hF : (2 : Int) ^ f.toNat = F) (F1 : 2 ≤ F) (F2 : F ≤ 4096) (hG : (2 : Int) ^ f.toNat = F) (G1 : 2 ≤ F) (G2 : F ≤ 4096) (hk : z1 % F = k) (hj : z4 % F = k) (k1 : 0 ≤ k) (k2 : k < F) (j1 : 0 ≤ k) (j2 : k < F)
  (ht : tagsf f k = t1) (hi : itemf f k p = i1) (ht' : tagsf f k = t1) (hi' : itemf f k p = i1) (hr : versf f k = r)
  (a1 : (t1 == i1) = false) (a2 : decide (t1 = i1) = false) (b1 : (t1 == i1) = false) (b2 : decide (t1 = i1) = false) (c1 : (t1 == i1) = false) (c2 : decide (t1 = i1) = false) 
  (y1 : reff (x + 1) = P) (y2 : reff (x + 1) = P)  (y3 : decide (4294967296 < P) = true)
  (v1 : decide (4096 ≤ t1) = true) (v2 : decide (i1 < 4294967296) = true) (v3 : decide (64 ≤ r) = true) (v4 : decide (r < 128) = true) (v5 : decide (r < 4096) = true) (v6 : decide (8 < r) = true) :
    Calls Try.prog 8 #[.agg #[.int .u16 z0, .int .u16 z1, .int .u16 z2, .int .u16 z3, .int .u16 z4, .int .u16 z5], .int .u32 x, .int .u32 x] w fun e w' => e = .returned (.bool true) ∧ Below w.heap.size w w' := by
  go_enter Try.func8, Try.ntmps8
  go_wp2_with fail
  go_region
  go_wp2_with fail
  go_region
  go_wp2_with fail
  refine (wordsw f k p _).mono ?_
  rintro e w1 ⟨rfl, hb1⟩
  have hz1 := hb1.size
  have hs1 : w.heap.size + 3 ≤ w1.heap.size := by simpa using hz1
  have m0 : w1.cell? ⟨w.heap.size + 1, 0, none⟩ = some (.int .i64 f) := (hb1.cell (p := ⟨w.heap.size + 1, 0, none⟩) (by simp)).trans (by simp [World.cell?_alloc_some])
  have m1 : w1.cell? ⟨w.heap.size + 1, 1, none⟩ = some (.int .i64 k) := (hb1.cell (p := ⟨w.heap.size + 1, 1, none⟩) (by simp)).trans (by simp [World.cell?_alloc_some])
  have m2 : w1.cell? ⟨w.heap.size + 1, 2, none⟩ = some (.int .i64 p) := (hb1.cell (p := ⟨w.heap.size + 1, 2, none⟩) (by simp)).trans (by simp [World.cell?_alloc_some])
  have m3 : w1.cell? ⟨w.heap.size + 1 + 1, 0, none⟩ = some (.int .i64 f) := (hb1.cell (p := ⟨w.heap.size + 1 + 1, 0, none⟩) (by simp)).trans (new3e _ _ (by simp) _ _ _ _).1
  have m4 : w1.cell? ⟨w.heap.size + 1 + 1, 1, none⟩ = some (.int .i64 k) := (hb1.cell (p := ⟨w.heap.size + 1 + 1, 1, none⟩) (by simp)).trans (new3e _ _ (by simp) _ _ _ _).2.1
  have m5 : w1.cell? ⟨w.heap.size + 1 + 1, 2, none⟩ = some (.int .i64 p) := (hb1.cell (p := ⟨w.heap.size + 1 + 1, 2, none⟩) (by simp)).trans (new3e _ _ (by simp) _ _ _ _).2.2
  have hw1 : Below w.heap.size w w1 := ((Below.refl w.heap.size w).alloc (Nat.le_refl _) _ |>.alloc (by simp) _ |>.alloc (by simp; omega) _).drew.drew.trans (hb1.mono (by simp; omega))
  clear hb1 hz1
  have hv : ∀ (a : Addr) (v : Value), w1.cell? a = some v → (w1.alloc (.cells #[.int .u64 t1, .int .u64 i1] 58)).cell? a = some v := fun a v h => (World.cell?_alloc_some _ _ _ (by simp [h])).trans h
  have n0 := hv _ _ m0
  have n1 := hv _ _ m1
  have n2 := hv _ _ m2
  have n3 := hv _ _ m3
  have n4 := hv _ _ m4
  have n5 := hv _ _ m5
  clear hv m0 m1 m2 m3 m4 m5
  go_wp2_with fail
  refine (wordsw f k p _).mono ?_
  rintro e w2 ⟨rfl, hb2⟩
  have hs2 : w1.heap.size + 1 ≤ w2.heap.size := by simpa using hb2.size
  have m0 := (hb2.cell (p := ⟨w.heap.size + 1, 0, none⟩) (by simp; omega)).trans n0
  have m1 := (hb2.cell (p := ⟨w.heap.size + 1, 1, none⟩) (by simp; omega)).trans n1
  have m2 := (hb2.cell (p := ⟨w.heap.size + 1, 2, none⟩) (by simp; omega)).trans n2
  have m3 := (hb2.cell (p := ⟨w.heap.size + 1 + 1, 0, none⟩) (by simp; omega)).trans n3
  have m4 := (hb2.cell (p := ⟨w.heap.size + 1 + 1, 1, none⟩) (by simp; omega)).trans n4
  have m5 := (hb2.cell (p := ⟨w.heap.size + 1 + 1, 2, none⟩) (by simp; omega)).trans n5
  have m6 : w2.cell? ⟨w1.heap.size, 0, none⟩ = some (.int .u64 t1) := (hb2.cell (p := ⟨w1.heap.size, 0, none⟩) (by simp)).trans (by simp)
  have m7 : w2.cell? ⟨w1.heap.size, 1, none⟩ = some (.int .u64 i1) := (hb2.cell (p := ⟨w1.heap.size, 1, none⟩) (by simp)).trans (by simp)
  clear n0 n1 n2 n3 n4 n5
  have hw2 : Below w.heap.size w w2 := (hw1.alloc (by omega) _).trans (hb2.mono (by simp; omega))
  clear hb2
  go_wp2_with fail
  generalize hW : w2.alloc _ = W
  have hv : ∀ (a : Addr) (v : Value), w2.cell? a = some v → W.cell? a = some v := fun a v h => by rw [← hW]; exact (World.cell?_alloc_some _ _ _ (by simp [h])).trans h
  have n0 := hv _ _ m0
  have n1 := hv _ _ m1
  have n2 := hv _ _ m2
  have n3 := hv _ _ m3
  have n4 := hv _ _ m4
  have n5 := hv _ _ m5
  have n6 := hv _ _ m6
  have n7 := hv _ _ m7
  have n8 : W.cell? ⟨w2.heap.size, 0, none⟩ = some (.int .u64 t1) := by rw [← hW]; simp
  have n9 : W.cell? ⟨w2.heap.size, 1, none⟩ = some (.int .u64 i1) := by rw [← hW]; simp
  have hW3 : Below w.heap.size w W := by rw [← hW]; exact hw2.alloc (by omega) _
  have hsW : w2.heap.size + 1 ≤ W.heap.size := by rw [← hW]; simp
  clear hv m0 m1 m2 m3 m4 m5 m6 m7 hW hw1 hw2
  go_quiet (fail)
  go_wp2_with (go_at_call 27; refine (refw _ _ (by omega)).mono ?_; rintro e w9 ⟨rfl, rfl⟩)
  refine (versw f k _).mono ?_
  rintro e V ⟨rfl, hb3⟩
  have hB0 : Below W.heap.size W (W.drewN nq) := belowNe (Below.refl _ _) nq
  have hB : Below W.heap.size W V := hB0.trans (hb3.mono hB0.size)
  have hBd := hB.drew
  have hN : W.heap.size ≤ W.heap.size := Nat.le_refl _
  have hlt : w1.heap.size < W.heap.size := by omega
  have o6 := box_cell hB hlt n6
  have o7 := box_cell hB hlt n7
  clear hb3 hB0 n0 n1 n2 n3 n4 n5 n6 n7 n8 n9 hBd
  go_wp2_with (go_at_call 31; refine (lives08 _).mono ?_; rintro e w' ⟨rfl, hk'⟩)
  go_ret
  exact ⟨rfl, hW3.trans ((hB.trans (hk'.mono hB.size)).mono hW3.size)⟩
set_option maxHeartbeats 8000000 in
theorem apart_eu (z0 z1 z2 z3 z4 z5 x y P Q f p F k t1 i1 r : Int) (w : World)
  (l0 : 0 ≤ z0) (u0 : z0 ≤ 65535) (l1 : 0 ≤ z1) (u1 : z1 ≤ 65535) (l2 : 0 ≤ z2) (u2 : z2 ≤ 65535) (l3 : 0 ≤ z3) (u3 : z3 ≤ 65535) (l4 : 0 ≤ z4) (u4 : z4 ≤ 65535) (l5 : 0 ≤ z5) (u5 : z5 ≤ 65535) (lx : 0 ≤ x) (ux : x ≤ 4294967295) (ly : 0 ≤ y) (uy : y ≤ 4294967295)
  (hf : 1 + z0 % 12 = f) (hg : 1 + z3 % 12 = f) (hp : z2 % 4 = p) (hq : z5 % 4 = p) (f1 : 1 ≤ f) (f2 : f ≤ 12) (g1 : 1 ≤ f) (g2 : f ≤ 12) (hF : (2 : Int) ^ f.toNat = F) (F1 : 2 ≤ F) (F2 : F ≤ 4096) (hG : (2 : Int) ^ f.toNat = F) (G1 : 2 ≤ F) (G2 : F ≤ 4096) (hk : z1 % F = k) (hj : z4 % F = k) (k1 : 0 ≤ k) (k2 : k < F) (j1 : 0 ≤ k) (j2 : k < F)
  (ht : tagsf f k = t1) (hi : itemf f k p = i1) (ht' : tagsf f k = t1) (hi' : itemf f k p = i1) (hr : versf f k = r)
  (a1 : (t1 == i1) = false) (a2 : decide (t1 = i1) = false) (b1 : (t1 == i1) = false) (b2 : decide (t1 = i1) = false) (c1 : (t1 == i1) = false) (c2 : decide (t1 = i1) = false) 
  (y1 : reff (x + 1) = P) (y2 : reff (y + 1) = Q) (xy1 : (x == y) = false) (xy2 : decide (x = y) = false) (pq1 : (P == Q) = false) (pq2 : decide (P = Q) = false) (y3 : decide (4294967296 < P) = true)
  (v1 : decide (4096 ≤ t1) = true) (v2 : decide (i1 < 4294967296) = true) (v3 : decide (64 ≤ r) = true) (v4 : decide (r < 128) = true) (v5 : decide (r < 4096) = true) (v6 : decide (8 < r) = true) :
    Calls Try.prog 8 #[.agg #[.int .u16 z0, .int .u16 z1, .int .u16 z2, .int .u16 z3, .int .u16 z4, .int .u16 z5], .int .u32 x, .int .u32 y] w fun e w' => e = .returned (.bool true) ∧ Below w.heap.size w w' := by
  go_enter Try.func8, Try.ntmps8
  go_wp2_with fail
  go_region
  go_wp2_with fail
  go_region
  go_wp2_with fail
  refine (wordsw f k p _).mono ?_
  rintro e w1 ⟨rfl, hb1⟩
  have hz1 := hb1.size
  have hs1 : w.heap.size + 3 ≤ w1.heap.size := by simpa using hz1
  have m0 : w1.cell? ⟨w.heap.size + 1, 0, none⟩ = some (.int .i64 f) := (hb1.cell (p := ⟨w.heap.size + 1, 0, none⟩) (by simp)).trans (by simp [World.cell?_alloc_some])
  have m1 : w1.cell? ⟨w.heap.size + 1, 1, none⟩ = some (.int .i64 k) := (hb1.cell (p := ⟨w.heap.size + 1, 1, none⟩) (by simp)).trans (by simp [World.cell?_alloc_some])
  have m2 : w1.cell? ⟨w.heap.size + 1, 2, none⟩ = some (.int .i64 p) := (hb1.cell (p := ⟨w.heap.size + 1, 2, none⟩) (by simp)).trans (by simp [World.cell?_alloc_some])
  have m3 : w1.cell? ⟨w.heap.size + 1 + 1, 0, none⟩ = some (.int .i64 f) := (hb1.cell (p := ⟨w.heap.size + 1 + 1, 0, none⟩) (by simp)).trans (new3e _ _ (by simp) _ _ _ _).1
  have m4 : w1.cell? ⟨w.heap.size + 1 + 1, 1, none⟩ = some (.int .i64 k) := (hb1.cell (p := ⟨w.heap.size + 1 + 1, 1, none⟩) (by simp)).trans (new3e _ _ (by simp) _ _ _ _).2.1
  have m5 : w1.cell? ⟨w.heap.size + 1 + 1, 2, none⟩ = some (.int .i64 p) := (hb1.cell (p := ⟨w.heap.size + 1 + 1, 2, none⟩) (by simp)).trans (new3e _ _ (by simp) _ _ _ _).2.2
  have hw1 : Below w.heap.size w w1 := ((Below.refl w.heap.size w).alloc (Nat.le_refl _) _ |>.alloc (by simp) _ |>.alloc (by simp; omega) _).drew.drew.trans (hb1.mono (by simp; omega))
  clear hb1 hz1
  have hv : ∀ (a : Addr) (v : Value), w1.cell? a = some v → (w1.alloc (.cells #[.int .u64 t1, .int .u64 i1] 58)).cell? a = some v := fun a v h => (World.cell?_alloc_some _ _ _ (by simp [h])).trans h
  have n0 := hv _ _ m0
  have n1 := hv _ _ m1
  have n2 := hv _ _ m2
  have n3 := hv _ _ m3
  have n4 := hv _ _ m4
  have n5 := hv _ _ m5
  clear hv m0 m1 m2 m3 m4 m5
  go_wp2_with fail
  refine (wordsw f k p _).mono ?_
  rintro e w2 ⟨rfl, hb2⟩
  have hs2 : w1.heap.size + 1 ≤ w2.heap.size := by simpa using hb2.size
  have m0 := (hb2.cell (p := ⟨w.heap.size + 1, 0, none⟩) (by simp; omega)).trans n0
  have m1 := (hb2.cell (p := ⟨w.heap.size + 1, 1, none⟩) (by simp; omega)).trans n1
  have m2 := (hb2.cell (p := ⟨w.heap.size + 1, 2, none⟩) (by simp; omega)).trans n2
  have m3 := (hb2.cell (p := ⟨w.heap.size + 1 + 1, 0, none⟩) (by simp; omega)).trans n3
  have m4 := (hb2.cell (p := ⟨w.heap.size + 1 + 1, 1, none⟩) (by simp; omega)).trans n4
  have m5 := (hb2.cell (p := ⟨w.heap.size + 1 + 1, 2, none⟩) (by simp; omega)).trans n5
  have m6 : w2.cell? ⟨w1.heap.size, 0, none⟩ = some (.int .u64 t1) := (hb2.cell (p := ⟨w1.heap.size, 0, none⟩) (by simp)).trans (by simp)
  have m7 : w2.cell? ⟨w1.heap.size, 1, none⟩ = some (.int .u64 i1) := (hb2.cell (p := ⟨w1.heap.size, 1, none⟩) (by simp)).trans (by simp)
  clear n0 n1 n2 n3 n4 n5
  have hw2 : Below w.heap.size w w2 := (hw1.alloc (by omega) _).trans (hb2.mono (by simp; omega))
  clear hb2
  go_wp2_with fail
  generalize hW : w2.alloc _ = W
  have hv : ∀ (a : Addr) (v : Value), w2.cell? a = some v → W.cell? a = some v := fun a v h => by rw [← hW]; exact (World.cell?_alloc_some _ _ _ (by simp [h])).trans h
  have n0 := hv _ _ m0
  have n1 := hv _ _ m1
  have n2 := hv _ _ m2
  have n3 := hv _ _ m3
  have n4 := hv _ _ m4
  have n5 := hv _ _ m5
  have n6 := hv _ _ m6
  have n7 := hv _ _ m7
  have n8 : W.cell? ⟨w2.heap.size, 0, none⟩ = some (.int .u64 t1) := by rw [← hW]; simp
  have n9 : W.cell? ⟨w2.heap.size, 1, none⟩ = some (.int .u64 i1) := by rw [← hW]; simp
  have hW3 : Below w.heap.size w W := by rw [← hW]; exact hw2.alloc (by omega) _
  have hsW : w2.heap.size + 1 ≤ W.heap.size := by rw [← hW]; simp
  clear hv m0 m1 m2 m3 m4 m5 m6 m7 hW hw1 hw2
  go_quiet (fail)
  go_wp2_with (go_at_call 27; refine (refw _ _ (by omega)).mono ?_; rintro e w9 ⟨rfl, rfl⟩)
  refine (versw f k _).mono ?_
  rintro e V ⟨rfl, hb3⟩
  have hB0 : Below W.heap.size W (W.drewN nq) := belowNe (Below.refl _ _) nq
  have hB : Below W.heap.size W V := hB0.trans (hb3.mono hB0.size)
  have hBd := hB.drew
  have hN : W.heap.size ≤ W.heap.size := Nat.le_refl _
  have hlt : w1.heap.size < W.heap.size := by omega
  have o6 := box_cell hB hlt n6
  have o7 := box_cell hB hlt n7
  clear hb3 hB0 n0 n1 n2 n3 n4 n5 n6 n7 n8 n9 hBd
  go_wp2_with (go_at_call 31; refine (lives08 _).mono ?_; rintro e w' ⟨rfl, hk'⟩)
  go_ret
  exact ⟨rfl, hW3.trans ((hB.trans (hk'.mono hB.size)).mono hW3.size)⟩
end Go.Proofs.Yteofbgbjibbdaac
