/- Law PlacesApart, walked. -/
import Derived.Test.YteofbgbjibbdaacPlApartB
import Derived.Test.YteofbgbjibbdaacPlApartK
import Derived.Test.YteofbgbjibbdaacPlApartS
import Derived.Test.YteofbgbjibbdaacPlApartE
namespace Go.Proofs.Yteofbgbjibbdaac
open Go.RowKit
set_option linter.unusedVariables false
theorem pow_fin : ∀ m : Fin 13, ∀ n : Fin 13, m < n → 2 * (2 : Int) ^ m.val ≤ 2 ^ n.val := by decide +kernel
theorem pow_up (f g : Int) (h1 : 1 ≤ f) (h2 : f < g) (h3 : g ≤ 12) : 2 * (2 : Int) ^ f.toNat ≤ 2 ^ g.toNat :=
  pow_fin ⟨f.toNat, by omega⟩ ⟨g.toNat, by omega⟩ (by show f.toNat < g.toNat; omega)
theorem apart_vals (f k p F : Int) (f1 : 1 ≤ f) (f2 : f ≤ 12) (hF : (2 : Int) ^ f.toNat = F) (k1 : 0 ≤ k) (k2 : k < F) (p1 : 0 ≤ p) (p2 : p ≤ 3) :
    tagsf f k = 4096 + 8 * (F + k) ∧ itemf f k p = 4096 + 8 * (F + k) + 1 + p ∧ 64 ≤ versf f k ∧ versf f k < 128 := by
  have e : szf f = F := by unfold szf; rw [if_pos ⟨f1, f2⟩, hF]
  have hi : isp f k = true := by unfold isp; rw [e]; simp; omega
  refine ⟨by unfold tagsf; rw [if_pos hi, e], by unfold itemf; rw [if_pos ⟨hi, p1, p2⟩, e], ?_⟩
  unfold versf; rw [if_pos hi]
  have := strf_range hi
  omega
theorem ref_val (x : Int) (h : 0 ≤ x) : reff (x + 1) = 4294967297 + x := by unfold reff; rw [if_neg (by omega)]; omega
theorem walk_PlacesApart (z0 z1 z2 z3 z4 z5 x y : Int) (w : World) (w0_0 : (Lit.int .u16 z0).wf = true) (w0_1 : (Lit.int .u16 z1).wf = true) (w0_2 : (Lit.int .u16 z2).wf = true) (w0_3 : (Lit.int .u16 z3).wf = true) (w0_4 : (Lit.int .u16 z4).wf = true) (w0_5 : (Lit.int .u16 z5).wf = true) (w1 : (Lit.int .u32 x).wf = true) (w2 : (Lit.int .u32 y).wf = true) :
    Calls Try.prog 8 #[.agg #[.int .u16 z0, .int .u16 z1, .int .u16 z2, .int .u16 z3, .int .u16 z4, .int .u16 z5], .int .u32 x, .int .u32 y] w fun e w' => e = .returned (.bool true) ∧ Below w.heap.size w w' := by
  obtain ⟨l0, u0⟩ := bounds_u16 w0_0
  obtain ⟨l1, u1⟩ := bounds_u16 w0_1
  obtain ⟨l2, u2⟩ := bounds_u16 w0_2
  obtain ⟨l3, u3⟩ := bounds_u16 w0_3
  obtain ⟨l4, u4⟩ := bounds_u16 w0_4
  obtain ⟨l5, u5⟩ := bounds_u16 w0_5
  obtain ⟨lx, ux⟩ := bounds_u32 w1
  obtain ⟨ly, uy⟩ := bounds_u32 w2
  clear w0_0 w0_1 w0_2 w0_3 w0_4 w0_5 w1 w2
  obtain ⟨f, hf⟩ : ∃ f, 1 + z0 % 12 = f := ⟨_, rfl⟩
  obtain ⟨g, hg⟩ : ∃ f, 1 + z3 % 12 = f := ⟨_, rfl⟩
  obtain ⟨p, hp⟩ : ∃ f, z2 % 4 = f := ⟨_, rfl⟩
  obtain ⟨q, hq⟩ : ∃ f, z5 % 4 = f := ⟨_, rfl⟩
  have f1 : 1 ≤ f := by omega
  have f2 : f ≤ 12 := by omega
  have g1 : 1 ≤ g := by omega
  have g2 : g ≤ 12 := by omega
  have p1 : 0 ≤ p := by omega
  have p2 : p ≤ 3 := by omega
  have q1 : 0 ≤ q := by omega
  have q2 : q ≤ 3 := by omega
  obtain ⟨F1, F2⟩ := pow_le f f1 f2
  obtain ⟨G1, G2⟩ := pow_le g g1 g2
  have hup := fun h => pow_up f g f1 h g2
  have hdn := fun h => pow_up g f g1 h f2
  obtain ⟨F, hF⟩ : ∃ F, (2 : Int) ^ f.toNat = F := ⟨_, rfl⟩
  obtain ⟨G, hG⟩ : ∃ F, (2 : Int) ^ g.toNat = F := ⟨_, rfl⟩
  rw [hF] at F1 F2 hup hdn
  rw [hG] at G1 G2 hup hdn
  obtain ⟨k, hk⟩ : ∃ k, z1 % F = k := ⟨_, rfl⟩
  obtain ⟨j, hj⟩ : ∃ k, z4 % G = k := ⟨_, rfl⟩
  have k1 : 0 ≤ k := by rw [← hk]; exact Int.emod_nonneg _ (by omega)
  have k2 : k < F := by rw [← hk]; exact Int.emod_lt_of_pos _ (by omega)
  have j1 : 0 ≤ j := by rw [← hj]; exact Int.emod_nonneg _ (by omega)
  have j2 : j < G := by rw [← hj]; exact Int.emod_lt_of_pos _ (by omega)
  obtain ⟨va, vb, vc, vd⟩ := apart_vals f k p F f1 f2 hF k1 k2 p1 p2
  obtain ⟨vA, vB, vC, vD⟩ := apart_vals g j q G g1 g2 hG j1 j2 q1 q2
  have y1 := ref_val x lx
  have y2 := ref_val y ly
  by_cases d : f = g
  · subst d
    rw [hF] at hG
    subst hG
    by_cases d : k = j
    · subst d
      by_cases d : p = q
      · subst d
        by_cases xy : x = y
        · subst xy
          exact apart_es z0 z1 z2 z3 z4 z5 _ _ _ _ _ _ _ _ _ w l0 u0 l1 u1 l2 u2 l3 u3 l4 u4 l5 u5 lx ux ly uy hf hg hp hq f1 f2 g1 g2 hF F1 F2 hF G1 G2 hk hj k1 k2 j1 j2 va vb vA vB rfl (by simp; omega) (by simp; omega) (by simp; omega) (by simp; omega) (by simp; omega) (by simp; omega)  y1 y2  (by simp; omega) (by simp; omega) (by simp; omega) (by simp; omega) (by simp; omega) (by simp; omega) (by simp; omega)
        · exact apart_eu z0 z1 z2 z3 z4 z5 _ _ _ _ _ _ _ _ _ _ _ w l0 u0 l1 u1 l2 u2 l3 u3 l4 u4 l5 u5 lx ux ly uy hf hg hp hq f1 f2 g1 g2 hF F1 F2 hF G1 G2 hk hj k1 k2 j1 j2 va vb vA vB rfl (by simp; omega) (by simp; omega) (by simp; omega) (by simp; omega) (by simp; omega) (by simp; omega)  y1 y2 (by simp; omega) (by simp; omega) (by simp; omega) (by simp; omega) (by simp; omega) (by simp; omega) (by simp; omega) (by simp; omega) (by simp; omega) (by simp; omega) (by simp; omega)
      ·
        by_cases xy : x = y
        · subst xy
          exact apart_ss z0 z1 z2 z3 z4 z5 _ _ _ _ _ _ _ _ _ _ _ w l0 u0 l1 u1 l2 u2 l3 u3 l4 u4 l5 u5 lx ux ly uy hf hg hp hq f1 f2 g1 g2 hF F1 F2 hF G1 G2 hk hj k1 k2 j1 j2 va vb vA vB rfl (by simp; omega) (by simp; omega) (by simp; omega) (by simp; omega) (by simp; omega) (by simp; omega) (by simp; omega) (by simp; omega) (by simp; omega) (by simp; omega) y1 y2  (by simp; omega) (by simp; omega) (by simp; omega) (by simp; omega) (by simp; omega) (by simp; omega) (by simp; omega)
        · exact apart_su z0 z1 z2 z3 z4 z5 _ _ _ _ _ _ _ _ _ _ _ _ _ w l0 u0 l1 u1 l2 u2 l3 u3 l4 u4 l5 u5 lx ux ly uy hf hg hp hq f1 f2 g1 g2 hF F1 F2 hF G1 G2 hk hj k1 k2 j1 j2 va vb vA vB rfl (by simp; omega) (by simp; omega) (by simp; omega) (by simp; omega) (by simp; omega) (by simp; omega) (by simp; omega) (by simp; omega) (by simp; omega) (by simp; omega) y1 y2 (by simp; omega) (by simp; omega) (by simp; omega) (by simp; omega) (by simp; omega) (by simp; omega) (by simp; omega) (by simp; omega) (by simp; omega) (by simp; omega) (by simp; omega)
    ·
      by_cases xy : x = y
      · subst xy
        exact apart_ks z0 z1 z2 z3 z4 z5 _ _ _ _ _ _ _ _ _ _ _ _ _ w l0 u0 l1 u1 l2 u2 l3 u3 l4 u4 l5 u5 lx ux ly uy hf hg hp hq f1 f2 g1 g2 hF F1 F2 hF G1 G2 hk hj k1 k2 j1 j2 va vb vA vB rfl (by simp; omega) (by simp; omega) (by simp; omega) (by simp; omega) (by simp; omega) (by simp; omega) (by simp; omega) (by simp; omega) (by simp; omega) (by simp; omega) (by simp; omega) (by simp; omega) y1 y2  (by simp; omega) (by simp; omega) (by simp; omega) (by simp; omega) (by simp; omega) (by simp; omega) (by simp; omega)
      · exact apart_ku z0 z1 z2 z3 z4 z5 _ _ _ _ _ _ _ _ _ _ _ _ _ _ _ w l0 u0 l1 u1 l2 u2 l3 u3 l4 u4 l5 u5 lx ux ly uy hf hg hp hq f1 f2 g1 g2 hF F1 F2 hF G1 G2 hk hj k1 k2 j1 j2 va vb vA vB rfl (by simp; omega) (by simp; omega) (by simp; omega) (by simp; omega) (by simp; omega) (by simp; omega) (by simp; omega) (by simp; omega) (by simp; omega) (by simp; omega) (by simp; omega) (by simp; omega) y1 y2 (by simp; omega) (by simp; omega) (by simp; omega) (by simp; omega) (by simp; omega) (by simp; omega) (by simp; omega) (by simp; omega) (by simp; omega) (by simp; omega) (by simp; omega)
  · have ho : 2 * F ≤ G ∨ 2 * G ≤ F := by
      rcases Int.lt_or_gt_of_ne d with h | h
      · exact .inl (hup h)
      · exact .inr (hdn h)
    by_cases xy : x = y
    · subst xy
      exact apart_bs z0 z1 z2 z3 z4 z5 _ _ _ _ _ _ _ _ _ _ _ _ _ _ _ w l0 u0 l1 u1 l2 u2 l3 u3 l4 u4 l5 u5 lx ux ly uy hf hg hp hq f1 f2 g1 g2 hF F1 F2 hG G1 G2 hk hj k1 k2 j1 j2 va vb vA vB rfl (by simp; omega) (by simp; omega) (by simp; omega) (by simp; omega) (by simp; omega) (by simp; omega) (by simp; omega) (by simp; omega) (by simp; omega) (by simp; omega) (by simp; omega) (by simp; omega) y1 y2  (by simp; omega) (by simp; omega) (by simp; omega) (by simp; omega) (by simp; omega) (by simp; omega) (by simp; omega)
    · exact apart_bu z0 z1 z2 z3 z4 z5 _ _ _ _ _ _ _ _ _ _ _ _ _ _ _ _ _ w l0 u0 l1 u1 l2 u2 l3 u3 l4 u4 l5 u5 lx ux ly uy hf hg hp hq f1 f2 g1 g2 hF F1 F2 hG G1 G2 hk hj k1 k2 j1 j2 va vb vA vB rfl (by simp; omega) (by simp; omega) (by simp; omega) (by simp; omega) (by simp; omega) (by simp; omega) (by simp; omega) (by simp; omega) (by simp; omega) (by simp; omega) (by simp; omega) (by simp; omega) y1 y2 (by simp; omega) (by simp; omega) (by simp; omega) (by simp; omega) (by simp; omega) (by simp; omega) (by simp; omega) (by simp; omega) (by simp; omega) (by simp; omega) (by simp; omega)
end Go.Proofs.Yteofbgbjibbdaac
