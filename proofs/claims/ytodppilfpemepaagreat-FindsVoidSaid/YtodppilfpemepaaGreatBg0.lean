/- Begin of nothing but a pair of worlds. -/
import Derived.Test.YtodppilfpemepaaGreatPwM
import Derived.Deep.Cut
import Derived.Deep.CutBlock
namespace Go.Proofs.YtodppilfpemepaaGreat
open Go.RowKit Go.Maps
set_option linter.unusedVariables false
/-- What Begin leaves: a pair as at first. -/
def Bg0 (w : World) (e : Ending) (w' : World) : Prop := ∃ A R S T, e = .returned (.agg #[.pointer (some ⟨A.p, 0, none⟩), .pointer (some ⟨R.p, 0, none⟩)]) ∧ Pw w' A R V10 S T ∧ (∀ j, S j ∨ T j → w.heap.size ≤ j) ∧ Below w.heap.size w w'
theorem setO {w : World} {q i j : Nat} {u v : Value} (h : i ≠ j) (hc : w.cell? ⟨q, j, none⟩ = some v) : (w.setCell ⟨q, i, none⟩ u).cell? ⟨q, j, none⟩ = some v :=
  (World.cell?_setCell_other w ⟨q, i, none⟩ ⟨q, j, none⟩ u (by intro e; injection e with _ e; exact h e)).trans hc
theorem new_at {W : World} {n i : Nat} {C : Array Value} {T : TypeId} {v : Value} (hn : n = W.heap.size) (h : C[i]? = some v) : (W.alloc (.cells C T)).cell? ⟨n, i, none⟩ = some v := by
  subst hn
  simpa using h
theorem new_fz {W : World} {n i : Nat} {C : Array Value} {T : TypeId} (hn : n = W.heap.size) : (W.alloc (.cells C T)).frozen? ⟨n, i, none⟩ = false := by
  subst hn
  simp
theorem old_fz {W : World} {n i : Nat} {o : Obj} (h : W.frozen? ⟨n, i, none⟩ = false) (hn : n < W.heap.size) : (W.alloc o).frozen? ⟨n, i, none⟩ = false :=
  ((Keeps.refl (fun _ => False) W).alloc o).frozen (p := ⟨n, i, none⟩) (fun s => s) hn h
/-- What stays of Begin's own variables. -/
structure BgF (X : World) (F D : Nat) : Prop where
  f5 : X.cell? ⟨F, 5, none⟩ = some (.bool false)
  f6 : X.cell? ⟨F, 6, none⟩ = some (.slice none 0 0)
  f7 : X.cell? ⟨F, 7, none⟩ = some (.slice none 0 0)
  f8 : X.cell? ⟨F, 8, none⟩ = some (.slice none 0 0)
  f9 : X.cell? ⟨F, 9, none⟩ = some (.int .i64 0)
  d0 : X.cell? ⟨D, 0, none⟩ = some (.pointer none)
  d1 : X.cell? ⟨D, 1, none⟩ = some (.pointer none)
  z0 : X.frozen? ⟨D, 0, none⟩ = false
  z1 : X.frozen? ⟨D, 1, none⟩ = false
theorem BgF.keep {X Y : World} {F D : Nat} {U : Nat → Prop} (h : BgF X F D) (hk : Keeps U X Y) (hF : ¬ U F) (hD : ¬ U D) : BgF Y F D := by
  have hd := World.block_lt_of_cell? _ _ h.d0
  obtain ⟨f5, f6, f7, f8, f9, d0, d1, z0, z1⟩ := h
  exact ⟨hk.cell (p := ⟨F, 5, none⟩) hF f5, hk.cell (p := ⟨F, 6, none⟩) hF f6, hk.cell (p := ⟨F, 7, none⟩) hF f7, hk.cell (p := ⟨F, 8, none⟩) hF f8, hk.cell (p := ⟨F, 9, none⟩) hF f9, hk.cell (p := ⟨D, 0, none⟩) hD d0, hk.cell (p := ⟨D, 1, none⟩) hD d1, hk.frozen (p := ⟨D, 0, none⟩) hD hd z0, hk.frozen (p := ⟨D, 1, none⟩) hD hd z1⟩
theorem BgF.new {X Y : World} {F D : Nat} (h : BgF X F D) (hb : Below X.heap.size X Y) : BgF Y F D := h.keep (U := fun _ => False) (Keeps.of_new hb) (fun s => s) (fun s => s)
set_option maxHeartbeats 4000000 in
set_option maxRecDepth 100000 in
theorem begin0 (w : World) : Calls Tryz.prog 5 #[.agg #[.int .i64 0, .int .i64 0, .int .i64 0, .int .i64 0, .int .i64 0, .bool false, .slice none 0 0, .slice none 0 0, .slice none 0 0, .int .i64 0]] w (Bg0 w) := by
  have CO := Lib.hid (fun b u t q y X => other10 b u t q y X)
  have CN := Lib.hid (fun X => rmay10 0 0 0 0 0 X)
  have CR := Lib.hid (fun X => newR 2 8 3 1 16 X (by decide))
  have CW := Lib.hid (fun X => newW 2 8 3 1 16 X (by decide))
  rw [show mayc 0 0 0 0 0 = false by decide] at CN
  go_enter Tryz.func5, Tryz.ntmps5
  go_wp2_with fail
  obtain ⟨N, hN⟩ : ∃ N, N = w.heap.size := ⟨_, rfl⟩
  generalize hW : World.alloc (World.alloc (World.alloc w _) _) _ = W
  rw [← hN]
  have bW : Below N w W := by rw [← hW, hN]; exact bs_alloc (bs_alloc (bs_alloc (Below.refl _ _)))
  have hF : BgF W N (N + 1) := by
    rw [← hW, hN]
    exact ⟨by simp [World.cell?_alloc_some], by simp [World.cell?_alloc_some], by simp [World.cell?_alloc_some], by simp [World.cell?_alloc_some], by simp [World.cell?_alloc_some], by simp [World.cell?_alloc_some], by simp [World.cell?_alloc_some], old_fz (new_fz (by simp)) (by simp), old_fz (new_fz (by simp)) (by simp)⟩
  have hsW : W.heap.size = N + 3 := by rw [← hW, hN]; simp
  have c0 : W.cell? ⟨N + 1 + 1, 0, none⟩ = some (.int .i64 0) := by rw [← hW, hN]; exact new_at (by simp) rfl
  have c1 : W.cell? ⟨N + 1 + 1, 1, none⟩ = some (.int .i64 0) := by rw [← hW, hN]; exact new_at (by simp) rfl
  have c2 : W.cell? ⟨N + 1 + 1, 2, none⟩ = some (.int .i64 0) := by rw [← hW, hN]; exact new_at (by simp) rfl
  have c3 : W.cell? ⟨N + 1 + 1, 3, none⟩ = some (.int .i64 0) := by rw [← hW, hN]; exact new_at (by simp) rfl
  have c4 : W.cell? ⟨N + 1 + 1, 4, none⟩ = some (.int .i64 0) := by rw [← hW, hN]; exact new_at (by simp) rfl
  have cz : ∀ j, W.frozen? ⟨N + 1 + 1, j, none⟩ = false := fun j => by rw [← hW, hN]; exact new_fz (by simp)
  have HN := Lib.hid hN
  have hCl : N + 1 + 1 < W.heap.size := by omega
  have HSW := Lib.hid hsW
  clear hW hN hsW
  refine (CO.out _ _ _ _ _ _).mono ?_
  rintro e w1 ⟨rfl, k1⟩
  go_wp2_with fail
  refine (CN.out _).mono ?_
  rintro e w2 ⟨rfl, k2⟩
  have kk : Keeps (fun _ => False) W w2 := (Keeps.of_new k1).trans (Keeps.of_new k2) (fun _ _ s => s)
  obtain ⟨C, hC⟩ : ∃ C, C = N + 1 + 1 := ⟨_, rfl⟩
  rw [← hC] at c0 c1 c2 c3 c4 cz hCl ⊢
  have q0 := kk.cell (p := ⟨C, 0, none⟩) (fun s => s) c0
  have q1 := kk.cell (p := ⟨C, 1, none⟩) (fun s => s) c1
  have q2 := kk.cell (p := ⟨C, 2, none⟩) (fun s => s) c2
  have q3 := kk.cell (p := ⟨C, 3, none⟩) (fun s => s) c3
  have q4 := kk.cell (p := ⟨C, 4, none⟩) (fun s => s) c4
  have r0 := kk.frozen (p := ⟨C, 0, none⟩) (fun s => s) hCl (cz 0)
  have r1 := kk.frozen (p := ⟨C, 1, none⟩) (fun s => s) hCl (cz 1)
  have r2 := kk.frozen (p := ⟨C, 2, none⟩) (fun s => s) hCl (cz 2)
  have r3 := kk.frozen (p := ⟨C, 3, none⟩) (fun s => s) hCl (cz 3)
  have r4 := kk.frozen (p := ⟨C, 4, none⟩) (fun s => s) hCl (cz 4)
  have hF2 := hF.keep kk (fun s => s) (fun s => s)
  have hs2 := kk.size
  have HC := Lib.hid hC
  have HBW := Lib.hid bW
  have HK := Lib.hid kk
  have HF2 := Lib.hid hF2
  clear c0 c1 c2 c3 c4 cz kk k1 k2 hF hF2 bW hC CN
  go_upto_region 4 with (fail)
  generalize hW3 : World.setCell (World.setCell (World.setCell (World.setCell (World.setCell w2 _ _) _ _) _ _) _ _) _ _ = W3
  have hk3 : Keeps (fun j => j = C) w2 W3 := by
    rw [← hW3]
    exact (((((Keeps.refl (fun j => j = C) w2).setCell (p := ⟨C, 0, none⟩) (.inl rfl) _).setCell (p := ⟨C, 1, none⟩) (.inl rfl) _).setCell (p := ⟨C, 2, none⟩) (.inl rfl) _).setCell (p := ⟨C, 3, none⟩) (.inl rfl) _).setCell (p := ⟨C, 4, none⟩) (.inl rfl) _
  have e0 : W3.cell? ⟨C, 0, none⟩ = some (.int .i64 2) := by rw [← hW3]; exact setO (by decide) (setO (by decide) (setO (by decide) (setO (by decide) (World.cell?_setCell_same _ _ _ q0))))
  have e1 : W3.cell? ⟨C, 1, none⟩ = some (.int .i64 8) := by rw [← hW3]; exact setO (by decide) (setO (by decide) (setO (by decide) (World.cell?_setCell_same _ _ _ (setO (by decide) q1))))
  have e2 : W3.cell? ⟨C, 2, none⟩ = some (.int .i64 3) := by rw [← hW3]; exact setO (by decide) (setO (by decide) (World.cell?_setCell_same _ _ _ (setO (by decide) (setO (by decide) q2))))
  have e3 : W3.cell? ⟨C, 3, none⟩ = some (.int .i64 1) := by rw [← hW3]; exact setO (by decide) (World.cell?_setCell_same _ _ _ (setO (by decide) (setO (by decide) (setO (by decide) q3))))
  have e4 : W3.cell? ⟨C, 4, none⟩ = some (.int .i64 16) := by rw [← hW3]; exact World.cell?_setCell_same _ _ _ (setO (by decide) (setO (by decide) (setO (by decide) (setO (by decide) q4))))
  clear hW3 q0 q1 q2 q3 q4 r0 r1 r2 r3 r4
  have hC2 : C < w2.heap.size := Nat.lt_of_lt_of_le hCl hs2
  have hC3 : C < W3.heap.size := Nat.lt_of_lt_of_le hC2 hk3.size
  have hF3 := HF2.out.keep hk3 (by have := HC.out; omega) (by have := HC.out; omega)
  have hB3 : Below N w W3 := (HBW.out.trans (HK.out.to_below (B := N) (fun _ _ s => s.elim) (by have := HSW.out; omega))).trans (hk3.to_below (fun k _ e => by have := HC.out; omega) (by have := HC.out; omega))
  obtain ⟨P, hPq⟩ : ∃ P, P = W3.heap.size := ⟨_, rfl⟩
  have HF3 := Lib.hid hF3
  have HB3 := Lib.hid hB3
  clear hk3 hF3 hB3 hs2 hCl hC2 HF2 HBW HK
  go_upto_region 5 with (fail)
  generalize hW4 : World.alloc W3 _ = W4
  rw [← hPq]
  have hb4 : Below W3.heap.size W3 W4 := by rw [← hW4]; exact bs_alloc (Below.refl _ _)
  have p0 : W4.cell? ⟨P, 0, none⟩ = some (.pointer none) := by rw [← hW4, hPq]; exact new_at rfl rfl
  have p1 : W4.cell? ⟨P, 1, none⟩ = some (.pointer none) := by rw [← hW4, hPq]; exact new_at rfl rfl
  have pz : ∀ j, W4.frozen? ⟨P, j, none⟩ = false := fun j => by rw [← hW4, hPq]; exact new_fz rfl
  have hP4 : P < W4.heap.size := by rw [← hW4, hPq]; simp
  have HPQ := Lib.hid hPq
  have HCP := Lib.hid (show C < P by rw [hPq]; exact hC3)
  clear hW4 hPq
  replace e0 := (hb4.cell (p := ⟨C, 0, none⟩) hC3).trans e0
  replace e1 := (hb4.cell (p := ⟨C, 1, none⟩) hC3).trans e1
  replace e2 := (hb4.cell (p := ⟨C, 2, none⟩) hC3).trans e2
  replace e3 := (hb4.cell (p := ⟨C, 3, none⟩) hC3).trans e3
  replace e4 := (hb4.cell (p := ⟨C, 4, none⟩) hC3).trans e4
  have HB4 := Lib.hid hb4
  have hC4 : C < W4.heap.size := Nat.lt_of_lt_of_le hC3 hb4.size
  clear hb4 hC3
  go_wp2_with fail
  refine (CO.out _ _ _ _ _ _).mono ?_
  rintro e w5 ⟨rfl, k5⟩
  go_wp2_with fail
  refine (CR.out _).mono ?_
  intro e w6 hnr
  obtain ⟨R, T, rfl, hrw, hRT, k6⟩ := hnr
  have k56 : Below W4.heap.size W4 w6 := below_then k5 k6
  have x0 := (k56.cell (p := ⟨P, 0, none⟩) hP4).trans p0
  have x1 := (k56.cell (p := ⟨P, 1, none⟩) hP4).trans p1
  have y0 := (k56.frozen (p := ⟨P, 0, none⟩) hP4).trans (pz 0)
  have y1 := (k56.frozen (p := ⟨P, 1, none⟩) hP4).trans (pz 1)
  replace e0 := (k56.cell (p := ⟨C, 0, none⟩) hC4).trans e0
  replace e1 := (k56.cell (p := ⟨C, 1, none⟩) hC4).trans e1
  replace e2 := (k56.cell (p := ⟨C, 2, none⟩) hC4).trans e2
  replace e3 := (k56.cell (p := ⟨C, 3, none⟩) hC4).trans e3
  replace e4 := (k56.cell (p := ⟨C, 4, none⟩) hC4).trans e4
  have hP6 : P < w6.heap.size := Nat.lt_of_lt_of_le hP4 k56.size
  have hC6 : C < w6.heap.size := Nat.lt_of_lt_of_le hC4 k56.size
  have HRW := Lib.hid hrw
  have HRT := Lib.hid (show ∀ j, T j → W4.heap.size ≤ j from fun j t => Nat.le_trans k5.size (hRT j t))
  have HK6 := Lib.hid k56
  have HPL := Lib.hid hP4
  clear p0 p1 pz k5 k6 k56 hrw hRT hP4 hC4
  have HP4 := Lib.hid HPL.out
  go_upto_region 6 with (fail)
  generalize hW7 : World.setCell w6 _ _ = W7
  have hk7 : Keeps (fun j => j = P) w6 W7 := by rw [← hW7]; exact (Keeps.refl (fun j => j = P) w6).setCell (p := ⟨P, 1, none⟩) (.inl rfl) _
  have hPC : ¬ C = P := by have := HCP.out; omega
  replace x1 : W7.cell? ⟨P, 1, none⟩ = some (.pointer (some ⟨R.p, 0, none⟩)) := by rw [← hW7]; exact World.cell?_setCell_same _ _ _ x1
  replace x0 : W7.cell? ⟨P, 0, none⟩ = some (.pointer none) := by rw [← hW7]; exact setO (by decide) x0
  replace y0 : W7.frozen? ⟨P, 0, none⟩ = false := by rw [← hW7]; simpa using y0
  replace y1 : W7.frozen? ⟨P, 1, none⟩ = false := by rw [← hW7]; simpa using y1
  clear hW7
  replace e0 := hk7.cell (p := ⟨C, 0, none⟩) hPC e0
  replace e1 := hk7.cell (p := ⟨C, 1, none⟩) hPC e1
  replace e2 := hk7.cell (p := ⟨C, 2, none⟩) hPC e2
  replace e3 := hk7.cell (p := ⟨C, 3, none⟩) hPC e3
  replace e4 := hk7.cell (p := ⟨C, 4, none⟩) hPC e4
  have hP7 : P < W7.heap.size := Nat.lt_of_lt_of_le hP6 hk7.size
  have HRW7 := Lib.hid (HRW.out.keep hk7 (fun j s e => by have := HRT.out j s; have := HP4.out; omega))
  have HK7 := Lib.hid hk7
  have HPC := Lib.hid hPC
  clear hk7 hP6 hC6 hPC
  go_wp2_with fail
  refine (CW.out _).mono ?_
  rintro e w8 ⟨A, rfl, hwd, k8⟩
  have s47 : W4.heap.size ≤ W7.heap.size := Nat.le_trans HK6.out.size HK7.out.size
  obtain ⟨S, hpw, hST⟩ := pw_made2 (by decide) HRW7.out HRT.out (Below.refl _ _) s47 hwd k8
  replace x0 := (k8.cell (p := ⟨P, 0, none⟩) hP7).trans x0
  replace x1 := (k8.cell (p := ⟨P, 1, none⟩) hP7).trans x1
  replace y0 := (k8.frozen (p := ⟨P, 0, none⟩) hP7).trans y0
  have HPW := Lib.hid hpw
  have HST := Lib.hid hST
  have HK8 := Lib.hid k8
  clear y1 e0 e1 e2 e3 e4 hwd k8 hpw hST hP7 s47
  go_upto_region 7 with (fail)
  generalize hW9 : World.setCell w8 _ _ = W9
  have hk9 : Keeps (fun j => j = P) w8 W9 := by rw [← hW9]; exact (Keeps.refl (fun j => j = P) w8).setCell (p := ⟨P, 0, none⟩) (.inl rfl) _
  replace x0 : W9.cell? ⟨P, 0, none⟩ = some (.pointer (some ⟨A.p, 0, none⟩)) := by rw [← hW9]; exact World.cell?_setCell_same _ _ _ x0
  replace x1 : W9.cell? ⟨P, 1, none⟩ = some (.pointer (some ⟨R.p, 0, none⟩)) := by rw [← hW9]; exact setO (by decide) x1
  clear hW9 y0
  have hP9 : Pw W9 A R V10 S T := HPW.out.keep hk9 (fun j s e => by have := HST.out j (.inl s); have := HP4.out; omega) (fun j s e => by have := HST.out j (.inr s); have := HP4.out; omega)
  have k39 : Keeps (fun j => j = P) W3 W9 := (((Keeps.of_new (S := fun j => j = P) HB4.out).trans (Keeps.of_new HK6.out) (fun _ _ s => s)).trans HK7.out (fun _ _ s => s)).trans ((Keeps.of_new (S := fun j => j = P) HK8.out).trans hk9 (fun _ _ s => s)) (fun _ _ s => s)
  obtain ⟨f5, f6, f7, f8, f9, d0, d1, z0, z1⟩ := HF3.out.keep k39 (by have := HCP.out; have := HC.out; omega) (by have := HCP.out; have := HC.out; omega)
  have hB9 : Below N w W9 := HB3.out.trans (k39.to_below (fun k _ e => by have := HCP.out; have := HC.out; omega) (by have := HB3.out.size; have := HN.out; omega))
  have HP9 := Lib.hid hP9
  have HB9 := Lib.hid hB9
  clear hk9 hP9 k39 hB9 HK6 HK7 HK8 HB3 HB4 HPW HRW HRW7 HF3
  go_wp2_with fail
  refine wp_loop_rounds 1 ?_
  rw [rounds_succ]
  go_wp2_with fail
  refine wp_loop_rounds 1 ?_
  rw [rounds_succ]
  go_wp2_with fail
  refine wp_loop_rounds 1 ?_
  rw [rounds_succ]
  go_wp2_with fail
  refine wp_loop_rounds 1 ?_
  rw [rounds_succ]
  go_wp2_with fail
  have hk10 : ∀ u v, Keeps (fun j => j = N + 1) W9 ((W9.setCell ⟨N + 1, 0, none⟩ u).setCell ⟨N + 1, 1, none⟩ v) := fun u v => ((Keeps.refl (fun j => j = N + 1) W9).setCell (p := ⟨N + 1, 0, none⟩) (.inl rfl) _).setCell (p := ⟨N + 1, 1, none⟩) (.inl rfl) _
  have hCP := HCP.out
  have hC := HC.out
  have hP4 := HP4.out
  have hN := HN.out
  refine bodyPost_ret (v := .agg #[.pointer (some ⟨A.p, 0, none⟩), .pointer (some ⟨R.p, 0, none⟩)]) (by simp [results, Tryz.results5, go_sem, setO, World.cell?_setCell_same, d0, d1]) rfl ⟨A, R, S, T, rfl, ?_, ?_, ?_⟩
  · exact HP9.out.keep (hk10 _ _) (fun j s e => by have := HST.out j (.inl s); omega) (fun j s e => by have := HST.out j (.inr s); omega)
  · intro j s
    have := HST.out j s
    omega
  · have hb := HB9.out.trans ((hk10 (.pointer (some ⟨A.p, 0, none⟩)) (.pointer (some ⟨R.p, 0, none⟩))).to_below (B := N) (fun k _ e => by omega) (by have := HB9.out.size; omega))
    rw [← hN]
    exact hb
end Go.Proofs.YtodppilfpemepaaGreat
