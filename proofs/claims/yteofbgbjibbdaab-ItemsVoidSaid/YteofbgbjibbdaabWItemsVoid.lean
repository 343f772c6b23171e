/- The law ItemsVoid. -/
import Derived.Test.YteofbgbjibbdaabArL
import Derived.Deep.Cut
import Derived.Deep.CutBlock
namespace Go.Proofs.Yteofbgbjibbdaab
open Go.RowKit
set_option linter.unusedVariables false
theorem six_keeps (w : World) (b o : Nat) (u0 u1 u2 u3 u4 u5 : Value) : Keeps (fun k => k = b) w (six w b o u0 u1 u2 u3 u4 u5) := by
  have st : ∀ (W : World) (o : Nat) (v : Value), Keeps (fun k => k = b) w W → Keeps (fun k => k = b) w (W.setCell ⟨b, o, none⟩ v) := fun W o v h => Keeps.setCell (S := fun k => k = b) h (p := ⟨b, o, none⟩) (.inl rfl) v
  exact st _ _ _ (st _ _ _ (st _ _ _ (st _ _ _ (st _ _ _ (st _ _ _ (Keeps.refl _ w))))))
set_option maxRecDepth 100000 in
set_option maxHeartbeats 2000000 in
theorem walk_ItemsVoid (a0_0 : ByteArray) (a0_1 : ByteArray) (a0_2 : Int) (a0_3 : Int) (a0_4 : Int) (a0_5 : Int) (a1 : Int) (w : World) (w0_0 : a0_0.size ≤ maxLen) (w0_1 : a0_1.size ≤ maxLen) (w0_2 : (Lit.int .u32 a0_2).wf = true) (w0_3 : (Lit.int .u64 a0_3).wf = true) (w0_4 : (Lit.int .i64 a0_4).wf = true) (w0_5 : (Lit.int .i64 a0_5).wf = true) (w1 : (Lit.int .i64 a1).wf = true) :
    Calls Try.prog 7 #[.agg #[.string a0_0, .string a0_1, .int .u32 a0_2, .int .u64 a0_3, .int .i64 a0_4, .int .i64 a0_5], .int .i64 a1] w fun e w' => e = .returned (.bool true) ∧ Below w.heap.size w w' := by
  clear w0_0 w0_1 w0_2 w0_3 w0_4 w0_5 w1
  go_enter Try.func7, Try.ntmps7
  go_wp2_with fail
  generalize hW : w.alloc _ = W
  have hb : Below w.heap.size w W := by rw [← hW]; exact (Below.refl _ _).alloc (Nat.le_refl _) _
  have lt : w.heap.size < W.heap.size := by rw [← hW]; simp
  have c0 : W.cell? ⟨w.heap.size, 0, none⟩ = some (.string a0_0) := by rw [← hW]; simp
  have c1 : W.cell? ⟨w.heap.size, 1, none⟩ = some (.string a0_1) := by rw [← hW]; simp
  have c2 : W.cell? ⟨w.heap.size, 2, none⟩ = some (.int .u32 a0_2) := by rw [← hW]; simp
  have c3 : W.cell? ⟨w.heap.size, 3, none⟩ = some (.int .u64 a0_3) := by rw [← hW]; simp
  have c4 : W.cell? ⟨w.heap.size, 4, none⟩ = some (.int .i64 a0_4) := by rw [← hW]; simp
  have c5 : W.cell? ⟨w.heap.size, 5, none⟩ = some (.int .i64 a0_5) := by rw [← hW]; simp
  clear hW
  go_wp2_with fail
  refine (iadd_nil _ _ _ _ _ _ _).mono ?_
  rintro e w2 ⟨rfl, k2⟩
  go_wp2_with fail
  refine (iat_nil _ _).mono ?_
  rintro e w3 ⟨rfl, k3⟩
  have b3 := below_then k2 k3
  clear k2 k3
  go_wp2_with (go_at_call 32; refine (icount_nil _).mono ?_; rintro e w4 ⟨rfl, rfl⟩)
  obtain ⟨ny, hny⟩ : ∃ ny, ny = w3.heap.size := ⟨_, rfl⟩
  obtain ⟨nv, hnv⟩ : ∃ nv, nv = ny + 1 := ⟨_, rfl⟩
  obtain ⟨Y, hY⟩ : ∃ Y, Y = w3.alloc (.cells #[.string ⟨#[]⟩, .string ⟨#[]⟩, .int .u32 0, .int .u64 0, .int .i64 0, .int .i64 0] 65) := ⟨_, rfl⟩
  have hq := ars_made Y 71
  rw [show Y.heap.size = nv by rw [hY, hnv, hny]; simp] at hq
  rw [← hY, ← hny, ← hnv]
  obtain ⟨V, hV⟩ : ∃ V, V = Y.alloc (.cells #[.slice none 0 0, .int .i64 0] 71) := ⟨_, rfl⟩
  rw [← hV] at hq ⊢
  have sY : Y.heap.size = ny + 1 := by rw [hY, hny]; simp
  have sV : V.heap.size = ny + 2 := by rw [hV]; simp [sY]
  have kV : Below w3.heap.size w3 V := by rw [hV, hY]; exact ((Below.refl _ _).alloc (Nat.le_refl _) _).alloc (by simp) _
  have yc : ∀ i u, (#[.string ⟨#[]⟩, .string ⟨#[]⟩, .int .u32 0, .int .u64 0, .int .i64 0, .int .i64 0] : Array Value)[i]? = some u → V.cell? ⟨ny, i, none⟩ = some u := by
    intro i u hu
    have e1 : Y.cell? ⟨ny, i, none⟩ = some u := by
      have hh : Y.heap[ny]? = some (.cells #[.string ⟨#[]⟩, .string ⟨#[]⟩, .int .u32 0, .int .u64 0, .int .i64 0, .int .i64 0] 65) := by rw [hY, hny]; exact (MapKept.heap_alloc w3 _).1
      unfold World.cell?
      rw [hh]
      simpa using hu
    rw [hV]
    exact (World.cell?_alloc_lt Y _ ⟨ny, i, none⟩ (by show ny < _; omega)).trans e1
  have yf : ∀ i, V.frozen? ⟨ny, i, none⟩ = false := by
    intro i
    rw [hV]
    exact ((Keeps.refl (fun _ => False) Y).alloc _).frozen (p := ⟨ny, i, none⟩) (by simp) (by show ny < _; omega) (by rw [hY, hny]; simp)
  have lW : W.heap.size ≤ ny := by have := b3.size; omega
  have b4 : Below W.heap.size W V := b3.trans (kV.mono (by omega))
  have lty : ny < V.heap.size := by omega
  have HNV := Lib.hid (show nv = ny + 1 by omega)
  have HQ := Lib.hid hq
  have YC := Lib.hid yc
  have YF := Lib.hid yf
  clear hY hV sY kV yc yf hny hnv hq b3
  have C4 := Lib.hid (iat_no HQ.out a1 (by simp; omega))
  refine (C4.out).mono ?_
  rintro e w4 ⟨rfl, k4⟩
  have y0 : w4.cell? ⟨ny, 0, none⟩ = some (.string ⟨#[]⟩) := (k4.cell (p := ⟨ny, 0, none⟩) lty).trans (YC.out 0 _ rfl)
  have y1 : w4.cell? ⟨ny, 1, none⟩ = some (.string ⟨#[]⟩) := (k4.cell (p := ⟨ny, 1, none⟩) lty).trans (YC.out 1 _ rfl)
  have y2 : w4.cell? ⟨ny, 2, none⟩ = some (.int .u32 0) := (k4.cell (p := ⟨ny, 2, none⟩) lty).trans (YC.out 2 _ rfl)
  have y3 : w4.cell? ⟨ny, 3, none⟩ = some (.int .u64 0) := (k4.cell (p := ⟨ny, 3, none⟩) lty).trans (YC.out 3 _ rfl)
  have y4 : w4.cell? ⟨ny, 4, none⟩ = some (.int .i64 0) := (k4.cell (p := ⟨ny, 4, none⟩) lty).trans (YC.out 4 _ rfl)
  have y5 : w4.cell? ⟨ny, 5, none⟩ = some (.int .i64 0) := (k4.cell (p := ⟨ny, 5, none⟩) lty).trans (YC.out 5 _ rfl)
  have f0 := (k4.frozen (p := ⟨ny, 0, none⟩) lty).trans (YF.out 0)
  have f1 := (k4.frozen (p := ⟨ny, 1, none⟩) lty).trans (YF.out 1)
  have f2 := (k4.frozen (p := ⟨ny, 2, none⟩) lty).trans (YF.out 2)
  have f3 := (k4.frozen (p := ⟨ny, 3, none⟩) lty).trans (YF.out 3)
  have f4 := (k4.frozen (p := ⟨ny, 4, none⟩) lty).trans (YF.out 4)
  have f5 := (k4.frozen (p := ⟨ny, 5, none⟩) lty).trans (YF.out 5)
  go_upto_region 8 with (fail)
  have hs := six_is w4 ny 0 (.string ⟨#[]⟩) (.string ⟨#[]⟩) (.int .u32 0) (.int .u64 0) (.int .i64 0) (.int .i64 0)
  have hsk := six_keeps w4 ny 0 (.string ⟨#[]⟩) (.string ⟨#[]⟩) (.int .u32 0) (.int .u64 0) (.int .i64 0) (.int .i64 0)
  unfold six at hs hsk
  rw [Nat.zero_add, Nat.zero_add, Nat.zero_add, Nat.zero_add, Nat.zero_add] at hs hsk
  have htt : w4.there ny 0 6 := by
    intro j hj
    rcases j with _ | _ | _ | _ | _ | _ | j
    · exact ⟨by rw [y0]; rfl, f0⟩
    · exact ⟨by rw [y1]; rfl, f1⟩
    · exact ⟨by rw [y2]; rfl, f2⟩
    · exact ⟨by rw [y3]; rfl, f3⟩
    · exact ⟨by rw [y4]; rfl, f4⟩
    · exact ⟨by rw [y5]; rfl, f5⟩
    · omega
  have hra := World.rangeAt_setCells_same w4 ny 0 [.string ⟨#[]⟩, .string ⟨#[]⟩, .int .u32 0, .int .u64 0, .int .i64 0, .int .i64 0] htt
  rw [← hs] at hra
  clear y0 y1 y2 y3 y4 y5 f0 f1 f2 f3 f4 f5 htt hs
  generalize hW5 : World.setCell _ _ _ = W5 at hra hsk ⊢
  clear hW5
  have y0 : W5.cell? ⟨ny, 0, none⟩ = some (.string ⟨#[]⟩) := hra 0 _ rfl
  have y1 : W5.cell? ⟨ny, 1, none⟩ = some (.string ⟨#[]⟩) := hra 1 _ rfl
  have y2 : W5.cell? ⟨ny, 2, none⟩ = some (.int .u32 0) := hra 2 _ rfl
  have y3 : W5.cell? ⟨ny, 3, none⟩ = some (.int .u64 0) := hra 3 _ rfl
  have y4 : W5.cell? ⟨ny, 4, none⟩ = some (.int .i64 0) := hra 4 _ rfl
  have y5 : W5.cell? ⟨ny, 5, none⟩ = some (.int .i64 0) := hra 5 _ rfl
  have s5 : V.heap.size ≤ W5.heap.size := Nat.le_trans k4.size hsk.size
  have b5 : Below W.heap.size W W5 := (b4.trans (k4.mono (by omega))).trans (hsk.to_below (fun k _ e => by omega) (by have := k4.size; omega))
  have q5 : Ars W5 nv [] (fun k => k = nv) := (HQ.out.new k4).keep hsk (fun k e1 e2 => by have := HNV.out; omega)
  have d0 := (b5.cell (p := ⟨w.heap.size, 0, none⟩) lt).trans c0
  have d1 := (b5.cell (p := ⟨w.heap.size, 1, none⟩) lt).trans c1
  have d2 := (b5.cell (p := ⟨w.heap.size, 2, none⟩) lt).trans c2
  have d3 := (b5.cell (p := ⟨w.heap.size, 3, none⟩) lt).trans c3
  have d4 := (b5.cell (p := ⟨w.heap.size, 4, none⟩) lt).trans c4
  have d5 := (b5.cell (p := ⟨w.heap.size, 5, none⟩) lt).trans c5
  have C5 := Lib.hid (icount_any q5 (n := 0) rfl)
  have C6 := Lib.hid (iadd_any q5 (by simp) a0_0 a0_1 a0_2 a0_3 a0_4 a0_5 (n := 1) rfl)
  clear hra hsk k4 HQ YC YF C4 b4 q5
  go_wp2_with (go_at_call 32; ((with_reducible refine C5.out.mono ?_); rintro e w6 ⟨rfl, rfl⟩))
  refine (C6.out).mono ?_
  rintro e w7 ⟨rfl, S7, t7, q7⟩
  obtain ⟨b7, s7⟩ := t7.to_below (B := nv) (fun k e => by omega) (by have := HNV.out; omega)
  have s57 := b7.size
  have e0 := (b7.cell (p := ⟨w.heap.size, 0, none⟩) (by have := HNV.out; show w.heap.size < nv; omega)).trans d0
  have e1 := (b7.cell (p := ⟨w.heap.size, 1, none⟩) (by have := HNV.out; show w.heap.size < nv; omega)).trans d1
  have e2 := (b7.cell (p := ⟨w.heap.size, 2, none⟩) (by have := HNV.out; show w.heap.size < nv; omega)).trans d2
  have e3 := (b7.cell (p := ⟨w.heap.size, 3, none⟩) (by have := HNV.out; show w.heap.size < nv; omega)).trans d3
  have e4 := (b7.cell (p := ⟨w.heap.size, 4, none⟩) (by have := HNV.out; show w.heap.size < nv; omega)).trans d4
  have e5 := (b7.cell (p := ⟨w.heap.size, 5, none⟩) (by have := HNV.out; show w.heap.size < nv; omega)).trans d5
  replace b7 := b5.trans (b7.mono (by have := HNV.out; omega))
  have C7 := Lib.hid (iat_any q7 0 (by omega) rfl (r := 1) rfl)
  have HQ7 := Lib.hid q7
  have w7 : w.heap.size < w7.heap.size := World.block_lt_of_cell? _ _ e0
  clear C5 C6 d0 d1 d2 d3 d4 d5 y0 y1 y2 y3 y4 y5 t7 q7 s7 b5 c0 c1 c2 c3 c4 c5
  go_wp2_with fail
  refine (C7.out).mono ?_
  rintro e w8 ⟨rfl, k8⟩
  have q8 := HQ7.out.new k8
  have f0 := (k8.cell (p := ⟨w.heap.size, 0, none⟩) w7).trans e0
  have f1 := (k8.cell (p := ⟨w.heap.size, 1, none⟩) w7).trans e1
  have f2 := (k8.cell (p := ⟨w.heap.size, 2, none⟩) w7).trans e2
  have f3 := (k8.cell (p := ⟨w.heap.size, 3, none⟩) w7).trans e3
  have f4 := (k8.cell (p := ⟨w.heap.size, 4, none⟩) w7).trans e4
  have f5 := (k8.cell (p := ⟨w.heap.size, 5, none⟩) w7).trans e5
  replace b7 := b7.trans (k8.mono (by have := b7.size; omega))
  have w8l : w.heap.size < w8.heap.size := World.block_lt_of_cell? _ _ f0
  have up := fun (o : Obj) (i : Nat) => World.cell?_alloc_lt w8 o ⟨w.heap.size, i, none⟩ w8l
  have h0 := fun o => (up o 0).trans f0
  have h1 := fun o => (up o 1).trans f1
  have h2 := fun o => (up o 2).trans f2
  have h3 := fun o => (up o 3).trans f3
  have h4 := fun o => (up o 4).trans f4
  have h5 := fun o => (up o 5).trans f5
  have C8 := fun o => Lib.hid (icount_any (q8.new ((Below.refl _ _).alloc (Nat.le_refl _) o)) (n := 1) rfl)
  clear up q8 C7 HQ7 k8 e0 e1 e2 e3 e4 e5 f0 f1 f2 f3 f4 f5
  go_wp2_with (first
    | (go_at_call 32; ((with_reducible refine (C8 _).out.mono ?_); rintro e w9 ⟨rfl, rfl⟩))
    | (go_at_call 28; refine (lives06 _).mono ?_; rintro e w10 ⟨rfl, k10⟩))
  go_ret
  exact ⟨rfl, below_then hb (b7.trans ((below_then ((Below.refl _ _).alloc (Nat.le_refl _) _) k10).mono b7.size))⟩
end Go.Proofs.Yteofbgbjibbdaab
