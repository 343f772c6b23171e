/- Lines: the document's commands beside ours. -/
import Derived.Test.YtifbcejekdhnlaaDoorLi5
import Derived.Test.YtifbcejekdhnlaaDoorGLr
namespace Go.Proofs.YtifbcejekdhnlaaDoor
open Go.RowKit Go.Maps
set_option linter.unusedVariables false

set_option maxHeartbeats 4000000 in
set_option maxRecDepth 100000 in
theorem rsame29 (e : Cmd) (kv1 kv2 : Value) (w : World) (h1 : KyR w kv1 e.keys) (h2 : KyR w kv2 e.keys) :
    Calls Tryd.prog 43 #[.agg (cmdC e kv1).toArray, .agg (cmdC e kv2).toArray] w fun r w' => r = .returned (.bool true) ∧ Below w.heap.size w w' := by
  obtain ⟨A1, c1, rfl, hc1, hm1, r1⟩ := h1.form
  obtain ⟨A2, c2, rfl, hc2, hm2, r2⟩ := h2.form
  unfold maxLen at hm1 hm2
  obtain ⟨vb, ks, cv, ky, vl, fl, ex, id, by_, bt, qt⟩ := e
  simp only at hc1 hc2 r1 r2
  obtain ⟨n, hnn⟩ : ∃ n, n = ks.length := ⟨_, rfl⟩
  simp only [cmdC]
  rw [← hnn] at hc1 hc2 ⊢
  have HN := Lib.hid hnn
  have R1 := Lib.hid r1
  have R2 := Lib.hid r2
  clear r1 r2 hnn h1 h2
  go_enter Tryd.func43, Tryd.ntmps43
  go_wp2_with fail
  go_loopw [5] (fun i wr => ∃ k : Nat, k ≤ n ∧ i = .int .i64 k ∧ Below w.heap.size w wr ∧ wr.cell? ⟨w.heap.size, 1, none⟩ = some (.slice A1 n c1) ∧ wr.cell? ⟨w.heap.size + 1, 1, none⟩ = some (.slice A2 n c2)) (fun i _ => n - (intOf i).toNat)
  case atStart => exact ⟨0, by omega, rfl, ((Below.refl _ _).alloc (Nat.le_refl _) _).alloc (by simp) _, by simp [World.cell?_alloc_lt], by simp⟩
  case round =>
    obtain ⟨k, hk, rfl, hnx, p1, p2⟩ := hrel
    by_cases hlt : k < n
    · obtain ⟨x, hx⟩ : ∃ x, ks[k]? = some x := ⟨_, List.getElem?_eq_getElem (by have := HN.out; omega)⟩
      obtain ⟨g1, rfl, l1, a1⟩ := R1.out k x hx
      obtain ⟨g2, rfl, l2, a2⟩ := R2.out k x hx
      have b1 := (hnx.cell (p := ⟨g1, k, none⟩) l1).trans a1
      have b2 := (hnx.cell (p := ⟨g2, k, none⟩) l2).trans a2
      clear a1 a2 l1 l2 hx
      go_wp2_with fail
      go_quiet (fail)
      go_wp2
      go_roundw
      case rel => exact ⟨k + 1, by omega, by go_num, belowNf hnx _, by simpa using p1, by simpa using p2⟩
      case measure => simp [intOf]; omega
    · have hd : decide (k < n) = false := decide_eq_false hlt
      go_wp2_with fail
      go_ret
      exact ⟨rfl, hnx⟩
set_option maxHeartbeats 4000000 in
set_option maxRecDepth 100000 in
theorem other29 (c : Cmd) (kv : Value) (w : World) (h : KyR w kv c.keys) :
    Calls Tryd.prog 15 #[.agg (cmdC c kv).toArray] w fun r w' => r = .returned (.agg (cmdC c kv).toArray) ∧ Below w.heap.size w w' := by
  obtain ⟨A, k, rfl, -⟩ := h.form
  obtain ⟨vb, ks, cv, ky, vl, fl, ex, id, by_, bt, qt⟩ := c
  simp only [cmdC]
  clear h
  go_enter Tryd.func15, Tryd.ntmps15
  go_wp2_with fail
  refine bodyPost_ret (v := .agg #[.int .u8 vb, .slice A ks.length k, .int .u8 cv, .string ⟨ky.toArray⟩, .string ⟨vl.toArray⟩, .int .u32 fl, .int .i64 ex, .int .u64 id, .int .u64 by_, .int .i64 bt, .bool qt]) (by simp [results, Tryd.results15, go_sem]) rfl ?_
  exact ⟨rfl, ((Below.refl _ _).alloc (Nat.le_refl _) _).alloc (by simp) _⟩
set_option maxHeartbeats 4000000 in
set_option maxRecDepth 100000 in
/-- Equal commands are the same. -/
theorem lsame29 (c : Cmd) (kv1 kv2 : Value) (w : World) (h1 : KyR w kv1 c.keys) (h2 : KyR w kv2 c.keys) :
    Calls Tryd.prog 12 #[.agg (cmdC c kv1).toArray, .agg (cmdC c kv2).toArray] w fun r w' => r = .returned (.bool true) ∧ Below w.heap.size w w' := by
  obtain ⟨A1, k1, rfl, -⟩ := h1.form
  obtain ⟨A2, k2, rfl, -⟩ := h2.form
  obtain ⟨W2, hW2⟩ : ∃ W2, W2 = (w.alloc (.cells (cmdC c (.slice A1 c.keys.length k1)).toArray 30)).alloc (.cells (cmdC c (.slice A2 c.keys.length k2)).toArray 34) := ⟨_, rfl⟩
  have hb : Below w.heap.size w W2 := by rw [hW2]; exact ((Below.refl _ _).alloc (Nat.le_refl _) _).alloc (by simp) _
  have ho : ∀ W, Below W2.heap.size W2 W → Calls Tryd.prog 15 #[.agg (cmdC c (.slice A1 c.keys.length k1)).toArray] W fun r w' => r = .returned (.agg (cmdC c (.slice A1 c.keys.length k1)).toArray) ∧ Below W.heap.size W w' := fun W hW => other29 c _ W ((h1.on hb).on hW)
  have hs : ∀ W, Below W2.heap.size W2 W → Calls Tryd.prog 43 #[.agg (cmdC c (.slice A1 c.keys.length k1)).toArray, .agg (cmdC c (.slice A2 c.keys.length k2)).toArray] W fun r w' => r = .returned (.bool true) ∧ Below W.heap.size W w' := fun W hW => rsame29 c _ _ W ((h1.on hb).on hW) ((h2.on hb).on hW)
  have HB := Lib.hid hb
  have HO := Lib.hid ho
  have HS := Lib.hid hs
  have hC1 : Cb W2 w.heap.size (cmdC c (.slice A1 c.keys.length k1)) := by rw [hW2]; exact (cb_new rfl).new ((Below.refl _ _).alloc (Nat.le_refl _) _)
  have hC2 : Cb W2 (w.heap.size + 1) (cmdC c (.slice A2 c.keys.length k2)) := by rw [hW2]; have := cb_new (W := w.alloc (.cells (cmdC c (.slice A1 c.keys.length k1)).toArray 30)) (C := (cmdC c (.slice A2 c.keys.length k2)).toArray) (T := 34) (L := cmdC c (.slice A2 c.keys.length k2)) rfl; rwa [World.size_alloc] at this
  obtain ⟨vb, ks, cv, ky, vl, fl, ex, id, by_, bt, qt⟩ := c
  simp only [cmdC] at hW2 HO HS ⊢
  have hcells : ∀ X, Below W2.heap.size W2 X → (X.cell? ⟨w.heap.size, 0, none⟩ = some (.int .u8 vb) ∧ X.cell? ⟨w.heap.size, 1, none⟩ = some (.slice A1 ks.length k1) ∧ X.cell? ⟨w.heap.size, 2, none⟩ = some (.int .u8 cv) ∧ X.cell? ⟨w.heap.size, 3, none⟩ = some (.string ⟨ky.toArray⟩) ∧ X.cell? ⟨w.heap.size, 4, none⟩ = some (.string ⟨vl.toArray⟩) ∧ X.cell? ⟨w.heap.size, 5, none⟩ = some (.int .u32 fl) ∧ X.cell? ⟨w.heap.size, 6, none⟩ = some (.int .i64 ex) ∧ X.cell? ⟨w.heap.size, 7, none⟩ = some (.int .u64 id) ∧ X.cell? ⟨w.heap.size, 8, none⟩ = some (.int .u64 by_) ∧ X.cell? ⟨w.heap.size, 9, none⟩ = some (.int .i64 bt) ∧ X.cell? ⟨w.heap.size, 10, none⟩ = some (.bool qt) ∧ X.cell? ⟨w.heap.size + 1, 0, none⟩ = some (.int .u8 vb) ∧ X.cell? ⟨w.heap.size + 1, 1, none⟩ = some (.slice A2 ks.length k2) ∧ X.cell? ⟨w.heap.size + 1, 2, none⟩ = some (.int .u8 cv) ∧ X.cell? ⟨w.heap.size + 1, 3, none⟩ = some (.string ⟨ky.toArray⟩) ∧ X.cell? ⟨w.heap.size + 1, 4, none⟩ = some (.string ⟨vl.toArray⟩) ∧ X.cell? ⟨w.heap.size + 1, 5, none⟩ = some (.int .u32 fl) ∧ X.cell? ⟨w.heap.size + 1, 6, none⟩ = some (.int .i64 ex) ∧ X.cell? ⟨w.heap.size + 1, 7, none⟩ = some (.int .u64 id) ∧ X.cell? ⟨w.heap.size + 1, 8, none⟩ = some (.int .u64 by_) ∧ X.cell? ⟨w.heap.size + 1, 9, none⟩ = some (.int .i64 bt) ∧ X.cell? ⟨w.heap.size + 1, 10, none⟩ = some (.bool qt)) := fun X hX => by
    obtain ⟨x0, x1, x2, x3, x4, x5, x6, x7, x8, x9, x10⟩ := cb_cells (hC1.new hX)
    obtain ⟨y0, y1, y2, y3, y4, y5, y6, y7, y8, y9, y10⟩ := cb_cells (hC2.new hX)
    exact ⟨x0, x1, x2, x3, x4, x5, x6, x7, x8, x9, x10, y0, y1, y2, y3, y4, y5, y6, y7, y8, y9, y10⟩
  have HCE := Lib.hid hcells
  clear ho hs hb h1 h2 hC1 hC2 hcells
  go_enter Tryd.func12, Tryd.ntmps12
  go_upto_region 1 with fail
  rw [← hW2]
  clear hW2
  have hb2 : Below W2.heap.size W2 W2.drew := (Below.refl _ _).drew
  have hd := HCE.out _ hb2
  go_region_held3 (fun X => X.cell? ⟨w.heap.size, 0, none⟩ = some (.int .u8 vb) ∧ X.cell? ⟨w.heap.size, 1, none⟩ = some (.slice A1 ks.length k1) ∧ X.cell? ⟨w.heap.size, 2, none⟩ = some (.int .u8 cv) ∧ X.cell? ⟨w.heap.size, 3, none⟩ = some (.string ⟨ky.toArray⟩) ∧ X.cell? ⟨w.heap.size, 4, none⟩ = some (.string ⟨vl.toArray⟩) ∧ X.cell? ⟨w.heap.size, 5, none⟩ = some (.int .u32 fl) ∧ X.cell? ⟨w.heap.size, 6, none⟩ = some (.int .i64 ex) ∧ X.cell? ⟨w.heap.size, 7, none⟩ = some (.int .u64 id) ∧ X.cell? ⟨w.heap.size, 8, none⟩ = some (.int .u64 by_) ∧ X.cell? ⟨w.heap.size, 9, none⟩ = some (.int .i64 bt) ∧ X.cell? ⟨w.heap.size, 10, none⟩ = some (.bool qt) ∧ X.cell? ⟨w.heap.size + 1, 0, none⟩ = some (.int .u8 vb) ∧ X.cell? ⟨w.heap.size + 1, 1, none⟩ = some (.slice A2 ks.length k2) ∧ X.cell? ⟨w.heap.size + 1, 2, none⟩ = some (.int .u8 cv) ∧ X.cell? ⟨w.heap.size + 1, 3, none⟩ = some (.string ⟨ky.toArray⟩) ∧ X.cell? ⟨w.heap.size + 1, 4, none⟩ = some (.string ⟨vl.toArray⟩) ∧ X.cell? ⟨w.heap.size + 1, 5, none⟩ = some (.int .u32 fl) ∧ X.cell? ⟨w.heap.size + 1, 6, none⟩ = some (.int .i64 ex) ∧ X.cell? ⟨w.heap.size + 1, 7, none⟩ = some (.int .u64 id) ∧ X.cell? ⟨w.heap.size + 1, 8, none⟩ = some (.int .u64 by_) ∧ X.cell? ⟨w.heap.size + 1, 9, none⟩ = some (.int .i64 bt) ∧ X.cell? ⟨w.heap.size + 1, 10, none⟩ = some (.bool qt))
    (first | exact hd | exact he)
    (first
      | (go_at_call 15; refine (HO.out _ hb2).mono ?_; rintro e W3 ⟨rfl, hb3⟩; have hb23 := hb2.trans (hb3.mono hb2.size); have he := HCE.out _ hb23)
      | (go_at_call 43; refine (HS.out _ hb23).mono ?_; rintro e W4 ⟨rfl, hb4⟩; have he := HCE.out _ (hb23.trans (hb4.mono hb23.size))))
  all_goals
    go_wp2_with fail
    refine bodyPost_ret (v := .bool true) (by simp [results, Tryd.results12, go_sem]) rfl ?_
    exact ⟨rfl, HB.out.trans ((hb23.trans (hb4.mono hb23.size)).mono HB.out.size)⟩
end Go.Proofs.YtifbcejekdhnlaaDoor
