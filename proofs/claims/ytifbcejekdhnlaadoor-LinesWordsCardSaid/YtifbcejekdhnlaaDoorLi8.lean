/- Lines: are commands the same, as the laws ask it. -/
import Derived.Test.YtifbcejekdhnlaaDoorLi5
namespace Go.Proofs.YtifbcejekdhnlaaDoor
open Go.RowKit Go.Maps
set_option linter.unusedVariables false

set_option maxHeartbeats 4000000 in
set_option maxRecDepth 100000 in
theorem lawsame29 (e : Cmd) (kv1 kv2 : Value) (w : World) (h1 : KyR w kv1 e.keys) (h2 : KyR w kv2 e.keys) :
    Calls Tryd.prog 16 #[.agg (cmdC e kv1).toArray, .agg (cmdC e kv2).toArray] w fun r w' => r = .returned (.bool true) ∧ Below w.heap.size w w' := by
  obtain ⟨A1, c1, rfl, hc1, hm1, r1⟩ := h1.form
  obtain ⟨A2, c2, rfl, hc2, hm2, r2⟩ := h2.form
  unfold maxLen at hm1 hm2
  obtain ⟨vb, ks, cv, ky, vl, fl, ex, id, by_, bt, qt⟩ := e
  simp only at hc1 hc2 r1 r2
  obtain ⟨n, hnn⟩ : ∃ n, n = ks.length := ⟨_, rfl⟩
  simp only [cmdC]
  rw [← hnn] at hc1 hc2 ⊢
  have HN := Lib.hid hnn
  have R1 := Lib.hid r1
  have R2 := Lib.hid r2
  clear r1 r2 hnn h1 h2
  go_enter Tryd.func16, Tryd.ntmps16
  go_wp2_with fail
  go_loopw [5] (fun i wr => ∃ k : Nat, k ≤ n ∧ i = .int .i64 k ∧ Below w.heap.size w wr ∧ wr.cell? ⟨w.heap.size, 1, none⟩ = some (.slice A1 n c1) ∧ wr.cell? ⟨w.heap.size + 1, 1, none⟩ = some (.slice A2 n c2)) (fun i _ => n - (intOf i).toNat)
  case atStart => exact ⟨0, by omega, rfl, ((Below.refl _ _).alloc (Nat.le_refl _) _).alloc (by simp) _, by simp [World.cell?_alloc_lt], by simp⟩
  case round =>
    obtain ⟨k, hk, rfl, hnx, p1, p2⟩ := hrel
    by_cases hlt : k < n
    · obtain ⟨x, hx⟩ : ∃ x, ks[k]? = some x := ⟨_, List.getElem?_eq_getElem (by have := HN.out; omega)⟩
      obtain ⟨g1, rfl, l1, a1⟩ := R1.out k x hx
      obtain ⟨g2, rfl, l2, a2⟩ := R2.out k x hx
      have b1 := (hnx.cell (p := ⟨g1, k, none⟩) l1).trans a1
      have b2 := (hnx.cell (p := ⟨g2, k, none⟩) l2).trans a2
      clear a1 a2 l1 l2 hx
      go_wp2_with fail
      go_quiet (fail)
      go_wp2
      go_roundw
      case rel => exact ⟨k + 1, by omega, by go_num, belowNf hnx _, by simpa using p1, by simpa using p2⟩
      case measure => simp [intOf]; omega
    · have hd : decide (k < n) = false := decide_eq_false hlt
      go_wp2_with fail
      go_ret
      exact ⟨rfl, hnx⟩
end Go.Proofs.YtifbcejekdhnlaaDoor
