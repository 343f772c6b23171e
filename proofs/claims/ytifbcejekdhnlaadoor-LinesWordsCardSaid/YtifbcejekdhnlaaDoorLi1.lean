/- Lines: are keys the same, are commands. -/
import Derived.Test.YtifbcejekdhnlaaDoorGFy
import Derived.BigRegion
import Derived.Deep.RegionHeld
namespace Go.Proofs.YtifbcejekdhnlaaDoor
open Go.RowKit Go.Maps
set_option linter.unusedVariables false

set_option maxHeartbeats 2000000 in
set_option maxRecDepth 100000 in
theorem equalw (l : List (List UInt8)) (kv1 kv2 : Value) (w : World) (h1 : KyR w kv1 l) (h2 : KyR w kv2 l) :
    Calls Tryd.prog 72 #[kv1, kv2] w fun r w' => r = .returned (.bool true) ∧ Below w.heap.size w w' := by
  obtain ⟨A1, c1, rfl, hc1, hm1, r1⟩ := h1.form
  obtain ⟨A2, c2, rfl, hc2, hm2, r2⟩ := h2.form
  unfold maxLen at hm1 hm2
  obtain ⟨n, hnn⟩ : ∃ n, n = l.length := ⟨_, rfl⟩
  rw [← hnn] at hc1 hc2 ⊢
  have HN := Lib.hid hnn
  have R1 := Lib.hid r1
  have R2 := Lib.hid r2
  clear r1 r2 hnn h1 h2
  go_enter Tryd.func72, Tryd.ntmps72
  go_wp2_with fail
  go_loopw [13] (fun i wr => ∃ k : Nat, k ≤ n ∧ i = .int .i64 k ∧ Below w.heap.size w wr) (fun i _ => n - (intOf i).toNat)
  case atStart => exact ⟨0, by omega, rfl, Below.refl _ _⟩
  case round =>
    obtain ⟨k, hk, rfl, hnx⟩ := hrel
    by_cases hlt : k < n
    · obtain ⟨x, hx⟩ : ∃ x, l[k]? = some x := ⟨_, List.getElem?_eq_getElem (by have := HN.out; omega)⟩
      obtain ⟨g1, rfl, l1, a1⟩ := R1.out k x hx
      obtain ⟨g2, rfl, l2, a2⟩ := R2.out k x hx
      have b1 := (hnx.cell (p := ⟨g1, k, none⟩) l1).trans a1
      have b2 := (hnx.cell (p := ⟨g2, k, none⟩) l2).trans a2
      clear a1 a2 l1 l2 hx
      go_wp2_with fail
      go_quiet (fail)
      go_wp2
      go_roundw
      case rel => exact ⟨k + 1, by omega, by go_num, belowNf hnx _⟩
      case measure => simp [intOf]; omega
    · have hd : decide ((k : Int) < (n : Int)) = false := decide_eq_false (by omega)
      go_wp2_with fail
      go_ret
      exact ⟨rfl, hnx⟩
set_option maxHeartbeats 4000000 in
set_option maxRecDepth 100000 in
theorem samel (c : Cmd) (kv1 kv2 : Value) (w : World) (h1 : KyR w kv1 c.keys) (h2 : KyR w kv2 c.keys) :
    Calls Tryd.prog 45 #[.agg (cmdC c kv1).toArray, .agg (cmdC c kv2).toArray] w fun r w' => r = .returned (.bool true) ∧ Below w.heap.size w w' := by
  obtain ⟨vb, ks, cv, ky, vl, fl, ex, id, by_, bt, qt⟩ := c
  simp only at h1 h2
  have one1 := h1.form
  obtain ⟨A1, c1, rfl, -⟩ := one1
  have one2 := h2.form
  obtain ⟨A2, c2, rfl, -⟩ := one2
  simp only [cmdC]
  have hb : ∀ (C D : Array Value) (T T' : TypeId), Below w.heap.size w ((w.alloc (.cells C T)).alloc (.cells D T')) := fun C D T T' => ((Below.refl _ _).alloc (Nat.le_refl _) _).alloc (by simp) _
  have HEQ := Lib.hid (fun C D T T' => equalw ks _ _ _ (h1.on (hb C D T T')) (h2.on (hb C D T T')))
  have HB := Lib.hid hb
  clear h1 h2 hb
  have p1 := fun (x : Value) => x
  go_enter Tryd.func45, Tryd.ntmps45
  go_wp2_with fail
  refine (HEQ.out _ _ _ _).mono ?_
  rintro e w2 ⟨rfl, hb2⟩
  have hz1 := ((cb_new (W := w) (T := 30) (L := cmdC ⟨vb, ks, cv, ky, vl, fl, ex, id, by_, bt, qt⟩ (.slice A1 ks.length c1)) rfl).new ((Below.refl _ _).alloc (Nat.le_refl _) _)).new hb2
  have hz2 := (cb_new (W := w.alloc (.cells #[.int .u8 vb, .slice A1 ks.length c1, .int .u8 cv, .string ⟨ky.toArray⟩, .string ⟨vl.toArray⟩, .int .u32 fl, .int .i64 ex, .int .u64 id, .int .u64 by_, .int .i64 bt, .bool qt] 30)) (T := 30) (L := cmdC ⟨vb, ks, cv, ky, vl, fl, ex, id, by_, bt, qt⟩ (.slice A2 ks.length c2)) rfl).new hb2
  rw [World.size_alloc] at hz2
  obtain ⟨x0, x1, x2, x3, x4, x5, x6, x7, x8, x9, x10⟩ := cb_cells hz1
  obtain ⟨y0, y1, y2, y3, y4, y5, y6, y7, y8, y9, y10⟩ := cb_cells hz2
  have HB2 := Lib.hid ((HB.out _ _ _ _).trans (hb2.mono (HB.out _ _ _ _).size))
  clear hz1 hz2 hb2 p1
  go_wp2_with fail
  go_ret
  exact ⟨rfl, HB2.out⟩
end Go.Proofs.YtifbcejekdhnlaaDoor
