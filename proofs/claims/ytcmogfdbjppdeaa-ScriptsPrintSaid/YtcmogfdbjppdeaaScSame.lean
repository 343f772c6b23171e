/- Scripts: are commands the chapter's? -/
import Derived.Test.YtcmogfdbjppdeaaScRd
import Derived.Test.YtcmogfdbjppdeaaChecked
import Derived.BigRegion
import Derived.Deep.RegionHeld
import Derived.IntWalk
namespace Go.Proofs.Ytcmogfdbjppdeaa
open Go.RowKit
set_option linter.unusedVariables false

theorem belowNd {B : Nat} {a w : World} (h : Below B a w) (n : Nat) : Below B a (w.drewN n) := by
  induction n with
  | zero => exact h
  | succ n ih => exact ih.drew
theorem same_none (A A' : Option Addr) (c c' : Nat) (w : World) : Calls Try.prog 11 #[.slice A 0 c, .slice A' 0 c'] w fun e w' => e = .returned (.bool true) ∧ w = w' := by
  go_enter Try.func11, Try.ntmps11
  go_wp2_with fail
  refine wp_loop_rounds 1 ?_
  rw [rounds_succ]
  go_wp2_with fail
  go_ret
  exact ⟨rfl, rfl⟩
set_option maxHeartbeats 4000000 in
set_option maxRecDepth 100000 in
theorem same_some (g off c g' off' c' : Nat) (cs : List Cm) (w : World) (hn : cs.length ≤ 1048576) (hkd : ∀ x ∈ cs, 0 ≤ x.1 ∧ x.1 ≤ 255) (hc : cs.length ≤ c) (hcm : c ≤ maxLen) (hc' : cs.length ≤ c') (hcm' : c' ≤ maxLen) (h : RdC w w.heap.size .u8 (some ⟨g, off, none⟩) cs) (h' : RdC w w.heap.size .i64 (some ⟨g', off', none⟩) cs) :
    Calls Try.prog 11 #[.slice (some ⟨g, off, none⟩) cs.length c, .slice (some ⟨g', off', none⟩) cs.length c'] w fun e w' => e = .returned (.bool true) ∧ Below w.heap.size w w' := by
  unfold maxLen at hcm hcm'
  obtain ⟨n, hnn⟩ : ∃ n, n = cs.length := ⟨_, rfl⟩
  have HA := Lib.hid (fun i x hx => h.at_ i x hx)
  have HB := Lib.hid (fun i x hx => h'.at_ i x hx)
  rw [← hnn] at hn hc hc' ⊢
  have HN := Lib.hid hnn
  have HK := Lib.hid hkd
  clear h h' hnn hkd
  go_enter Try.func11, Try.ntmps11
  go_wp2_with fail
  go_loopw [5] (fun i wr => ∃ k : Nat, k ≤ n ∧ i = .int .i64 k ∧ Below w.heap.size w wr) (fun i _ => n - (intOf i).toNat)
  case atStart => exact ⟨0, by omega, rfl, Below.refl _ _⟩
  case round =>
    obtain ⟨k, hk, rfl, hnx⟩ := hrel
    by_cases hlt : k < n
    · obtain ⟨x, hx⟩ : ∃ x, cs[k]? = some x := ⟨_, List.getElem?_eq_getElem (by have := HN.out; omega)⟩
      obtain ⟨g1, a0, a1, ab, cb, a2, l1, l2, r1, _⟩ := (HA.out k x hx).keep (fun q o hq => hnx.cell (p := ⟨q, o, none⟩) hq)
      obtain ⟨g2, b0, b1, bb, db, b2, m1, m2, r2, _⟩ := (HB.out k x hx).keep (fun q o hq => hnx.cell (p := ⟨q, o, none⟩) hq)
      obtain ⟨kk0, kk1⟩ := HK.out x (List.mem_of_getElem? hx)
      have hwr : IntKind.i64.wrap x.1 = x.1 := IntWalk.i64_in _ (by omega)
      obtain ⟨kk, cn, bs⟩ := x
      have e1 := conv_by (P := Try.prog) wr 22 9 5 Try.underlying22 Try.underlying5 Try.underlying9 cb r1
      have e2 := conv_by (P := Try.prog) wr 22 9 5 Try.underlying22 Try.underlying5 Try.underlying9 db r2
      have e1' := fun n => conv_by (P := Try.prog) (wr.drewN n) 22 9 5 Try.underlying22 Try.underlying5 Try.underlying9 cb (r1.keep fun g o _ => World.cell?_drewN ..)
      have e2' := fun n => conv_by (P := Try.prog) (wr.drewN n) 22 9 5 Try.underlying22 Try.underlying5 Try.underlying9 db (r2.keep fun g o _ => World.cell?_drewN ..)
      simp only at a0 a1 a2 b0 b1 b2 hwr kk0 kk1
      clear hx r1 r2 l1 m1 l2 m2
      go_wp2_with fail
      go_quiet (fail)
      clear e1 e2 e1' e2' a0 a1 a2 b0 b1 b2
      go_wp2
      go_roundw
      case rel => exact ⟨k + 1, by omega, by go_num, belowNd hnx _⟩
      case measure => simp [intOf]; omega
    · have hd : decide (k < n) = false := decide_eq_false hlt
      go_wp2_with fail
      go_ret
      exact ⟨rfl, hnx⟩
end Go.Proofs.Ytcmogfdbjppdeaa
