/- The law KeysWords. -/
import Derived.Test.YteofbgbjibbdaaaKySame
namespace Go.Proofs.Yteofbgbjibbdaaa
open Go.RowKit
set_option linter.unusedVariables false

/-- A row of cells that may be written. -/
def Writable (w : World) (g n : Nat) : Prop := ∀ j, j < n → (∃ u, w.cell? ⟨g, j, none⟩ = some u) ∧ w.frozen? ⟨g, j, none⟩ = false
theorem Writable.set {w : World} {g n : Nat} (h : Writable w g n) (a : Addr) (v : Value) : Writable (w.setCell a v) g n := fun j hj => by
  obtain ⟨⟨u, hu⟩, hf⟩ := h j hj
  exact ⟨cell?_setCell_some hu, by simpa using hf⟩
set_option maxHeartbeats 1000000 in
theorem walk_KeysWords (a0 : ByteArray) (w : World) (w0 : a0.size ≤ 1048576) :
    Calls Try.prog 4 #[.string a0] w fun e w' => e = .returned (.bool true) ∧ Below w.heap.size w w' := by
  have hN : w.heap.size ≤ w.heap.size := Nat.le_refl _
  go_enter Try.func4, Try.ntmps4
  go_wp2_with fail
  refine (refwords _ _ w0).mono ?_
  rintro e w1 ⟨v1, rfl, hL1, hb1⟩
  go_wp2_with fail
  refine (wordsw _ _ w0).mono ?_
  rintro e w2 ⟨v2, rfl, hL2, hb2⟩
  have hL1' := hL1.below hb2 (Nat.le_refl _)
  go_wp2_with fail
  refine (sames_yes _ _ _ _ _ _ hL2 hL1').mono ?_
  rintro e w3 ⟨rfl, hb3⟩
  have hb12 := hb2.trans (hb3.mono hb2.size)
  have hL2' := hL2.below hb3 (Nat.le_refl _)
  have hbw := box_then hb1 hN hb2
  have hbw3 := box_then hbw hN hb3
  have hs1 := hb1.size
  clear hL1' hb2 hb3 hbw hL2
  obtain ⟨n, hn⟩ : ∃ n, n = (wordsF a0.data.toList).length := ⟨_, rfl⟩
  have hL3 : Lst w3 w1.heap.size 1 v2 n (strs (wordsF a0.data.toList)) := hn ▸ hL2'
  obtain ⟨_, ⟨rfl, h0⟩ | ⟨g, cap, rfl, hgB, hg, hnc, hc, hx⟩⟩ := hL3
  · clear hn h0 hL2'
    have hbr := hbw3
    have hb1r := hb12
    clear hbw3 hb12
    go_wp2_with fail
    refine wp_loop_rounds 1 ?_
    rw [rounds_succ]
    go_wp2_with fail
    refine (wordsw _ _ w0).mono ?_
    rintro e w4 ⟨v3, rfl, hL4, hb4⟩
    have hq4 := box_then hbr hN hb4
    go_wp2_with fail
    refine (sames_yes _ _ _ _ _ _ hL4 ((hL1.below hb1r (Nat.le_refl _)).below hb4 (Nat.le_refl _))).mono ?_
    rintro e w5 ⟨rfl, hb5⟩
    have hq5 := box_then hq4 hN hb5
    clear hq4 hb4 hb5 hL4 hbr
    go_wp2_with (go_at_call 17; refine (lives03 _).mono ?_; rintro e w' ⟨rfl, hk⟩; have hq := box_then (by assumption) hN hk; clear hk)
    go_ret
    exact ⟨rfl, by assumption⟩
  · have hW : Writable w3 g n := fun j hj => by
      have hjl : j < (strs (wordsF a0.data.toList)).length := by rw [strs_length]; omega
      have := hx j _ (List.getElem?_eq_getElem hjl)
      exact ⟨⟨_, this.1⟩, this.2⟩
    unfold maxLen at hc
    clear hx hL2'
    have HN := Lib.hid hn
    clear hn
    go_wp2_with fail
    go_loopw [5] (fun i wr => ∃ k : Nat, k ≤ n ∧ i = .int .i64 k ∧ Below w.heap.size w wr ∧ Below w1.heap.size w1 wr ∧ Writable wr g n) (fun i _ => n - (intOf i).toNat)
    case atStart => exact ⟨0, by omega, rfl, hbw3, hb12, hW⟩
    case round =>
      obtain ⟨k, hk4, rfl, hbr, hb1r, hWr⟩ := hrel
      by_cases hlt : k < n
      · obtain ⟨⟨u, hu⟩, hf⟩ := hWr k hlt
        go_wp2_with fail
        go_roundw
        case rel => exact ⟨k + 1, by omega, by go_num, hbr.setCell (by show w.heap.size ≤ g; omega) _, hb1r.setCell hgB _, hWr.set _ _⟩
        case measure => simp [intOf]; omega
      · obtain rfl : k = n := by omega
        go_wp2_with fail
        refine (wordsw _ _ w0).mono ?_
        rintro e w4 ⟨v3, rfl, hL4, hb4⟩
        have hq4 := box_then hbr hN hb4
        go_wp2_with fail
        refine (sames_yes _ _ _ _ _ _ hL4 ((hL1.below hb1r (Nat.le_refl _)).below hb4 (Nat.le_refl _))).mono ?_
        rintro e w5 ⟨rfl, hb5⟩
        have hq5 := box_then hq4 hN hb5
        clear hq4 hb4 hb5 hL4 hbr
        go_wp2_with (go_at_call 17; refine (lives03 _).mono ?_; rintro e w' ⟨rfl, hk⟩; have hq := box_then (by assumption) hN hk; clear hk)
        go_ret
        exact ⟨rfl, by assumption⟩
end Go.Proofs.Yteofbgbjibbdaaa
