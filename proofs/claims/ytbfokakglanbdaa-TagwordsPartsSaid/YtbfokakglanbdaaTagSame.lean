/- Two lists of numbers held against each other; the examples of chapter 2. -/
import Derived.Test.YtbfokakglanbdaaTagCount
import Derived.Deep.RegionHeld3
namespace Go.Proofs.Ytbfokakglanbdaa
open Go.RowKit
set_option linter.unusedVariables false

/-- The cell of an element. -/
theorem lst_cell {w : World} {B n : Nat} {g : Nat} {cap : Nat} {l : List Int} (h : Lst w B 1 (.slice (some ⟨g, 0, none⟩) n cap) l.length (ints l)) (k : Nat) (hk : k < l.length) : w.cell? ⟨g, k, none⟩ = some (.int .i64 (l.getD k 0)) := by
  obtain ⟨hl, ⟨hv, _⟩ | ⟨g', cap', hv, _, _, _, _, hx⟩⟩ := h
  · simp at hv
  · simp at hv
    obtain ⟨rfl, rfl, rfl⟩ := hv
    exact (hx k _ (by simp [ints, hk])).1
theorem lst_form {w : World} {B : Nat} {v : Value} {l : List Int} (h : Lst w B 1 v l.length (ints l)) : (l = [] ∧ v = .slice none 0 0) ∨ ∃ g cap, v = .slice (some ⟨g, 0, none⟩) l.length cap ∧ l.length ≤ maxLen := by
  obtain ⟨hl, ⟨rfl, h⟩ | ⟨g, cap, rfl, _, _, hn, hc, _⟩⟩ := h
  · exact .inl ⟨List.eq_nil_of_length_eq_zero h, rfl⟩
  · exact .inr ⟨g, cap, rfl, by omega⟩
theorem same_ext (a b : List Int) (hl : a.length = b.length) (h : ∀ j, j < a.length → a.getD j 0 = b.getD j 0) : a = b := by
  apply List.ext_getElem hl
  intro j h1 h2
  have := h j h1
  simpa [h1, h2] using this
theorem same_yes (a : List Int) (u v : Value) (B B' : Nat) (w : World) (ha : Lst w B 1 u a.length (ints a)) (hb : Lst w B' 1 v a.length (ints a)) :
    Calls Try.prog 34 #[u, v] w fun e w' => e = .returned (.bool true) ∧ Below w.heap.size w w' := by
  rcases lst_form ha with ⟨rfl, rfl⟩ | ⟨g, c, rfl, hm⟩ <;> rcases lst_form hb with ⟨h0, rfl⟩ | ⟨g', c', rfl, hm'⟩
  · go_enter Try.func34, Try.ntmps34
    go_wp2
    refine wp_loop_rounds 1 ?_
    rw [rounds_succ]
    go_wp2
    go_ret
    exact ⟨rfl, Below.refl _ _⟩
  · go_enter Try.func34, Try.ntmps34
    go_wp2
    refine wp_loop_rounds 1 ?_
    rw [rounds_succ]
    go_wp2
    go_ret
    exact ⟨rfl, Below.refl _ _⟩
  · subst h0
    go_enter Try.func34, Try.ntmps34
    go_wp2
    refine wp_loop_rounds 1 ?_
    rw [rounds_succ]
    go_wp2
    go_ret
    exact ⟨rfl, Below.refl _ _⟩
  · unfold maxLen at hm
    clear hm'
    go_enter Try.func34, Try.ntmps34
    go_wp2
    go_loopw [5] (fun i wr => ∃ (k m : Nat), k ≤ a.length ∧ i = .int .i64 k ∧ wr = w.drewN m) (fun i _ => a.length - (intOf i).toNat)
    case atStart => exact ⟨0, 0, by omega, rfl, rfl⟩
    case round =>
      obtain ⟨k, m, hk, rfl, rfl⟩ := hrel
      by_cases hlt : k < a.length
      · have c1 := lst_cell ha k hlt
        have c2 := lst_cell hb k hlt
        go_wp2_with fail
        go_quiet (fail)
        go_wp2
        refine ⟨⟨k + 1, _, by omega, by go_num, rfl⟩, by simp [intOf]; omega⟩
      · obtain rfl : k = a.length := by omega
        go_wp2
        go_ret
        exact ⟨rfl, below_drewN (Below.refl _ _) _⟩

theorem ex_has : hasl 117440519 7 4 = [0, 3] := by decide
theorem ex_nums : tagf 458752 2 = 7 ∧ withf 0 2 7 = 458752 ∧ withf 458752 2 0 = 0 ∧ withf 4294967296 0 1 = 4294967297 ∧ fr4 117440519 = 1 ∧ cntk 117440519 4 = 2 := by decide
set_option maxHeartbeats 4000000 in
theorem lives02 (w : World) : Calls Try.prog 31 #[] w fun e w' => e = .returned (.bool true) ∧ Below w.heap.size w w' := by
  obtain ⟨e1, e2, e3, e4, e5, e6⟩ := ex_nums
  go_enter Try.func31, Try.ntmps31
  go_wp2_with fail
  refine (hasw _ _ _ (by omega) (by omega) (by omega)).mono ?_
  rintro e w1 ⟨v, rfl, hL, hb⟩
  rw [ex_has] at hL
  obtain ⟨_, ⟨_, h0⟩ | ⟨g, cap, rfl, hgB, hg, hn, hc, hx⟩⟩ := hL
  · simp at h0
  have c0 := (hx 0 _ rfl).1
  have c1 := (hx 1 _ rfl).1
  clear hx
  have hB : Below w1.heap.size w1 w1 := Below.refl _ _
  have hN : w1.heap.size ≤ w1.heap.size := Nat.le_refl _
  unfold maxLen at hc
  simp only [List.length_cons, List.length_nil] at hn
  go_wp2_with (first
      | (go_at_call 27; refine (tagw _ _ _ (by omega) (by omega)).mono ?_; rintro e w' ⟨rfl, hk⟩; have hq := box_then (by assumption) hN hk; clear hk; have d0 := box_cell hq hg c0; have d1 := box_cell hq hg c1)
      | (go_at_call 29; refine (withw _ _ _ _ (by omega) (by omega)).mono ?_; rintro e w' ⟨rfl, hk⟩; have hq := box_then (by assumption) hN hk; clear hk; have d0 := box_cell hq hg c0; have d1 := box_cell hq hg c1)
      | (go_at_call 35; refine (freew _ _ (by omega) (by omega)).mono ?_; rintro e w' ⟨rfl, hk⟩; have hq := box_then (by assumption) hN hk; clear hk)
      | (go_at_call 37; refine (countw _ _ (by omega) (by omega)).mono ?_; rintro e w' ⟨rfl, hk⟩; have hq := box_then (by assumption) hN hk; clear hk))
  go_ret
  exact ⟨rfl, hb.trans (Below.mono (by assumption) hb.size)⟩
end Go.Proofs.Ytbfokakglanbdaa
