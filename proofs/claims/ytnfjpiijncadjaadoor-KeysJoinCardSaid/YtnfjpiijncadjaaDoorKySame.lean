/- Two lists of texts held against each other; the examples of chapter 3. -/
import Derived.Test.YtnfjpiijncadjaaDoorKyRef
namespace Go.Proofs.YtnfjpiijncadjaaDoor
open Go.RowKit
set_option linter.unusedVariables false

/-- The cell of an element. -/
theorem lsts_cell {w : World} {B n : Nat} {g : Nat} {cap : Nat} {l : List (List UInt8)} (h : Lst w B 1 (.slice (some ⟨g, 0, none⟩) n cap) l.length (strs l)) (k : Nat) (hk : k < l.length) : w.cell? ⟨g, k, none⟩ = some (.string ⟨(l.getD k []).toArray⟩) := by
  obtain ⟨hl, ⟨hv, _⟩ | ⟨g', cap', hv, _, _, _, _, hx⟩⟩ := h
  · simp at hv
  · simp at hv
    obtain ⟨rfl, rfl, rfl⟩ := hv
    exact (hx k _ (by simp [strs, hk])).1
theorem lsts_form {w : World} {B : Nat} {v : Value} {l : List (List UInt8)} (h : Lst w B 1 v l.length (strs l)) : (l = [] ∧ v = .slice none 0 0) ∨ ∃ g cap, v = .slice (some ⟨g, 0, none⟩) l.length cap ∧ l.length ≤ maxLen := by
  obtain ⟨hl, ⟨rfl, h⟩ | ⟨g, cap, rfl, _, _, hn, hc, _⟩⟩ := h
  · exact .inl ⟨List.eq_nil_of_length_eq_zero h, rfl⟩
  · exact .inr ⟨g, cap, rfl, by omega⟩
theorem sames_yes (a : List (List UInt8)) (u v : Value) (B B' : Nat) (w : World) (ha : Lst w B 1 u a.length (strs a)) (hb : Lst w B' 1 v a.length (strs a)) :
    Calls Tryd.prog 7 #[u, v] w fun e w' => e = .returned (.bool true) ∧ Below w.heap.size w w' := by
  rcases lsts_form ha with ⟨rfl, rfl⟩ | ⟨g, c, rfl, hm⟩ <;> rcases lsts_form hb with ⟨h0, rfl⟩ | ⟨g', c', rfl, hm'⟩
  · go_enter Tryd.func7, Tryd.ntmps7
    go_wp2
    refine wp_loop_rounds 1 ?_
    rw [rounds_succ]
    go_wp2
    go_ret
    exact ⟨rfl, Below.refl _ _⟩
  · go_enter Tryd.func7, Tryd.ntmps7
    go_wp2
    refine wp_loop_rounds 1 ?_
    rw [rounds_succ]
    go_wp2
    go_ret
    exact ⟨rfl, Below.refl _ _⟩
  · subst h0
    go_enter Tryd.func7, Tryd.ntmps7
    go_wp2
    refine wp_loop_rounds 1 ?_
    rw [rounds_succ]
    go_wp2
    go_ret
    exact ⟨rfl, Below.refl _ _⟩
  · unfold maxLen at hm
    clear hm'
    go_enter Tryd.func7, Tryd.ntmps7
    go_wp2
    go_loopw [5] (fun i wr => ∃ (k m : Nat), k ≤ a.length ∧ i = .int .i64 k ∧ wr = w.drewN m) (fun i _ => a.length - (intOf i).toNat)
    case atStart => exact ⟨0, 0, by omega, rfl, rfl⟩
    case round =>
      obtain ⟨k, m, hk, rfl, rfl⟩ := hrel
      by_cases hlt : k < a.length
      · have c1 := lsts_cell ha k hlt
        have c2 := lsts_cell hb k hlt
        go_wp2_with fail
        go_quiet (fail)
        go_wp2
        refine ⟨⟨k + 1, _, by omega, by go_num, rfl⟩, by simp [intOf]; omega⟩
      · obtain rfl : k = a.length := by omega
        go_wp2
        go_ret
        exact ⟨rfl, below_drewN (Below.refl _ _) _⟩
theorem ex03 : lookF [] = (1, 0) ∧ lookF [97, 32, 98] = (3, 1) ∧ lookF [107, 101, 121] = (0, 0) ∧ roomF 1024 = true ∧ roomF 1025 = false := by decide
theorem ex03w : wordsF [32, 32, 103, 101, 116, 32, 97, 32, 32] = [[103, 101, 116], [97]] := by decide
theorem ex03l : lookF (Lib.repeatL [107] 251) = (2, 0) := lookF_long (by rw [Lib.repeatL_length]; decide)
set_option maxHeartbeats 4000000 in
set_option maxRecDepth 100000 in
theorem lives03 (w : World) : Calls Tryd.prog 4 #[] w fun e w' => e = .returned (.bool true) ∧ Below w.heap.size w w' := by
  obtain ⟨e1, e2, e3, e4, e5⟩ := ex03
  have e6 := ex03l
  have H1 := Lib.hid e1
  have H2 := Lib.hid e2
  have H3 := Lib.hid e3
  have H6 := Lib.hid e6
  clear e1 e2 e3 e6
  go_enter Tryd.func4, Tryd.ntmps4
  go_wp2_with fail
  refine (look _ _ (by decide)).mono ?_
  rintro e w1 ⟨rfl, rfl⟩
  rw [show (({ data := #[] } : ByteArray).data.toList) = [] from rfl, H1.out]
  go_wp2_with fail
  refine (look _ _ (by decide)).mono ?_
  rintro e w1 ⟨rfl, rfl⟩
  rw [show (({ data := #[97, 32, 98] } : ByteArray).data.toList) = [97, 32, 98] from rfl, H2.out]
  go_wp2_with fail
  refine (Tryd.strings_Repeat _ 251 _ (by omega) (by decide)).mono ?_
  rintro e w1 ⟨rfl, hb1⟩
  go_wp2_with fail
  refine (look _ _ (by decide)).mono ?_
  rintro e w2 ⟨rfl, rfl⟩
  rw [show (({ data := (Lib.repeatL ({ data := #[107] } : ByteArray).data.toList 251).toArray } : ByteArray).data.toList) = Lib.repeatL [107] 251 from rfl, H6.out]
  go_wp2_with fail
  refine (look _ _ (by decide)).mono ?_
  rintro e w2 ⟨rfl, rfl⟩
  rw [show (({ data := #[107, 101, 121] } : ByteArray).data.toList) = [107, 101, 121] from rfl, H3.out]
  go_wp2_with fail
  refine (wordsw _ _ (by decide)).mono ?_
  rintro e w2 ⟨v, rfl, hL, hb⟩
  rw [show (({ data := #[32, 32, 103, 101, 116, 32, 97, 32, 32] } : ByteArray).data.toList) = [32, 32, 103, 101, 116, 32, 97, 32, 32] from rfl, ex03w] at hL
  obtain ⟨_, ⟨_, h0⟩ | ⟨g, cap, rfl, hgB, hg, hn, hc, hx⟩⟩ := hL
  · simp at h0
  have c0 := (hx 0 _ rfl).1
  have c1 := (hx 1 _ rfl).1
  clear hx
  have hB := hb1.trans (hb.mono hb1.size)
  clear hb hb1
  unfold maxLen at hc
  simp only [List.length_cons, List.length_nil] at hn
  go_wp2_with (go_at_call 12; refine (roomw _ _).mono ?_; rintro e w' ⟨rfl, rfl⟩)
  go_ret
  exact ⟨rfl, hB⟩
end Go.Proofs.YtnfjpiijncadjaaDoor
