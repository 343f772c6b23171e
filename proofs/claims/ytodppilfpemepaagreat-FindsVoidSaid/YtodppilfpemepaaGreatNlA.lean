/- All the notes of a list, wherever it lies. -/
import Derived.Test.YtodppilfpemepaaGreatGNl
namespace Go.Proofs.YtodppilfpemepaaGreat
open Go.RowKit
set_option linter.unusedVariables false

set_option maxHeartbeats 4000000 in
set_option maxRecDepth 100000 in
theorem sinceT (w : World) (p : Nat) (L : List Nv) (z : Int) {T : Nat → Prop} (h : Nts w p L T) (hM : L.length ≤ 1048576) :
    Calls Tryz.prog 80 #[.pointer (some ⟨p, 0, none⟩), .int .i64 z] w (IsLst w 8 (L.drop z.toNat).length (rowsN (L.drop z.toNat))) := by
  obtain ⟨u, hp, hf, hown, hnil, -, -, -⟩ := h
  obtain ⟨_, ⟨rfl, h0⟩ | ⟨g, cap, rfl, hgB, hg, hnc, hcm, _⟩⟩ := Lst.of_own hown
  · have hL : L = [] := List.eq_nil_of_length_eq_zero h0
    subst hL
    clear hnil hown hf
    rw [List.drop_nil]
    by_cases hz : 0 ≤ z
    · have hz' : decide (0 ≤ z) = true := decide_eq_true hz
      go_enter Tryz.func80, Tryz.ntmps80
      go_wp2_with fail
      go_ret
      exact ⟨_, rfl, ⟨rfl, .inl ⟨rfl, rfl⟩⟩, Below.refl _ _⟩
    · have hz' : decide (0 ≤ z) = false := decide_eq_false hz
      have hm : max z 0 = 0 := by omega
      clear hz
      go_enter Tryz.func80, Tryz.ntmps80
      go_wp2_with fail
      all_goals
        refine (clonen_nil _).mono ?_
        rintro e w1 ⟨rfl, rfl⟩
        go_wp2_with fail
        refine (clipn none 0 0 _ (by omega) (by unfold maxLen; omega) (fun _ => ⟨rfl, rfl⟩)).mono ?_
        rintro e w2 ⟨rfl, rfl⟩
        go_wp2_with fail
        go_ret
        exact ⟨_, rfl, ⟨rfl, .inl ⟨rfl, rfl⟩⟩, Below.refl _ _⟩
  · have hLp : 0 < L.length := by
      rcases Nat.eq_zero_or_pos L.length with e | e
      · exact absurd (hnil e) (by simp)
      · exact e
    by_cases hz : (L.length : Int) ≤ z
    · have hd : L.drop z.toNat = [] := List.drop_eq_nil_of_le (by omega)
      rw [hd]
      have hz' : decide ((L.length : Int) ≤ z) = true := decide_eq_true hz
      clear hz hd hown hnil hf
      go_enter Tryz.func80, Tryz.ntmps80
      go_wp2_with fail
      go_ret
      exact ⟨_, rfl, ⟨rfl, .inl ⟨rfl, rfl⟩⟩, Below.refl _ _⟩
    · have hz' : decide ((L.length : Int) ≤ z) = false := decide_eq_false hz
      obtain ⟨m, hm⟩ : ∃ m : Nat, m = z.toNat := ⟨_, rfl⟩
      have hml : m < L.length := by omega
      have hmz : max z 0 = (m : Int) := by omega
      have hcm' : ¬ cap = m := by omega
      have hdl : (rowsN (L.drop m)).length = (L.length - m) * 8 := by rw [rowsN_len, List.length_drop]
      have hdc : ∀ j u, (rowsN (L.drop m))[j]? = some u → w.cell? ⟨g, m * 8 + j, none⟩ = some u := by
        intro j u hj
        rw [rowsN_drop, List.getElem?_drop] at hj
        have := hown.cells rfl _ _ hj
        rwa [Addr.add_lit, Nat.zero_add] at this
      have HDC := Lib.hid hdc
      have HDL := Lib.hid hdl
      rw [← hm]
      have hlen : (L.drop m).length = L.length - m := List.length_drop
      rw [hlen]
      have hmc : m ≤ cap := by omega
      have hmL : m ≤ L.length := by omega
      have hln : (L.length - m) ≤ 1048576 := by omega
      have hway : z = (m : Int) ∨ z < 0 ∧ m = 0 := by omega
      unfold maxLen at hcm
      clear hz hown hnil hf hdc hdl hlen hm hmz hLp
      rcases hway with rfl | ⟨hz0, rfl⟩
      · go_enter Tryz.func80, Tryz.ntmps80
        go_wp2_with fail
        refine (clonen g (m * 8) (L.length - m) (cap - m) (rowsN (L.drop m)) w HDL.out HDC.out (fun u h => rowsN_one h) hln).mono ?_
        rintro e w1 ⟨v, rfl, hown1, hb1⟩
        obtain ⟨a, n, c, hv, hn, hc, h0, L'⟩ := lst_clip hown1
        rw [hv]
        clear hv hown1
        go_wp2_with fail
        refine (clipn _ _ _ _ hn hc h0).mono ?_
        rintro e w2 ⟨rfl, rfl⟩
        go_wp2_with fail
        go_ret
        exact ⟨_, rfl, L', hb1⟩
      · have hz1 : decide ((L.length : Int) ≤ z) = false := hz'
        have hD0 : ∀ j u, (rowsN (L.drop 0))[j]? = some u → w.cell? ⟨g, 0 + j, none⟩ = some u := fun j u h => by have := HDC.out j u h; rwa [Nat.zero_mul] at this
        have HD0 := Lib.hid hD0
        clear hD0
        go_enter Tryz.func80, Tryz.ntmps80
        go_wp2_with fail
        all_goals
          refine (clonen g 0 (L.length - 0) _ (rowsN (L.drop 0)) w HDL.out HD0.out (fun u h => rowsN_one h) hln).mono ?_
          rintro e w1 ⟨v, rfl, hown1, hb1⟩
          obtain ⟨a, n, c, hv, hn, hc, h0, L'⟩ := lst_clip hown1
          rw [hv]
          clear hv hown1
          go_wp2_with fail
          refine (clipn _ _ _ _ hn hc h0).mono ?_
          rintro e w2 ⟨rfl, rfl⟩
          go_wp2_with fail
          go_ret
          exact ⟨_, rfl, L', hb1⟩
theorem allT (w : World) (p : Nat) (L : List Nv) {T : Nat → Prop} (h : Nts w p L T) (hM : L.length ≤ 1048576) :
    Calls Tryz.prog 33 #[.pointer (some ⟨p, 0, none⟩)] w (IsLst w 8 L.length (rowsN L)) := by
  have hS := sinceT w p L 0 h hM
  have HS := Lib.hid hS
  clear hS h
  go_enter Tryz.func33, Tryz.ntmps33
  go_wp2_with fail
  refine HS.out.mono ?_
  rintro e w1 ⟨u, rfl, hL, hb⟩
  go_wp2_with fail
  go_ret
  exact ⟨_, rfl, hL, hb⟩
end Go.Proofs.YtodppilfpemepaaGreat
