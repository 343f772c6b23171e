/- Lists of notes: those from a place on. -/
import Derived.Test.YteofbgbjibbdaacNlO
namespace Go.Proofs.Yteofbgbjibbdaac
open Go.RowKit
set_option linter.unusedVariables false

theorem cells_one {x : Nv} {u : Value} (h : u ∈ x.cells) : u.oneCell' = true := by
  obtain ⟨s, th, k, r, b, c, d, v⟩ := x
  simp only [Nv.cells, ncells, List.mem_cons, List.not_mem_nil, or_false] at h
  rcases h with rfl | rfl | rfl | rfl | rfl | rfl | rfl | rfl <;> rfl
theorem rowsN_one {L : List Nv} {u : Value} (h : u ∈ rowsN L) : u.oneCell' = true := by
  simp only [rowsN, List.mem_flatMap] at h
  obtain ⟨x, _, hx⟩ := h
  exact cells_one hx
set_option maxHeartbeats 2000000 in
set_option maxRecDepth 100000 in
theorem clonen (g off n c : Nat) (xs : List Value) (w : World) (hx : xs.length = n * 8) (hc : ∀ j u, xs[j]? = some u → w.cell? ⟨g, off + j, none⟩ = some u) (h1 : ∀ u ∈ xs, u.oneCell' = true) (hn : n ≤ 1048576) :
    Calls Try.prog 92 #[.slice (some ⟨g, off, none⟩) n c] w fun e w' => ∃ v, e = .returned v ∧ w'.ownsRow w.heap.size 80 8 v n xs ∧ Below w.heap.size w w' := by
  obtain ⟨i0, hi, hz0, hz1, hz2⟩ := info_parts info_note
  have HC := Lib.hid hc
  have H1 := Lib.hid h1
  have HX := Lib.hid hx
  have hnil : ∀ W, (binOp .eql 68 (.slice (some ⟨g, off, none⟩) n c) (.slice none 0 0)).run Try.prog W = .ok (.bool false) W := fun W => by kernel_rfl
  clear hc h1 hx
  go_enter Try.func92, Try.ntmps92
  have hmade := World.ownsRow_made (base := w.heap.size) (e := 80) (size := 8) w #[] 0 (Nat.le_refl _) (by unfold maxLen; decide) (by simp)
  go_wp2_with (at_builtin; refine wpList_append_own _ rfl _ _ 68 rfl w.heap.size 80 i0 (.agg #[.int .i64 0, .int .i64 0, .int .u8 0, .int .i64 0, .int .i64 0, .int .i64 0, .int .i64 0, .int .i64 0]) 8 64 Try.underlying68 hi hz0 hz1 hz2 rfl (by decide) _ _ _ rfl hmade ⟨g, off, none⟩ n c xs rfl HX.out ?c1 ?c2 ?c3 ?c4 ?c5 ?_)
  case c1 =>
    intro j u hj
    have h := HC.out j u hj
    rw [Addr.add_lit]
    exact (World.cell?_alloc_some w _ _ (by simp [h])).trans h
  case c2 => exact H1.out
  case c3 => unfold maxLen; omega
  case c4 => omega
  case c5 => simp
  intro v' w3 hown' hgrow _
  have R : Below w.heap.size w w3 := ((Below.refl w.heap.size w).alloc (Nat.le_refl _) _).grown hgrow (by simp) (fun k hk => (hmade.lt k hk).1)
  clear hgrow hmade
  go_wp2
  go_ret
  exact ⟨_, rfl, hown', R⟩
theorem clonen_nil (w : World) :
    Calls Try.prog 92 #[.slice none 0 0] w fun e w' => e = .returned (.slice none 0 0) ∧ w = w' := by
  have hnil : ∀ W, (binOp .eql 68 (.slice none 0 0) (.slice none 0 0)).run Try.prog W = .ok (.bool true) W := fun W => by kernel_rfl
  go_enter Try.func92, Try.ntmps92
  go_wp2
  go_ret
  exact ⟨rfl, rfl⟩
theorem rowsN_drop (L : List Nv) (m : Nat) : rowsN (L.drop m) = (rowsN L).drop (m * 8) := by
  induction m generalizing L with
  | zero => simp
  | succ m ih =>
    cases L with
    | nil => simp [rowsN]
    | cons x L =>
      rw [List.drop_succ_cons, ih]
      have : rowsN (x :: L) = x.cells ++ rowsN L := by simp [rowsN]
      have hx : x.cells.drop (8 + m * 8) = [] := List.drop_eq_nil_of_le (by rw [cells_len]; omega)
      rw [this, show (m + 1) * 8 = 8 + m * 8 by omega, List.drop_append, hx, cells_len, List.nil_append]
      congr 1
      omega
set_option maxHeartbeats 4000000 in
set_option maxRecDepth 100000 in
theorem sincew (w : World) (p : Nat) (L : List Nv) (z : Int) (h : IsL w p L) (hM : L.length ≤ 1048576) :
    Calls Try.prog 58 #[.pointer (some ⟨p, 0, none⟩), .int .i64 z] w (IsLst w 8 (L.drop z.toNat).length (rowsN (L.drop z.toNat))) := by
  obtain ⟨u, hp, hf, hown, hnil⟩ := h
  obtain ⟨_, ⟨rfl, h0⟩ | ⟨g, cap, rfl, hgB, hg, hnc, hcm, _⟩⟩ := Lst.of_own hown
  · have hL : L = [] := List.eq_nil_of_length_eq_zero h0
    subst hL
    clear hnil hown hf
    rw [List.drop_nil]
    by_cases hz : 0 ≤ z
    · have hz' : decide (0 ≤ z) = true := decide_eq_true hz
      go_enter Try.func58, Try.ntmps58
      go_wp2_with fail
      go_ret
      exact ⟨_, rfl, ⟨rfl, .inl ⟨rfl, rfl⟩⟩, Below.refl _ _⟩
    · have hz' : decide (0 ≤ z) = false := decide_eq_false hz
      have hm : max z 0 = 0 := by omega
      clear hz
      go_enter Try.func58, Try.ntmps58
      go_wp2_with fail
      all_goals
        refine (clonen_nil _).mono ?_
        rintro e w1 ⟨rfl, rfl⟩
        go_wp2_with fail
        refine (clipn none 0 0 _ (by omega) (by unfold maxLen; omega) (fun _ => ⟨rfl, rfl⟩)).mono ?_
        rintro e w2 ⟨rfl, rfl⟩
        go_wp2_with fail
        go_ret
        exact ⟨_, rfl, ⟨rfl, .inl ⟨rfl, rfl⟩⟩, Below.refl _ _⟩
  · have hLp : 0 < L.length := by
      rcases Nat.eq_zero_or_pos L.length with e | e
      · exact absurd (hnil e) (by simp)
      · exact e
    by_cases hz : (L.length : Int) ≤ z
    · have hd : L.drop z.toNat = [] := List.drop_eq_nil_of_le (by omega)
      rw [hd]
      have hz' : decide ((L.length : Int) ≤ z) = true := decide_eq_true hz
      clear hz hd hown hnil hf
      go_enter Try.func58, Try.ntmps58
      go_wp2_with fail
      go_ret
      exact ⟨_, rfl, ⟨rfl, .inl ⟨rfl, rfl⟩⟩, Below.refl _ _⟩
    · have hz' : decide ((L.length : Int) ≤ z) = false := decide_eq_false hz
      obtain ⟨m, hm⟩ : ∃ m : Nat, m = z.toNat := ⟨_, rfl⟩
      have hml : m < L.length := by omega
      have hmz : max z 0 = (m : Int) := by omega
      have hcm' : ¬ cap = m := by omega
      have hdl : (rowsN (L.drop m)).length = (L.length - m) * 8 := by rw [rowsN_len, List.length_drop]
      have hdc : ∀ j u, (rowsN (L.drop m))[j]? = some u → w.cell? ⟨g, m * 8 + j, none⟩ = some u := by
        intro j u hj
        rw [rowsN_drop, List.getElem?_drop] at hj
        have := hown.cells rfl _ _ hj
        rwa [Addr.add_lit, Nat.zero_add] at this
      have HDC := Lib.hid hdc
      have HDL := Lib.hid hdl
      rw [← hm]
      have hlen : (L.drop m).length = L.length - m := List.length_drop
      rw [hlen]
      have hmc : m ≤ cap := by omega
      have hmL : m ≤ L.length := by omega
      have hln : (L.length - m) ≤ 1048576 := by omega
      have hway : z = (m : Int) ∨ z < 0 ∧ m = 0 := by omega
      unfold maxLen at hcm
      clear hz hown hnil hf hdc hdl hlen hm hmz hLp
      rcases hway with rfl | ⟨hz0, rfl⟩
      · go_enter Try.func58, Try.ntmps58
        go_wp2_with fail
        refine (clonen g (m * 8) (L.length - m) (cap - m) (rowsN (L.drop m)) w HDL.out HDC.out (fun u h => rowsN_one h) hln).mono ?_
        rintro e w1 ⟨v, rfl, hown1, hb1⟩
        obtain ⟨a, n, c, hv, hn, hc, h0, L'⟩ := lst_clip hown1
        rw [hv]
        clear hv hown1
        go_wp2_with fail
        refine (clipn _ _ _ _ hn hc h0).mono ?_
        rintro e w2 ⟨rfl, rfl⟩
        go_wp2_with fail
        go_ret
        exact ⟨_, rfl, L', hb1⟩
      · have hz1 : decide ((L.length : Int) ≤ z) = false := hz'
        have hD0 : ∀ j u, (rowsN (L.drop 0))[j]? = some u → w.cell? ⟨g, 0 + j, none⟩ = some u := fun j u h => by have := HDC.out j u h; rwa [Nat.zero_mul] at this
        have HD0 := Lib.hid hD0
        clear hD0
        go_enter Try.func58, Try.ntmps58
        go_wp2_with fail
        all_goals
          refine (clonen g 0 (L.length - 0) _ (rowsN (L.drop 0)) w HDL.out HD0.out (fun u h => rowsN_one h) hln).mono ?_
          rintro e w1 ⟨v, rfl, hown1, hb1⟩
          obtain ⟨a, n, c, hv, hn, hc, h0, L'⟩ := lst_clip hown1
          rw [hv]
          clear hv hown1
          go_wp2_with fail
          refine (clipn _ _ _ _ hn hc h0).mono ?_
          rintro e w2 ⟨rfl, rfl⟩
          go_wp2_with fail
          go_ret
          exact ⟨_, rfl, L', hb1⟩
end Go.Proofs.Yteofbgbjibbdaac
