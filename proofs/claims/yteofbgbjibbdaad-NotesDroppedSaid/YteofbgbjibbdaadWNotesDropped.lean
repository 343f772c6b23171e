/- The law NotesDropped. -/
import Derived.Test.YteofbgbjibbdaadNlV
import Derived.Test.YteofbgbjibbdaadBits
import Derived.Test.YteofbgbjibbdaadOpen
namespace Go.Proofs.Yteofbgbjibbdaad
open Go.RowKit
set_option linter.unusedVariables false

theorem idx_app (so : Nv → Bool) (L : List Nv) (x : Nv) : ∀ k, k ≤ L.length → idx so (L ++ [x]) k = idx so L k
  | 0, _ => rfl
  | k + 1, h => by
    have ih := idx_app so L x k (by omega)
    unfold idx
    rw [ih, List.getElem?_append_left (by omega)]
theorem dropF_hit {L : List Nv} {x : Nv} {ref : Int} (h : soD ref x = true) : dropF (L ++ [x]) ref = ((L.length : Int), true) := by
  unfold dropF
  rw [List.length_append, List.length_singleton, idx_hit (x := x) (by simp) h]
  simp
theorem dropF_miss {L : List Nv} {x : Nv} {ref : Int} (h : soD ref x = false) : dropF (L ++ [x]) ref = dropF L ref := by
  unfold dropF
  rw [List.length_append, List.length_singleton, idx_miss (x := x) (by simp) h, idx_app _ _ _ _ (Nat.le_refl _)]
theorem dropF_ways (L : List Nv) (ref : Int) : (∃ z : Nat, dropF L ref = ((z : Int), true) ∧ z < L.length) ∨ dropF L ref = (0, false) := by
  unfold dropF
  cases h : (idx (soD ref) L L.length).getLast? with
  | none => exact .inr rfl
  | some z =>
    obtain ⟨m, rfl, hm, _⟩ := idx_mem _ _ _ z (List.mem_of_getLast? h)
    exact .inl ⟨m, rfl, hm⟩
/-- What the law wants: the place of the last one, or -1. -/
def wantF (L : List Nv) (ref : Int) : Int := if (dropF L ref).2 = true then (dropF L ref).1 else -1
/-- The cells of a slice of notes that came in. -/
theorem reads_notes {w : World} {t e : TypeId} {a : Option Addr} {len cap : Nat} (ht : Try.prog.underlying t = some (.slice e)) (hk : leaves Try.prog 9 e = some [.inl .i64, .inl .i64, .inl .u8, .inl .i64, .inl .i64, .inl .i64, .inl .i64, .inl .i64]) (hc : Try.prog.cellsOf e = 8) (h : Reads Try.prog w t (.slice a len cap)) :
    (a = none ∧ len = 0 ∧ cap = 0) ∨ ∃ b off sp, a = some ⟨b, off, sp⟩ ∧ len ≤ cap ∧ cap ≤ maxLen ∧ (0 < cap → sp = none) ∧ ∀ i, i < cap → ∃ x : Nv, ∀ j u, x.cells[j]? = some u → w.cell? ⟨b, off + (i * 8 + j), none⟩ = some u := by
  rcases Reads.slice ht hk h with h0 | ⟨b, off, sp, rfl, h1, h2, h3, h4⟩
  · exact .inl h0
  · refine .inr ⟨b, off, sp, rfl, h1, h2, fun h => h3 h (by omega), fun i hi => ?_⟩
    obtain ⟨l, hl, hll, hx⟩ := h4 i hi
    obtain ⟨_, _, rfl, ⟨s, rfl, _⟩, q1⟩ := all2_cons hl
    obtain ⟨_, _, rfl, ⟨th, rfl, _⟩, q2⟩ := all2_cons q1
    obtain ⟨_, _, rfl, ⟨k, rfl, _⟩, q3⟩ := all2_cons q2
    obtain ⟨_, _, rfl, ⟨r, rfl, _⟩, q4⟩ := all2_cons q3
    obtain ⟨_, _, rfl, ⟨b', rfl, _⟩, q5⟩ := all2_cons q4
    obtain ⟨_, _, rfl, ⟨c, rfl, _⟩, q6⟩ := all2_cons q5
    obtain ⟨_, _, rfl, ⟨d, rfl, _⟩, q7⟩ := all2_cons q6
    obtain ⟨_, _, rfl, ⟨v, rfl, _⟩, q8⟩ := all2_cons q7
    obtain rfl := all2_nil q8
    rw [hc] at hx
    exact ⟨(s, th, k, r, b', c, d, v), hx⟩
set_option maxHeartbeats 8000000 in
set_option maxRecDepth 100000 in
theorem walk_NotesDropped (a0 : Option Addr) (l0 c0 : Nat) (a1 : Int) (w : World) (w0 : Reads Try.prog w 22 (.slice a0 l0 c0)) (w1 : (Lit.int .i64 a1).wf = true) :
    Calls Try.prog 3 #[.slice a0 l0 c0, .int .i64 a1] w fun e w' => e = .returned (.bool true) ∧ Below w.heap.size w w' := by
  have hN : w.heap.size ≤ w.heap.size := Nat.le_refl _
  clear w1
  have hrd := reads_notes (e := 35) Try.underlying22 (by kernel_rfl) (by kernel_rfl) w0
  clear w0
  have hm : l0 ≤ 9223372036854775807 := by
    rcases hrd with ⟨_, rfl, _⟩ | ⟨b, off, sp, _, h1, h2, _, _⟩
    · omega
    · unfold maxLen at h2; omega
  by_cases hbig : 60 < l0
  · clear hrd
    go_enter Try.func3, Try.ntmps3
    go_wp2_with (go_at_call 6; refine (lives09 _).mono ?_; rintro e w' ⟨rfl, hk⟩)
    go_ret
    exact ⟨rfl, hk⟩
  have hd : decide (60 < (l0 : Int)) = false := decide_eq_false (by omega)
  have hsm : l0 ≤ 60 := by omega
  obtain ⟨P, hP⟩ : ∃ P, P = w.heap.size := ⟨_, rfl⟩
  have HP := Lib.hid hP
  clear hbig hP
  by_cases hz : l0 = 0
  · subst hz
    clear hrd
    go_enter Try.func3, Try.ntmps3
    go_wp2_with fail
    refine (newl _).mono ?_
    rintro e w2 ⟨rfl, _, k1⟩
    go_wp2_with fail
    refine wp_loop_rounds 1 ?_
    rw [rounds_succ]
    go_wp2_with fail
    refine (lives09 _).mono ?_
    rintro e w3 ⟨rfl, k2⟩
    have j := below_then k1 k2
    go_wp2_with fail
    go_ret
    exact ⟨rfl, j⟩
  rcases hrd with ⟨_, rfl, _⟩ | ⟨bb, off, sp, rfl, hlc, hcm, hsp, hcells⟩
  · exact absurd rfl hz
  obtain rfl := hsp (by omega)
  have HCL : Hid (∀ i, i < l0 → ∃ x : Nv, ∀ j u, x.cells[j]? = some u → w.cell? ⟨bb, off + (i * 8 + j), none⟩ = some u) := fun i hi => hcells i (by omega)
  unfold maxLen at hcm
  clear hcells hsp hz
  go_enter Try.func3, Try.ntmps3
  go_wp2_with fail
  refine (newl _).mono ?_
  rintro e w2 ⟨rfl, hL0, k1⟩
  rw [← HP.out] at hL0 k1 ⊢
  go_wp2_with fail
  go_loopw [6, 7] (fun wv i wr => ∃ (k0 : Nat) (L : List Nv) (wt : Int), k0 ≤ l0 ∧ i = .int .i64 k0 ∧ wv = .int .i64 wt ∧ Hid (wt = wantF L a1) ∧ IsL wr P L ∧ Below P w wr ∧ L.length ≤ k0) (fun _ i _ => l0 - (intOf i).toNat)
  case atStart => exact ⟨0, [], -1, by omega, rfl, rfl, rfl, hL0, k1, by simp⟩
  case round =>
    obtain ⟨k0, L, wt, hk0, rfl, rfl, hwt, hL, hbr, hLk⟩ := hrel
    have hsz := hbr.size
    by_cases hlt : k0 < l0
    · obtain ⟨x, hx⟩ := HCL.out k0 hlt
      have hbl : bb < P := by
        rw [HP.out]
        obtain ⟨s, th, k, r, b, c, d, v⟩ := x
        exact World.block_lt_of_cell? _ _ (hx 0 _ rfl)
      have hc1 := fun j u (he : x.cells[j]? = some u) => box_cell hbr hbl (hx j u he)
      obtain ⟨z, hz⟩ : ∃ z, addF L x = z := ⟨_, rfl⟩
      obtain ⟨M, hM⟩ : ∃ M, M = addL L x := ⟨_, rfl⟩
      have hMl : M.length ≤ k0 + 1 := by
        rw [hM]; unfold addL; split
        · rw [List.length_append, List.length_singleton]; omega
        · omega
      have hway : (z = 0 ∧ x.k = 1 ∧ x.r = a1 ∧ dropF M a1 = ((L.length : Int), true)) ∨ ((z == 0) = false ∨ z = 0 ∧ (x.k == 1) = false ∨ z = 0 ∧ x.k = 1 ∧ (x.r == a1) = false) ∧ dropF M a1 = dropF L a1 := by
        rw [hM]
        unfold addL
        by_cases h0 : z = 0
        · rw [hz, if_pos h0]
          by_cases h1 : x.k = 1
          · by_cases h2 : x.r = a1
            · exact .inl ⟨h0, h1, h2, dropF_hit (by simp [soD, h1, h2])⟩
            · exact .inr ⟨.inr (.inr ⟨h0, h1, beq_eq_false_iff_ne.mpr h2⟩), dropF_miss (by simp [soD, h2])⟩
          · exact .inr ⟨.inr (.inl ⟨h0, beq_eq_false_iff_ne.mpr h1⟩), dropF_miss (by simp [soD, h1])⟩
        · rw [hz, if_neg h0]
          exact .inr ⟨.inl (beq_eq_false_iff_ne.mpr h0), rfl⟩
      have hdw := dropF_ways L a1
      have HZ := Lib.hid hz
      have HM := Lib.hid hM
      have HX := Lib.hid hx
      clear hz hM hx
      obtain ⟨s, th, k, r, b, c, d, v⟩ := x
      have e0 : wr.cell? ⟨bb, off + k0 * 8, none⟩ = some (.int .i64 s) := by exact hc1 0 _ rfl
      have e1 : wr.cell? ⟨bb, off + k0 * 8 + 1, none⟩ = some (.int .i64 th) := by rw [Nat.add_assoc]; exact hc1 1 _ rfl
      have e2 : wr.cell? ⟨bb, off + k0 * 8 + 2, none⟩ = some (.int .u8 k) := by rw [Nat.add_assoc]; exact hc1 2 _ rfl
      have e3 : wr.cell? ⟨bb, off + k0 * 8 + 3, none⟩ = some (.int .i64 r) := by rw [Nat.add_assoc]; exact hc1 3 _ rfl
      have e4 : wr.cell? ⟨bb, off + k0 * 8 + 4, none⟩ = some (.int .i64 b) := by rw [Nat.add_assoc]; exact hc1 4 _ rfl
      have e5 : wr.cell? ⟨bb, off + k0 * 8 + 5, none⟩ = some (.int .i64 c) := by rw [Nat.add_assoc]; exact hc1 5 _ rfl
      have e6 : wr.cell? ⟨bb, off + k0 * 8 + 6, none⟩ = some (.int .i64 d) := by rw [Nat.add_assoc]; exact hc1 6 _ rfl
      have e7 : wr.cell? ⟨bb, off + k0 * 8 + 7, none⟩ = some (.int .i64 v) := by rw [Nat.add_assoc]; exact hc1 7 _ rfl
      simp only [Nv.k, Nv.r] at hway
      clear hc1
      go_wp2_with fail
      refine (countl _ _ _ _ hL (by omega)).mono ?_
      rintro e w3 ⟨rfl, rfl⟩
      go_wp2_with fail
      refine (addl (s, th, k, r, b, c, d, v) _ _ L hL (by omega)).mono ?_
      rintro e w4 ⟨rfl, hL4, k4⟩
      rw [HZ.out]
      rw [← HM.out] at hL4
      have hbr4 := hbr.trans k4
      have hP4 := hbr4.size
      have f2 : w4.cell? ⟨bb, off + k0 * 8 + 2, none⟩ = some (.int .u8 k) := by rw [Nat.add_assoc]; exact box_cell hbr4 hbl (HX.out 2 (.int .u8 k) rfl)
      have f3 : w4.cell? ⟨bb, off + k0 * 8 + 3, none⟩ = some (.int .i64 r) := by rw [Nat.add_assoc]; exact box_cell hbr4 hbl (HX.out 3 (.int .i64 r) rfl)
      clear k4 hL
      rcases hway with ⟨rfl, rfl, rfl, hD⟩ | ⟨hway, hD⟩
      · have HD := Lib.hid hD
        have hW' : Hid ((L.length : Int) = wantF M r) := by show _ = _; unfold wantF; rw [HD.out]; rfl
        clear hD hwt
        go_wp2_with fail
        refine (droppedw _ _ M _ hL4 (by omega)).mono ?_
        rintro e w5 ⟨rfl, k5⟩
        rw [HD.out]
        have hL5 := nl_below hL4 k5
        have hbr5 := hbr4.trans (k5.mono (by rw [HP.out]; exact hP4))
        clear k5 hL4
        go_wp2_with fail
        go_roundw
        case rel => exact ⟨k0 + 1, M, _, by omega, by go_num, rfl, hW', hL5, hbr5, hMl⟩
        case measure => simp [intOf]; omega
      · rcases hdw with ⟨q, hq, hql⟩ | hq
        · have HD : Hid (dropF M a1 = ((q : Int), true)) := by show _ = _; rw [hD, hq]
          have hwq : wt = q := by have := hwt.out; unfold wantF at this; rw [hq] at this; simpa using this
          have hW' : Hid ((q : Int) = wantF M a1) := by show _ = _; unfold wantF; rw [HD.out]; rfl
          subst hwq
          clear hD hwt hq
          rcases hway with h1 | ⟨rfl, h1⟩ | ⟨rfl, rfl, h1⟩
          all_goals
            go_wp2_with fail
            refine (droppedw _ _ M _ hL4 (by omega)).mono ?_
            rintro e w5 ⟨rfl, k5⟩
            rw [HD.out]
            have hL5 := nl_below hL4 k5
            have hbr5 := hbr4.trans (k5.mono (by rw [HP.out]; exact hP4))
            clear k5 hL4
            go_wp2_with fail
            go_roundw
            case rel => exact ⟨k0 + 1, M, _, by omega, by go_num, rfl, hW', hL5, hbr5, hMl⟩
            case measure => simp [intOf]; omega
        · have HD : Hid (dropF M a1 = (0, false)) := by show _ = _; rw [hD, hq]
          have hwq : wt = -1 := by have := hwt.out; unfold wantF at this; rw [hq] at this; simpa using this
          have hW' : Hid ((-1 : Int) = wantF M a1) := by show _ = _; unfold wantF; rw [HD.out]; rfl
          subst hwq
          clear hD hwt hq
          rcases hway with h1 | ⟨rfl, h1⟩ | ⟨rfl, rfl, h1⟩
          all_goals
            go_wp2_with fail
            refine (droppedw _ _ M _ hL4 (by omega)).mono ?_
            rintro e w5 ⟨rfl, k5⟩
            rw [HD.out]
            have hL5 := nl_below hL4 k5
            have hbr5 := hbr4.trans (k5.mono (by rw [HP.out]; exact hP4))
            clear k5 hL4
            go_wp2_with fail
            go_roundw
            case rel => exact ⟨k0 + 1, M, _, by omega, by go_num, rfl, hW', hL5, hbr5, hMl⟩
            case measure => simp [intOf]; omega
    · obtain rfl : k0 = l0 := by omega
      go_wp2_with fail
      refine (lives09 _).mono ?_
      rintro e w3 ⟨rfl, k2⟩
      have j := hbr.trans (k2.mono (by rw [HP.out]; exact hsz))
      clear hL
      go_wp2_with fail
      go_ret
      exact ⟨rfl, HP.out ▸ j⟩
end Go.Proofs.Yteofbgbjibbdaad
