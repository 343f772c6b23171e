/- The chapter's lists of notes, framed by sets of blocks: Add of whatever note. -/
import Derived.Test.YteofbgbjibbdaacNrT2
import Derived.Test.YteofbgbjibbdaacNrB
import Derived.Test.YteofbgbjibbdaacNlT3
namespace Go.Proofs.Yteofbgbjibbdaac
open Go.RowKit
set_option linter.unusedVariables false

def Nv.rcells : Nv → List Value
  | (s, th, k, r, b, c, d, v) => Proofs.Yteofbgbjibbdaac.rcells s th k r b c d v
def Nv.ragg : Nv → Value
  | (s, th, k, r, b, c, d, v) => .agg #[.int .i64 s, .int .i64 th, .int .i64 k, .int .i64 r, .int .i64 b, .int .i64 c, .int .i64 d, .int .i64 v]
def rowsR (L : List Nv) : List Value := L.flatMap Nv.rcells
theorem rcells_len (x : Nv) : x.rcells.length = 8 := rfl
theorem rowsR_len (L : List Nv) : (rowsR L).length = L.length * 8 := by
  induction L with
  | nil => rfl
  | cons x L ih => simp only [rowsR, List.flatMap_cons, List.length_append] at *; rw [ih, rcells_len]; simp; omega
theorem rowsR_snoc (L : List Nv) (x : Nv) : rowsR (L ++ [x]) = rowsR L ++ x.rcells := by simp [rowsR]
theorem rowsR_at : ∀ (L : List Nv) (i j : Nat) (hi : i < L.length), j < 8 → (rowsR L)[i * 8 + j]? = L[i].rcells[j]?
  | x :: L, 0, j, hi, hj => by
    simp only [rowsR, List.flatMap_cons, Nat.zero_mul, Nat.zero_add, List.getElem_cons_zero]
    rw [List.getElem?_append_left (by rw [rcells_len]; exact hj)]
  | x :: L, i + 1, j, hi, hj => by
    have ih := rowsR_at L i j (by simpa using hi) hj
    simp only [rowsR, List.flatMap_cons, List.getElem_cons_succ] at *
    rw [List.getElem?_append_right (by rw [rcells_len]; omega), rcells_len, ← ih]
    congr 1
    omega
theorem last_atR {L : List Nv} (h : 0 < L.length) : ∃ y : Nv, L.getLast? = some y ∧ (rowsR L)[(L.length - 1) * 8]? = some (.int .i64 y.s) := by
  refine ⟨L[L.length - 1]'(by omega), ?_, ?_⟩
  · rw [List.getLast?_eq_getElem?, List.getElem?_eq_getElem (by omega)]
  · have := rowsR_at L (L.length - 1) 0 (by omega) (by omega)
    rw [Nat.add_zero] at this
    rw [this]
    obtain ⟨s, th, k, r, b, c, d, v⟩ := L[L.length - 1]'(by omega)
    rfl
set_option maxHeartbeats 4000000 in
set_option maxRecDepth 100000 in
theorem raddt_low (s th k r b c d v ls : Int) (w : World) (p n g cap : Nat) (xs : List Value) (hn : 0 < n) (hnM : n < 1048576) {T : Nat → Prop} (h : IsNrt w p n xs (.slice (some ⟨g, 0, none⟩) n cap) T)
    (hl : xs[(n - 1) * 8]? = some (.int .i64 ls)) (hs : s < ls) (k1 : 1 ≤ k) (k9 : k ≤ 9) :
    Calls Try.prog 55 #[.pointer (some ⟨p, 0, none⟩), .agg #[.int .i64 s, .int .i64 th, .int .i64 k, .int .i64 r, .int .i64 b, .int .i64 c, .int .i64 d, .int .i64 v]] w fun e w' => e = .returned (.int .i64 1) ∧ Below w.heap.size w w' := by
  obtain ⟨i0, hi, hz0, hz1, hz2⟩ := info_parts info_rnote
  have hp := h.c0
  have hf := h.f0
  have hown0 := h.row
  have HH := Lib.hid h
  clear h
  have hlt : p < w.heap.size := World.block_lt_of_cell? _ _ hp
  have hp' := fun o => (World.cell?_alloc_some w _ o (by simp [hp])).trans hp
  have hc0 : w.cell? ⟨g, (n - 1) * 8, none⟩ = some (.int .i64 ls) := by
    have := hown0.cells rfl _ _ hl
    rwa [Addr.add_lit, Nat.zero_add] at this
  have hc' := fun o => (World.cell?_alloc_some w _ o (by simp [hc0])).trans hc0
  have hs' : decide (s < ls) = true := decide_eq_true hs
  have y1 : ((n : Int) - 1).toNat = n - 1 := by omega
  have y2 : IntKind.i64.wrap ((n : Int) - 1) = (n : Int) - 1 := IntWalk.i64_in _ (by omega)
  have y3 : 0 ≤ (n : Int) - 1 := by omega
  have y4 : (n : Int) - 1 < n := by omega
  have y5 : (1 : Int) ≤ n := by omega
  have HNM := Lib.hid hnM
  clear hc0 hnM
  go_enter Try.func55, Try.ntmps55
  go_wp2_with fail
  go_quiet (fail)
  go_wp2_with fail
  go_ret
  exact ⟨rfl, belowNd ((Below.refl w.heap.size w).alloc (Nat.le_refl _) _) nq⟩
/-- A list of the chapter's, of these notes, that owns T. -/
def Nrs (w : World) (p : Nat) (L : List Nv) (T : Nat → Prop) : Prop := ∃ v, IsNrt w p L.length (rowsR L) v T
theorem Nrs.keep {w W : World} {p : Nat} {L : List Nv} {T S : Nat → Prop} (h : Nrs w p L T) (hk : Keeps S w W) (hT : ∀ k, T k → ¬ S k) : Nrs W p L T := by
  obtain ⟨v, h⟩ := h
  exact ⟨v, h.keep hk hT⟩
theorem Nrs.new {w W : World} {p : Nat} {L : List Nv} {T : Nat → Prop} (h : Nrs w p L T) (hk : Below w.heap.size w W) : Nrs W p L T := h.keep (Keeps.of_new (S := fun _ => False) hk) (fun _ _ s => s)
theorem nrs_made (W : World) (t : TypeId) : Nrs (W.alloc (.cells #[.slice none 0 0] t)) W.heap.size [] (fun k => k = W.heap.size) :=
  ⟨_, by simp, by simp, World.ownsRow_nil _ _ _ _, fun _ => rfl, fun g hg => by simp [Value.ownBlock] at hg, rfl, fun k e => by rw [e]; simp⟩
theorem raddT (x : Nv) {w : World} {p : Nat} {L : List Nv} {T : Nat → Prop} (h : Nrs w p L T) (hM : L.length < 1048576) :
    Calls Try.prog 55 #[.pointer (some ⟨p, 0, none⟩), x.ragg] w fun e w' => e = .returned (.int .i64 (addF L x)) ∧ ∃ T', Turn T T' w w' ∧ Nrs w' p (addL L x) T' := by
  obtain ⟨s, th, k, r, b, c, d, v⟩ := x
  have hh := h
  have done1 : addF L (s, th, k, r, b, c, d, v) = 1 → (Calls Try.prog 55 #[.pointer (some ⟨p, 0, none⟩), .agg #[.int .i64 s, .int .i64 th, .int .i64 k, .int .i64 r, .int .i64 b, .int .i64 c, .int .i64 d, .int .i64 v]] w fun e w' => e = .returned (.int .i64 1) ∧ Below w.heap.size w w') →
      Calls Try.prog 55 #[.pointer (some ⟨p, 0, none⟩), (Nv.ragg (s, th, k, r, b, c, d, v))] w fun e w' => e = .returned (.int .i64 (addF L (s, th, k, r, b, c, d, v))) ∧ ∃ T', Turn T T' w w' ∧ Nrs w' p (addL L (s, th, k, r, b, c, d, v)) T' := by
    intro hz hcall
    refine hcall.mono fun e w' ⟨he, hb⟩ => ⟨by rw [he, hz], T, ⟨Keeps.of_new hb, fun k s => .inl s⟩, ?_⟩
    unfold addL
    rw [if_neg (by rw [hz]; decide)]
    exact hh.new hb
  by_cases hk : iskf k = true
  · have hk19 : 1 ≤ k ∧ k ≤ 9 := by simpa [iskf] using hk
    obtain ⟨u, h⟩ := h
    obtain ⟨hlen, ⟨rfl, h0⟩ | ⟨g, cap, rfl, _, _, hnc, hc, _⟩⟩ := Lst.of_own h.row
    · have hL : L = [] := List.eq_nil_of_length_eq_zero h0
      subst hL
      have hz : addF [] (s, th, k, r, b, c, d, v) = 0 := by
        unfold addF lowN
        rw [if_neg (by simp [Nv.k, hk]), if_neg (by simp)]
      refine (raddt_first s th k r b c d v w p h hk19.1 hk19.2).mono fun e w' ⟨he, T', v', ht, hn⟩ => ⟨by rw [he, hz], T', ht, v', ?_⟩
      unfold addL
      rw [if_pos hz]
      exact hn
    · by_cases hn0 : 0 < L.length
      · obtain ⟨y, hy1, hy2⟩ := last_atR hn0
        by_cases hs : s < y.s
        · refine done1 ?_ (raddt_low s th k r b c d v y.s w p _ g cap _ hn0 hM h hy2 hs hk19.1 hk19.2)
          unfold addF lowN
          rw [hy1, if_pos (.inr (decide_eq_true hs))]
        · have hz : addF L (s, th, k, r, b, c, d, v) = 0 := by
            unfold addF lowN
            rw [hy1, if_neg, if_neg (by omega)]
            intro e
            rcases e with e | e
            · exact absurd (hk.symm.trans e) (by decide)
            · exact hs (of_decide_eq_true e)
          refine (raddt_more s th k r b c d v y.s w p _ g cap _ hn0 hM h hy2 hs hk19.1 hk19.2).mono fun e w' ⟨he, T', v', ht, hn⟩ => ⟨by rw [he, hz], T', ht, v', ?_⟩
          unfold addL
          rw [if_pos hz]
          rw [rowsR_snoc, List.length_append]
          exact hn
      · have hL : L = [] := List.eq_nil_of_length_eq_zero (by omega)
        subst hL
        exact absurd (h.nil rfl) (by simp)
  · have hk' : iskf k = false := by simpa using hk
    have hk19 : k < 1 ∨ 9 < k := by simp [iskf] at hk'; omega
    refine done1 ?_ (radd_bad w p s th k r b c d v hk19)
    unfold addF
    rw [if_pos (.inl hk')]
end Go.Proofs.Yteofbgbjibbdaac
