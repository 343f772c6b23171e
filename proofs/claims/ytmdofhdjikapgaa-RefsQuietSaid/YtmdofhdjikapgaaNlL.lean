/- Lists of notes: what Add tells, and leaves; how many there are. -/
import Derived.Test.YtmdofhdjikapgaaNl
namespace Go.Proofs.Ytmdofhdjikapgaa
open Go.RowKit
set_option linter.unusedVariables false

/-- A note: step, thread, kind, ref, spot (bits, bucket, slot), value. -/
abbrev Nv := Int × Int × Int × Int × Int × Int × Int × Int
def Nv.s (x : Nv) : Int := x.1
def Nv.k (x : Nv) : Int := x.2.2.1
def Nv.r (x : Nv) : Int := x.2.2.2.1
def Nv.cells : Nv → List Value
  | (s, th, k, r, b, c, d, v) => ncells s th k r b c d v
def Nv.agg : Nv → Value
  | (s, th, k, r, b, c, d, v) => .agg #[.int .i64 s, .int .i64 th, .int .u8 k, .int .i64 r, .int .i64 b, .int .i64 c, .int .i64 d, .int .i64 v]
def rowsN (L : List Nv) : List Value := L.flatMap Nv.cells
theorem cells_len (x : Nv) : x.cells.length = 8 := rfl
theorem rowsN_len (L : List Nv) : (rowsN L).length = L.length * 8 := by
  induction L with
  | nil => rfl
  | cons x L ih => simp only [rowsN, List.flatMap_cons, List.length_append] at *; rw [ih, cells_len]; simp; omega
theorem rowsN_snoc (L : List Nv) (x : Nv) : rowsN (L ++ [x]) = rowsN L ++ x.cells := by simp [rowsN]
theorem rowsN_at : ∀ (L : List Nv) (i j : Nat) (hi : i < L.length), j < 8 → (rowsN L)[i * 8 + j]? = L[i].cells[j]?
  | x :: L, 0, j, hi, hj => by
    simp only [rowsN, List.flatMap_cons, Nat.zero_mul, Nat.zero_add, List.getElem_cons_zero]
    rw [List.getElem?_append_left (by rw [cells_len]; exact hj)]
  | x :: L, i + 1, j, hi, hj => by
    have ih := rowsN_at L i j (by simpa using hi) hj
    simp only [rowsN, List.flatMap_cons, List.getElem_cons_succ] at *
    rw [List.getElem?_append_right (by rw [cells_len]; omega), cells_len, ← ih]
    congr 1
    omega
def IsL (w : World) (p : Nat) (L : List Nv) : Prop := IsNl w p L.length (rowsN L)
/-- May a note stand behind these? -/
def lowN (L : List Nv) (x : Nv) : Bool := match L.getLast? with
  | some y => decide (x.s < y.s)
  | none => false
def addF (L : List Nv) (x : Nv) : Int := if iskf x.k = false ∨ lowN L x = true then 1 else if 1048576 ≤ L.length then 3 else 0
def addL (L : List Nv) (x : Nv) : List Nv := if addF L x = 0 then L ++ [x] else L
theorem last_at {L : List Nv} (h : 0 < L.length) : ∃ y : Nv, L.getLast? = some y ∧ (rowsN L)[(L.length - 1) * 8]? = some (.int .i64 y.s) := by
  refine ⟨L[L.length - 1]'(by omega), ?_, ?_⟩
  · rw [List.getLast?_eq_getElem?, List.getElem?_eq_getElem (by omega)]
  · have := rowsN_at L (L.length - 1) 0 (by omega) (by omega)
    rw [Nat.add_zero] at this
    rw [this]
    obtain ⟨s, th, k, r, b, c, d, v⟩ := L[L.length - 1]'(by omega)
    rfl
theorem countl (w : World) (p n : Nat) (xs : List Value) (h : IsNl w p n xs) (hn : n ≤ 9223372036854775807) :
    Calls Try.prog 25 #[.pointer (some ⟨p, 0, none⟩)] w fun e w' => e = .returned (.int .i64 n) ∧ w = w' := by
  obtain ⟨u, hp, hf, hown, hnil⟩ := h
  obtain ⟨_, ⟨rfl, rfl⟩ | ⟨g, cap, rfl, _, _, hnc, hc, _⟩⟩ := Lst.of_own hown
  · clear hnil
    go_enter Try.func25, Try.ntmps25
    go_wp2
    go_ret
    exact ⟨rfl, rfl⟩
  · clear hown hnil
    go_enter Try.func25, Try.ntmps25
    go_wp2
    go_ret
    exact ⟨rfl, rfl⟩
set_option maxHeartbeats 4000000 in
set_option maxRecDepth 100000 in
/-- A note of no kind. -/
theorem addl_kind (s th k r b c d v : Int) (w : World) (p n : Nat) (xs : List Value) (h : IsNl w p n xs) (hk : iskf k = false) :
    Calls Try.prog 65 #[.pointer (some ⟨p, 0, none⟩), .agg #[.int .i64 s, .int .i64 th, .int .u8 k, .int .i64 r, .int .i64 b, .int .i64 c, .int .i64 d, .int .i64 v]] w fun e w' => e = .returned (.int .i64 1) ∧ Below w.heap.size w w' := by
  obtain ⟨u, hp, hf, hown, hnil⟩ := h
  have hp' := fun o => (World.cell?_alloc_some w _ o (by simp [hp])).trans hp
  obtain ⟨_, ⟨rfl, rfl⟩ | ⟨g, cap, rfl, _, _, hnc, hc, _⟩⟩ := Lst.of_own hown
  all_goals
    clear hown hnil
    go_enter Try.func65, Try.ntmps65
    go_wp2_with fail
    go_quiet ((go_at_call 93; exact quiet_left (iskw _ _)))
    go_wp2_with fail
    go_ret
    exact ⟨rfl, belowNd ((Below.refl w.heap.size w).alloc (Nat.le_refl _) _) nq⟩
set_option maxHeartbeats 4000000 in
set_option maxRecDepth 100000 in
/-- A note of an elder step. -/
theorem addl_low (s th k r b c d v ls : Int) (w : World) (p n g cap : Nat) (xs : List Value) (hn : 0 < n) (hnM : n ≤ 9223372036854775807) (hp : w.cell? ⟨p, 0, none⟩ = some (.slice (some ⟨g, 0, none⟩) n cap)) (hown0 : w.ownsRow (p + 1) 76 8 (.slice (some ⟨g, 0, none⟩) n cap) n xs)
    (hl : xs[(n - 1) * 8]? = some (.int .i64 ls)) (hs : s < ls) (hk : iskf k = true) :
    Calls Try.prog 65 #[.pointer (some ⟨p, 0, none⟩), .agg #[.int .i64 s, .int .i64 th, .int .u8 k, .int .i64 r, .int .i64 b, .int .i64 c, .int .i64 d, .int .i64 v]] w fun e w' => e = .returned (.int .i64 1) ∧ Below w.heap.size w w' := by
  have hp' := fun o => (World.cell?_alloc_some w _ o (by simp [hp])).trans hp
  have hc0 : w.cell? ⟨g, (n - 1) * 8, none⟩ = some (.int .i64 ls) := by
    have := hown0.cells rfl _ _ hl
    rwa [Addr.add_lit, Nat.zero_add] at this
  have hc' := fun o => (World.cell?_alloc_some w _ o (by simp [hc0])).trans hc0
  have hs' : decide (s < ls) = true := decide_eq_true hs
  have y1 : ((n : Int) - 1).toNat = n - 1 := by omega
  have y2 : IntKind.i64.wrap ((n : Int) - 1) = (n : Int) - 1 := IntWalk.i64_in _ (by omega)
  have y3 : 0 ≤ (n : Int) - 1 := by omega
  have y4 : (n : Int) - 1 < n := by omega
  have y5 : (1 : Int) ≤ n := by omega
  clear hc0 hnM hs'
  go_enter Try.func65, Try.ntmps65
  go_wp2_with fail
  go_quiet ((go_at_call 93; exact quiet_left (iskw _ _)))
  go_wp2_with fail
  go_ret
  exact ⟨rfl, belowNd ((Below.refl w.heap.size w).alloc (Nat.le_refl _) _) nq⟩
set_option maxHeartbeats 4000000 in
set_option maxRecDepth 100000 in
/-- A list that is full. -/
theorem addl_full (s th k r b c d v ls : Int) (w : World) (p n g cap : Nat) (xs : List Value) (hnM : n = 1048576) (hp : w.cell? ⟨p, 0, none⟩ = some (.slice (some ⟨g, 0, none⟩) n cap)) (hown0 : w.ownsRow (p + 1) 76 8 (.slice (some ⟨g, 0, none⟩) n cap) n xs)
    (hl : xs[(n - 1) * 8]? = some (.int .i64 ls)) (hs : ¬ s < ls) (hk : iskf k = true) :
    Calls Try.prog 65 #[.pointer (some ⟨p, 0, none⟩), .agg #[.int .i64 s, .int .i64 th, .int .u8 k, .int .i64 r, .int .i64 b, .int .i64 c, .int .i64 d, .int .i64 v]] w fun e w' => e = .returned (.int .i64 3) ∧ Below w.heap.size w w' := by
  have hp' := fun o => (World.cell?_alloc_some w _ o (by simp [hp])).trans hp
  have hc0 : w.cell? ⟨g, (n - 1) * 8, none⟩ = some (.int .i64 ls) := by
    have := hown0.cells rfl _ _ hl
    rwa [Addr.add_lit, Nat.zero_add] at this
  have hc' := fun o => (World.cell?_alloc_some w _ o (by simp [hc0])).trans hc0
  have hs' : decide (s < ls) = false := decide_eq_false hs
  have y1 : ((n : Int) - 1).toNat = n - 1 := by omega
  have y2 : IntKind.i64.wrap ((n : Int) - 1) = (n : Int) - 1 := IntWalk.i64_in _ (by omega)
  have y3 : 0 ≤ (n : Int) - 1 := by omega
  have y4 : (n : Int) - 1 < n := by omega
  have y5 : (1 : Int) ≤ n := by omega
  have y6 : decide ((1048576 : Int) ≤ (n : Int)) = true := decide_eq_true (by omega)
  have hn : 0 < n := by omega
  clear hc0 hnM
  go_enter Try.func65, Try.ntmps65
  go_wp2_with fail
  go_quiet ((go_at_call 93; exact quiet_left (iskw _ _)))
  go_wp2_with fail
  go_ret
  exact ⟨rfl, belowNd ((Below.refl w.heap.size w).alloc (Nat.le_refl _) _) nq⟩
theorem nl_below {w w' : World} {p n : Nat} {xs : List Value} (h : IsNl w p n xs) (hb : Below w.heap.size w w') : IsNl w' p n xs := by
  obtain ⟨u, hp, hf, hown, hnil⟩ := h
  have hlt : p < w.heap.size := World.block_lt_of_cell? _ _ hp
  exact ⟨u, (hb.cell hlt).trans hp, (hb.frozen hlt).trans hf, own_below hown hb, hnil⟩
/-- Add, of whatever note, to whatever list. -/
theorem addl (x : Nv) (w : World) (p : Nat) (L : List Nv) (h : IsL w p L) (hM : L.length ≤ 1048576) :
    Calls Try.prog 65 #[.pointer (some ⟨p, 0, none⟩), x.agg] w fun e w' => e = .returned (.int .i64 (addF L x)) ∧ IsL w' p (addL L x) ∧ Below p w w' := by
  obtain ⟨s, th, k, r, b, c, d, v⟩ := x
  have hh := h
  have hlt : p < w.heap.size := by obtain ⟨u, hp, _⟩ := h; exact World.block_lt_of_cell? _ _ hp
  have done1 : ∀ z : Int, addF L (s, th, k, r, b, c, d, v) = z → z ≠ 0 → (Calls Try.prog 65 #[.pointer (some ⟨p, 0, none⟩), .agg #[.int .i64 s, .int .i64 th, .int .u8 k, .int .i64 r, .int .i64 b, .int .i64 c, .int .i64 d, .int .i64 v]] w fun e w' => e = .returned (.int .i64 z) ∧ Below w.heap.size w w') →
      Calls Try.prog 65 #[.pointer (some ⟨p, 0, none⟩), (Nv.agg (s, th, k, r, b, c, d, v))] w fun e w' => e = .returned (.int .i64 (addF L (s, th, k, r, b, c, d, v))) ∧ IsL w' p (addL L (s, th, k, r, b, c, d, v)) ∧ Below p w w' := by
    intro z hz h0 hcall
    refine hcall.mono fun e w' ⟨he, hb⟩ => ⟨by rw [he, hz], ?_, hb.mono (Nat.le_of_lt hlt)⟩
    unfold addL
    rw [if_neg (by rw [hz]; exact h0)]
    exact nl_below hh hb
  by_cases hk : iskf k = true
  · obtain ⟨u, hp, hf, hown, hnil⟩ := h
    obtain ⟨hlen, ⟨rfl, h0⟩ | ⟨g, cap, rfl, _, _, hnc, hc, _⟩⟩ := Lst.of_own hown
    · have hL : L = [] := List.eq_nil_of_length_eq_zero h0
      subst hL
      have hz : addF [] (s, th, k, r, b, c, d, v) = 0 := by
        unfold addF lowN
        rw [if_neg (by simp [Nv.k, hk]), if_neg (by simp)]
      refine (addl_first s th k r b c d v w p hp hf hk).mono fun e w' ⟨he, hn, hb⟩ => ⟨by rw [he, hz], ?_, hb⟩
      unfold addL
      rw [if_pos hz]
      exact hn
    · by_cases hn0 : 0 < L.length
      · obtain ⟨y, hy1, hy2⟩ := last_at hn0
        by_cases hs : s < y.s
        · refine done1 1 ?_ (by decide) (addl_low s th k r b c d v y.s w p _ g cap _ hn0 (by omega) hp hown hy2 hs hk)
          unfold addF lowN
          rw [hy1, if_pos (.inr (decide_eq_true hs))]
        · have hlo : ¬ (iskf (Nv.k (s, th, k, r, b, c, d, v)) = false ∨ lowN L (s, th, k, r, b, c, d, v) = true) := by
            unfold lowN
            rw [hy1]
            intro e
            rcases e with e | e
            · exact absurd (hk.symm.trans e) (by decide)
            · exact hs (of_decide_eq_true e)
          by_cases hfull : L.length = 1048576
          · refine done1 3 ?_ (by decide) (addl_full s th k r b c d v y.s w p _ g cap _ hfull hp hown hy2 hs hk)
            unfold addF
            rw [if_neg hlo, if_pos (by omega)]
          · have hz : addF L (s, th, k, r, b, c, d, v) = 0 := by
              unfold addF
              rw [if_neg hlo, if_neg (by omega)]
            refine (addl_more s th k r b c d v y.s w p _ g cap _ hn0 (by omega) hp hf hown hy2 hs hk).mono fun e w' ⟨he, hn, hb⟩ => ⟨by rw [he, hz], ?_, hb⟩
            unfold addL
            rw [if_pos hz]
            unfold IsL
            rw [rowsN_snoc, List.length_append]
            exact hn
      · have hL : L = [] := List.eq_nil_of_length_eq_zero (by omega)
        subst hL
        exact absurd (hnil rfl) (by simp)
  · have hk' : iskf k = false := by simpa using hk
    refine done1 1 ?_ (by decide) (addl_kind s th k r b c d v w p _ _ h hk')
    unfold addF
    rw [if_pos (.inl hk')]
end Go.Proofs.Ytmdofhdjikapgaa
