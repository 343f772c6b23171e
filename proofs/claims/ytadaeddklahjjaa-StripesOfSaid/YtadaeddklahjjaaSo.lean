/- Lists of places that came in: their cells, their copy; a row of words that is set to nought. -/
import Derived.Test.YtadaeddklahjjaaStR
import Derived.Laws.AppendOwnNone
import Derived.Deep.RegionHeld3
import Derived.Test.YtadaeddklahjjaaOpen
namespace Go.Proofs.Ytadaeddklahjjaa
open Go.RowKit
set_option linter.unusedVariables false
theorem reads_places {w : World} {a : Option Addr} {len cap : Nat} (h : Reads Try.prog w 97 (.slice a len cap)) : (a = none → len = 0 ∧ cap = 0) ∧ len ≤ cap ∧ cap ≤ maxLen ∧ ∃ L, LayP w a len cap L := by
  rcases Reads.slice (n := 9) (e := 44) (ks := [.inl .i64, .inl .i64]) Try.underlying97 (by kernel_rfl) h with ⟨rfl, rfl, rfl⟩ | ⟨b, off, sp, rfl, h1, h2, h3, h4⟩
  · exact ⟨fun _ => ⟨rfl, rfl⟩, Nat.le_refl _, by unfold maxLen; omega, [], rfl, fun i b k hx => by simp at hx⟩
  · refine ⟨fun h => by simp at h, h1, h2, ?_⟩
    have hcc : Try.prog.cellsOf 44 = 2 := by kernel_rfl
    have hex : ∀ m, m ≤ len → ∃ L : List Pv, L.length = m ∧ ∀ i b' k, L[i]? = some (b', k) → w.cell? ⟨b, off + i * 2, none⟩ = some (.int .i64 b') ∧ w.cell? ⟨b, off + i * 2 + 1, none⟩ = some (.int .i64 k) := by
      intro m
      induction m with
      | zero => exact fun _ => ⟨[], rfl, fun i b k hx => by simp at hx⟩
      | succ m ih =>
        intro hm
        obtain ⟨L, hL, hc⟩ := ih (by omega)
        obtain ⟨l, hl, hll, hx⟩ := h4 m (by omega)
        obtain ⟨_, _, rfl, ⟨x, rfl, wx⟩, g1⟩ := all2_cons hl
        obtain ⟨_, _, rfl, ⟨y, rfl, wy⟩, g2⟩ := all2_cons g1
        obtain rfl := all2_nil g2
        rw [hcc] at hx
        refine ⟨L ++ [(x, y)], by simp [hL], fun i b' k hi => ?_⟩
        by_cases e : i < m
        · exact hc i b' k (by rw [List.getElem?_append_left (by omega)] at hi; exact hi)
        · have hi' : i = m := by
            rcases Nat.lt_or_ge i (m + 1) with h | h
            · omega
            · rw [List.getElem?_eq_none (by simp; omega)] at hi; simp at hi
          subst hi'
          rw [List.getElem?_append_right (by omega), hL, Nat.sub_self] at hi
          simp at hi
          obtain ⟨rfl, rfl⟩ := hi
          exact ⟨hx 0 _ rfl, hx 1 _ rfl⟩
    obtain ⟨L, hL, hc⟩ := hex len (Nat.le_refl _)
    refine ⟨L, hL, fun i b' k hi => ?_⟩
    have hil : i < L.length := by
      rcases Nat.lt_or_ge i L.length with h | h
      · exact h
      · rw [List.getElem?_eq_none h] at hi; simp at hi
    rw [h3 (by omega) (by omega)]
    exact ⟨b, off, rfl, h1, hc i b' k hi⟩
theorem LayP.row {w : World} {ad : Addr} {n c : Nat} {L : List Pv} (h : LayP w (some ad) n c L) : ∀ j u, (rowsP L)[j]? = some u → w.cell? (ad.add j) = some u := by
  intro j u hj
  have hjl : j < L.length * 2 := by
    rw [← rowsP_len]
    rcases Nat.lt_or_ge j (rowsP L).length with h | h
    · exact h
    · rw [List.getElem?_eq_none h] at hj; simp at hj
  obtain ⟨⟨b, k⟩, hx⟩ : ∃ x, L[j / 2]? = some x := ⟨_, List.getElem?_eq_getElem (by omega)⟩
  obtain ⟨g, o, e, hn, c0, c1⟩ := h.2 _ _ _ hx
  injection e with e
  subst e
  have hL : L[j / 2]'(by omega) = (b, k) := by rw [List.getElem?_eq_getElem (by omega)] at hx; simpa using hx
  have ha := rowsP_at L (j / 2) (j % 2) (by omega) (Nat.mod_lt _ (by omega))
  rw [show j / 2 * 2 + j % 2 = j by omega, hj, hL] at ha
  rw [Addr.add_lit]
  rcases Nat.mod_two_eq_zero_or_one j with e | e
  · rw [e] at ha
    simp [Pv.cells] at ha
    subst ha
    rw [show o + j = o + j / 2 * 2 by omega]
    exact c0
  · rw [e] at ha
    simp [Pv.cells] at ha
    subst ha
    rw [show o + j = o + j / 2 * 2 + 1 by omega]
    exact c1
theorem LayP.of {w : World} {a : Option Addr} {n c : Nat} {L : List Pv} (h : LieG w a c n (rowsP L)) (hn : n = L.length) : LayP w a n c L := by
  refine ⟨hn.symm, fun i b k hx => ?_⟩
  obtain ⟨g, rfl, hg, hi, hnc, c0, c1⟩ := h.place hn hx
  exact ⟨g, 0, rfl, hnc, by rw [Nat.zero_add]; exact c0, by rw [Nat.zero_add]; exact c1⟩
theorem pv_one {L : List Pv} {u : Value} (h : u ∈ rowsP L) : u.oneCell' = true := by
  simp only [rowsP, List.mem_flatMap] at h
  obtain ⟨x, _, hu⟩ := h
  simp [Pv.cells] at hu
  rcases hu with rfl | rfl <;> rfl
/-- 'append([]Place(nil), l...)'. -/
theorem wpList_copy_places (w : World) {ops : Array Oper} {rest : List Oper} {o : Oper} {a : Act} {Q : Exit → Act → World → Prop} (hgd : o.guard = none) (s x : Operand)
    (ho : o.op = .call { callee := .builtin .append, args := #[s, x], argTypes := #[97, 97] })
    (hs : a.eval s = .slice none 0 0) (A : Option Addr) (n c : Nat) (L : List Pv) (hx : a.eval x = .slice A n c) (hr : LayP w A n c L) (hc0 : A = none → n = 0 ∧ c = 0) (hn : n ≤ 1000000)
    (h : ∀ v' w', w'.ownsRow w.heap.size 44 2 v' n (rowsP L) → Below w.heap.size w w' → wpList Try.prog ops Q rest (a.put o.dst v') w') : wpList Try.prog ops Q (o :: rest) a w := by
  obtain ⟨i0, hi, hz0, hz1, hz2⟩ := info_parts info_place
  have hnil : w.ownsRow w.heap.size 44 2 (.slice none 0 0) 0 [] := World.ownsRow_nil _ _ _ _
  cases A with
  | none =>
    obtain ⟨rfl, rfl⟩ := hc0 rfl
    obtain rfl : L = [] := List.eq_nil_of_length_eq_zero hr.1
    refine wpList_append_own_none hgd s x _ ho w.heap.size 44 i0 2 Try.underlying97 hi _ _ _ hs hnil hx ?_
    exact h _ w hnil (Below.refl _ _)
  | some ad =>
    refine wpList_append_own w hgd s x _ ho w.heap.size 44 i0 (.agg #[.int .i64 0, .int .i64 0]) 2 16 Try.underlying97 hi hz0 hz1 hz2 rfl (by decide) _ _ _ hs hnil ad n c (rowsP L) hx (by rw [rowsP_len, hr.1]) hr.row (fun u hu => pv_one hu) (by unfold maxLen; omega) (by omega) (Nat.le_refl _) ?_
    intro v' w' h1 h2 h3
    refine h v' w' (by simpa using h1) ((Below.refl w.heap.size w).grown h2 (by simp) (fun k hk => by simp [Value.ownBlock] at hk))
/-- A row of words, from the k-th on; all else stands. -/
def SoA (w1 w3 X : World) (a2 : Option Addr) (D : List Int) (k : Nat) : Prop := Below w1.heap.size w1 X ∧ Keeps (fun j => a2 = some ⟨j, 0, none⟩) w3 X ∧ ∀ j x, k ≤ j → D[j]? = some x → ∃ g, a2 = some ⟨g, 0, none⟩ ∧ w1.heap.size ≤ g ∧ X.cell? ⟨g, j, none⟩ = some (.int .u64 x) ∧ X.frozen? ⟨g, j, none⟩ = false
theorem SoA.start {w1 w2 w3 : World} {a2 : Option Addr} {m n : Nat} {D : List Int} (hm : m = D.length) (h : Lst w2 w1.heap.size 1 (.slice a2 m n) m (rowsU D)) (h2 : Below w1.heap.size w1 w2) (h3 : Below w2.heap.size w2 w3) : SoA w1 w3 w3 a2 D 0 := by
  refine ⟨h2.trans (h3.mono h2.size), Keeps.refl _ _, fun j x _ hx => ?_⟩
  have hj : j < D.length := by
    rcases Nat.lt_or_ge j D.length with h | h
    · exact h
    · rw [List.getElem?_eq_none h] at hx; simp at hx
  obtain ⟨_, ⟨e, h0⟩ | ⟨g, cap, e, hB, hg, hn, hc, hx'⟩⟩ := h
  · omega
  · injection e with e1 e2 e3
    obtain ⟨q0, q1⟩ := hx' j _ (rowsU_at hx)
    have hk : Keeps (fun _ => False) w2 w3 := Keeps.of_new h3
    exact ⟨g, e1, hB, hk.cell (p := ⟨g, j, none⟩) (by simp) q0, hk.frozen (p := ⟨g, j, none⟩) (by simp) hg q1⟩
theorem SoA.drew {w1 w3 X : World} {a2 : Option Addr} {D : List Int} {k : Nat} (h : SoA w1 w3 X a2 D k) : SoA w1 w3 X.drew a2 D k := ⟨h.1.drew, h.2.1.drew, h.2.2⟩
theorem SoA.drewN {w1 w3 X : World} {a2 : Option Addr} {D : List Int} {k : Nat} (h : SoA w1 w3 X a2 D k) (n : Nat) : SoA w1 w3 (X.drewN n) a2 D k := by
  induction n with
  | zero => exact h
  | succ n ih => exact ih.drew
theorem SoA.set {w1 w3 X : World} {g : Nat} {D : List Int} {k : Nat} (h : SoA w1 w3 X (some ⟨g, 0, none⟩) D k) (hg : w1.heap.size ≤ g) (u : Value) : SoA w1 w3 (X.setCell ⟨g, k, none⟩ u) (some ⟨g, 0, none⟩) D (k + 1) := by
  obtain ⟨h1, h2, h3⟩ := h
  refine ⟨(Keeps.setCell (S := fun k => w1.heap.size ≤ k) (Keeps.of_below h1) (p := ⟨g, k, none⟩) (.inl hg) u).to_below (fun _ _ s => s) (Nat.le_refl _), h2.setCell (p := ⟨g, k, none⟩) (.inl rfl) u, fun j x hj hx => ?_⟩
  obtain ⟨g', e, q0, q1, q2⟩ := h3 j x (by omega) hx
  injection e with e
  injection e with e
  subst e
  exact ⟨g, rfl, q0, set_other (by omega) q1, by rw [World.frozen?_setCell]; exact q2⟩
theorem SoA.row {w1 w3 X : World} {a2 a3 : Option Addr} {D : List Int} {k c m : Nat} (h : SoA w1 w3 X a2 D k) (hb : LieG w3 a3 c m (rowsU D)) (hne : 0 < m → ∀ g, a3 = some ⟨g, 0, none⟩ → a2 ≠ some ⟨g, 0, none⟩) : LieG X a3 c m (rowsU D) := by
  intro hm
  obtain ⟨g, rfl, q1, q2, q3⟩ := hb hm
  exact ⟨g, rfl, Nat.lt_of_lt_of_le q1 h.2.1.size, q2, fun j u hu => h.2.1.cell (p := ⟨g, j, none⟩) (hne hm g rfl) (q3 j u hu)⟩
/-- In a region that draws: the one operation that may come up is a call. -/
theorem wpAnyH_one {P : Program} {ops : Array Oper} {Q : Exit → Act → World → Prop} {md : Region.Mode} {S : World → Prop} {fuel : Nat} {listed : Array Bool} {a : Act} {w : World} {i : Nat} {o : Oper} (hr : Region.ready md ops listed = [i]) (ho : ops[i]? = some o) (hw : Region.wanted o (yielded ops a.tmps) = true) (h : o.wp P a w (fun a' w' => S w' ∧ wpAnyH P md ops Q S fuel (listed.setIfInBounds i true) a' w') Q) : wpAnyH P md ops Q S (fuel + 1) listed a w :=
  wpAnyH_all hr (by simp) (fun j hj => by
    obtain rfl : j = i := by simpa using hj
    unfold wpOp
    simp only [ho]
    rw [if_pos hw]
    exact .inl h)
theorem wpAnyH_call {P : Program} {ops : Array Oper} {Q : Exit → Act → World → Prop} {md : Region.Mode} {S : World → Prop} {fuel : Nat} {listed : Array Bool} {a : Act} {w : World} {i : Nat} {o : Oper} {R : World → Prop} (hr : Region.ready md ops listed = [i]) (ho : ops[i]? = some o) (hw : Region.wanted o (yielded ops a.tmps) = true) (f : FuncId) (args : Array Value) (he : (execOp a.eval o).run P w = .ok (.enter f args) w) (v : Value) (hc : Calls P f args w fun e w' => e = .returned v ∧ R w') (h : ∀ w', R w' → S w' ∧ wpAnyH P md ops Q S fuel (listed.setIfInBounds i true) (a.put o.dst v) w') : wpAnyH P md ops Q S (fuel + 1) listed a w :=
  wpAnyH_one hr ho hw (by
    unfold Oper.wp
    rw [he, Oper.upon_enter]
    exact hc.mono (by rintro e w' ⟨rfl, hR⟩; exact h w' hR))
end Go.Proofs.Ytadaeddklahjjaa
