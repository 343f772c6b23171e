/- A key's places while tables grow. -/
import Derived.Test.YtepkpbhhiianpaaGw4
import Derived.Test.YtepkpbhhiianpaaGPs
namespace Go.Proofs.Ytepkpbhhiianpaa
open Go.RowKit Go.Maps
set_option linter.unusedVariables false
theorem addP_memK {D : List Pv} {p x : Pv} (h : x ∈ addP D p) : x ∈ D ∨ x = p := by
  unfold addP at h
  split at h
  · exact .inl h
  · simpa using h
theorem addP_appK {D E : List Pv} {r : Pv} (h : r ∉ D) : addP (D ++ E) r = D ++ addP E r := by
  unfold addP
  by_cases c : r ∈ E
  · simp [c]
  · simp [c, h]
theorem ded_two (n a b : Int) : 0 < (dedP [(n, a), (n, b)]).length ∧ (dedP [(n, a), (n, b)]).length ≤ 2 ∧ ∀ x, x ∈ dedP [(n, a), (n, b)] → x.1 = n := by
  have hm : ∀ x, x ∈ dedP [(n, a), (n, b)] → x.1 = n := fun x hx => by
    have hx' : x ∈ addP (addP [] (n, a)) (n, b) := hx
    rcases addP_memK hx' with h | h
    · rcases addP_memK h with h | h
      · simp at h
      · rw [h]
    · rw [h]
  refine ⟨?_, dedP_len _, hm⟩
  show 0 < (addP (addP [] (n, a)) (n, b)).length
  have e : addP [] (n, a) = [(n, a)] := by simp [addP]
  rw [e]
  unfold addP
  split <;> simp
theorem ded_four (n m a b c d : Int) (h : m ≠ n) : dedP [(n, a), (n, b), (m, c), (m, d)] = dedP [(n, a), (n, b)] ++ dedP [(m, c), (m, d)] := by
  have hm := (ded_two n a b).2.2
  have no : ∀ z, (m, z) ∉ dedP [(n, a), (n, b)] := fun z hz => h (hm _ hz)
  show addP (addP (dedP [(n, a), (n, b)]) (m, c)) (m, d) = dedP [(n, a), (n, b)] ++ addP (addP [] (m, c)) (m, d)
  rw [show addP (dedP [(n, a), (n, b)]) (m, c) = dedP [(n, a), (n, b)] ++ addP [] (m, c) by
    have := addP_appK (E := []) (no c)
    rwa [List.append_nil] at this]
  exact addP_appK (no d)
theorem places_one (h n : Int) (hn : 1 ≤ n ∧ n ≤ 12) : 0 < (placesF h n).length ∧ (placesF h n).length ≤ 2 ∧ ∀ x, x ∈ placesF h n → x.1 = n := by
  obtain ⟨h1, h2⟩ := asO_one hn
  unfold placesF placesL
  rw [h1, h2, if_pos rfl]
  exact ded_two _ _ _
theorem places_two (h n : Int) (hn : 1 ≤ n ∧ n ≤ 11) : placesF h (wordf n (n + 1)) = placesF h n ++ placesF h (n + 1) := by
  obtain ⟨h1, h2⟩ := asO_two hn
  obtain ⟨h3, h4⟩ := asO_one (b := n) ⟨hn.1, by omega⟩
  obtain ⟨h5, h6⟩ := asO_one (b := n + 1) ⟨by omega, by omega⟩
  unfold placesF placesL
  rw [h1, h2, h3, h4, h5, h6, if_pos rfl, if_pos rfl, if_neg (by omega)]
  exact ded_four _ _ _ _ _ _ (by omega)
/-- Places, as they lie. -/
def PlsAt (w : World) (g : Nat) (L : List Pv) : Prop := g < w.heap.size ∧ ∀ i b k, L[i]? = some (b, k) → w.cell? ⟨g, i * 2, none⟩ = some (.int .i64 b) ∧ w.cell? ⟨g, i * 2 + 1, none⟩ = some (.int .i64 k)
theorem PlsAt.new {w W : World} {g : Nat} {L : List Pv} (h : PlsAt w g L) (hb : Below w.heap.size w W) : PlsAt W g L :=
  ⟨Nat.lt_of_lt_of_le h.1 hb.size, fun i b k hi => ⟨(hb.cell (p := ⟨g, i * 2, none⟩) h.1).trans (h.2 i b k hi).1, (hb.cell (p := ⟨g, i * 2 + 1, none⟩) h.1).trans (h.2 i b k hi).2⟩⟩
theorem PlsAt.keep {T : Nat → Prop} {w W : World} {g : Nat} {L : List Pv} (h : PlsAt w g L) (hk : Keeps T w W) (hT : ¬ T g) : PlsAt W g L :=
  ⟨Nat.lt_of_lt_of_le h.1 hk.size, fun i b k hi => ⟨hk.cell (p := ⟨g, i * 2, none⟩) hT (h.2 i b k hi).1, hk.cell (p := ⟨g, i * 2 + 1, none⟩) hT (h.2 i b k hi).2⟩⟩
/-- New blocks more. -/
theorem WdG.addN {G : Nat → Prop} {w W : World} {A : Ad} {V : Wv} (h : WdG G w A V) (hb : Below w.heap.size w W) : WdG (fun k => G k ∨ (w.heap.size ≤ k ∧ k < W.heap.size)) W A V := by
  obtain ⟨S, h1, h2, h3⟩ := h
  refine ⟨S, h1.new hb, fun k g s => ?_, fun k g => ?_⟩
  · rcases g with g | g
    · exact h2 k g s
    · have := h1.lt _ s; omega
  · rcases g with g | g
    · exact Nat.lt_of_lt_of_le (h3 k g) hb.size
    · exact g.2
theorem clp_at {w w' : World} {L : List Pv} {e : Ending} (h : IsClp w 2 L.length (rowsP L) e w') (h0 : 0 < L.length) : ∃ g, e = .returned (.slice (some ⟨g, 0, none⟩) L.length L.length) ∧ PlsAt w' g L ∧ w.heap.size ≤ g ∧ Below w.heap.size w w' := by
  obtain ⟨a, he, hL, hb⟩ := h
  have hB : ∀ g, a = some ⟨g, 0, none⟩ → w.heap.size ≤ g := fun g e => by
    obtain ⟨_, ⟨e1, e2⟩ | ⟨g', cap, e1, hB, -⟩⟩ := hL
    · omega
    · rw [e] at e1
      simp at e1
      rw [e1.1]
      exact hB
  obtain ⟨a', cap', hv, hcm, hnc, -, hG⟩ := LieG.of hL
  injection hv with hv1 hv2 hv3
  subst hv1
  obtain ⟨⟨b0, k0⟩, hx0⟩ : ∃ x, L[0]? = some x := ⟨_, List.getElem?_eq_getElem h0⟩
  obtain ⟨g, rfl, hg, -⟩ := hG.place rfl hx0
  refine ⟨g, he, ⟨hg, fun i b k hi => ?_⟩, hB g rfl, hb⟩
  obtain ⟨g', e1, -, -, -, c0, c1⟩ := hG.place rfl hi
  simp at e1
  subst e1
  exact ⟨c0, c1⟩
theorem hsl_UK (l : List UInt8) : isU (hsl l) := by
  rcases List.eq_nil_or_concat l with rfl | ⟨l', c, rfl⟩
  · exact ⟨by decide, by decide⟩
  · rw [List.concat_eq_append, hsl_snoc]; unfold hs1 isU; rw [IntKind.wrap_u64]; omega
/-- All places, by the tables' word. -/
theorem allK {G : Nat → Prop} {w : World} {A : Ad} {V : Wv} (h : WdG G w A V) {z t : Int} (hz : isU z) (ht : V.f 2 = t) : Calls Try.prog 28 #[.pointer (some ⟨A.p, 0, none⟩), .int .u64 z] w (IsClp w 2 (placesF z t).length (rowsP (placesF z t))) := by
  have c0 := h.box.c0
  have hr := h.rng (a := 2) ⟨by decide, by decide⟩
  have cp := gpeek h (a := 2) ⟨by decide, by decide⟩
  rw [ht] at cp hr
  have CP := Lib.hid cp
  have C := Lib.hid (fun W => placesw z t W hz.1 (by have := hz.2; omega) hr.1 (by have := hr.2; omega))
  clear h cp ht hr
  go_enter Try.func28, Try.ntmps28
  go_wp2_with fail
  refine CP.out.mono ?_
  rintro e w1 ⟨rfl, rfl⟩
  go_wp2_with fail
  refine (C.out _).mono ?_
  rintro e w2 ⟨a, rfl, hL, hb⟩
  have HL := Lib.hid hL
  clear c0
  go_wp2_with fail
  go_ret
  exact ⟨a, rfl, HL.out, hb⟩
end Go.Proofs.Ytepkpbhhiianpaa
