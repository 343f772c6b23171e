/- Lines: words that are joined, and parsed. -/
import Derived.Test.YtifbcejekdhnlaaDoorLw2
namespace Go.Proofs.YtifbcejekdhnlaaDoor
open Go.RowKit Go.Maps
set_option linter.unusedVariables false

structure GoodL (l : List (List UInt8)) : Prop where
  len : l.length ≤ 8
  each : ∀ x ∈ l, x ≠ [] ∧ (∀ c ∈ x, c ≠ 32) ∧ x.length ≤ 20
theorem GoodL.of {l : List (List UInt8)} (h : goodL l = true) : GoodL l := by
  unfold goodL at h
  simp only [Bool.and_eq_true, decide_eq_true_eq, List.all_eq_true] at h
  exact ⟨h.1, fun x hx => ⟨(h.2 x hx).1.1, (h.2 x hx).1.2, (h.2 x hx).2⟩⟩
theorem joinTail_len : ∀ (l : List (List UInt8)), (∀ x ∈ l, x.length ≤ 20) → (Lib.joinTail [32] l).length ≤ l.length * 21
  | [], _ => by simp [Lib.joinTail]
  | x :: r, h => by
    have e : Lib.joinTail [32] (x :: r) = 32 :: (x ++ Lib.joinTail [32] r) := by simp [Lib.joinTail]
    have h1 := joinTail_len r (fun y hy => h y (List.mem_cons_of_mem _ hy))
    have h2 := h x (by simp)
    rw [e]
    simp only [List.length_cons, List.length_append]
    omega
theorem join_len {l : List (List UInt8)} (h : GoodL l) : (Lib.join l [32]).length ≤ 200 := by
  cases l with
  | nil => simp [Lib.join, List.intercalate]
  | cons x r =>
    rw [Lib.join_cons]
    have h1 := joinTail_len r (fun y hy => (h.each y (List.mem_cons_of_mem _ hy)).2.2)
    have h2 := (h.each x (by simp)).2.2
    have h3 := h.len
    simp only [List.length_cons] at h3
    rw [List.length_append]
    omega
theorem join_parse {l : List (List UInt8)} (h : GoodL l) : parseC (Lib.join l [32]) = parseN l := by
  unfold parseC
  rw [if_neg (by have := join_len h; omega), words_join l (fun x hx => ⟨(h.each x hx).1, (h.each x hx).2.1⟩)]
theorem bs_map (l : List (List UInt8)) : (l.map (fun x => (⟨x.toArray⟩ : ByteArray))).map (·.data.toList) = l := by
  rw [List.map_map]
  have : ((fun x : ByteArray => x.data.toList) ∘ fun x : List UInt8 => (⟨x.toArray⟩ : ByteArray)) = id := by
    funext x
    simp
  rw [this, List.map_id]
/-- Words that stand in a block are joined. -/
theorem joinl {l : List (List UInt8)} {g o cap n : Nat} (W : World) (hn : l.length = n) (hc : ∀ k x, l[k]? = some x → W.cell? ⟨g, o + k, none⟩ = some (.string ⟨x.toArray⟩)) (hg : g < W.heap.size) (hcap : n ≤ cap) (h : GoodL l) :
    Calls Tryd.prog 22 #[.slice (some ⟨g, o, none⟩) n cap, .string ⟨#[32]⟩] W fun e w' => e = .returned (.string ⟨(Lib.join l [32]).toArray⟩) ∧ Below W.heap.size W w' := by
  subst hn
  have hxl : (l.map (fun x => (⟨x.toArray⟩ : ByteArray))).length = l.length := by simp
  have h8 := h.len
  have hj := join_len h
  have q := Tryd.strings_Join g o cap (l.map (fun x => (⟨x.toArray⟩ : ByteArray))) ⟨#[32]⟩ W (fun j x hj => by
      rw [List.getElem?_map] at hj
      cases hl : l[j]? with
      | none => rw [hl] at hj; simp at hj
      | some y => rw [hl] at hj; simp at hj; rw [← hj]; exact hc j y hl) hg (by rw [hxl]; omega) (by rw [hxl]; exact hcap) (by rw [bs_map]; show (Lib.join l [32]).length ≤ _; omega)
  rw [bs_map, hxl] at q
  exact q
theorem parsej {l : List (List UInt8)} (W : World) (h : GoodL l) : Calls Tryd.prog 10 #[.string ⟨(Lib.join l [32]).toArray⟩] W (IsPar W (parseN l)) := by
  have q := parsel ⟨(Lib.join l [32]).toArray⟩ W (by
    show (Lib.join l [32]).toArray.size ≤ maxLen
    have := join_len h
    simp [maxLen]
    omega)
  rwa [show (⟨(Lib.join l [32]).toArray⟩ : ByteArray).data.toList = Lib.join l [32] by simp, join_parse h] at q
theorem good_snoc {l : List (List UInt8)} {x : List UInt8} (h : GoodL l) (hl : l.length ≤ 7) (hx : (decide (x ≠ []) && x.all (fun c => decide (c ≠ 32)) && decide (x.length ≤ 20)) = true) : GoodL (l ++ [x]) := by
  simp only [Bool.and_eq_true, decide_eq_true_eq, List.all_eq_true] at hx
  refine ⟨by simp; omega, fun y hy => ?_⟩
  rcases List.mem_append.mp hy with hy | hy
  · exact h.each y hy
  · simp at hy; subst hy; exact ⟨hx.1.1, hx.1.2, hx.2⟩
theorem good_drop {l : List (List UInt8)} (h : GoodL l) : GoodL l.dropLast := ⟨by simp; have := h.len; omega, fun x hx => h.each x (List.dropLast_subset _ hx)⟩
theorem good_cons {x : List UInt8} {l : List (List UInt8)} (h : GoodL l) (hl : l.length ≤ 7) (h1 : x ≠ []) (h2 : ∀ c ∈ x, c ≠ 32) (h3 : x.length ≤ 20) : GoodL (x :: l) := by
  refine ⟨by simp; omega, fun y hy => ?_⟩
  rcases List.mem_cons.mp hy with rfl | hy
  · exact ⟨h1, h2, h3⟩
  · exact h.each y hy
theorem good_tail {x : List UInt8} {l : List (List UInt8)} (h : GoodL (x :: l)) : GoodL l := ⟨by have := h.len; simp at this; omega, fun y hy => h.each y (List.mem_cons_of_mem _ hy)⟩
/-- The calls are the same. -/
def CallP (u c : Cmd) : Prop := u.cverb = c.cverb ∧ u.key = c.key ∧ u.value = c.value ∧ u.flags = c.flags ∧ u.exp = c.exp ∧ u.id = c.id ∧ u.by_ = c.by_
def ChkP (v n : Nat) (c m s u : Cmd × Nat) : Prop := c.2 = 0 ∧ c.1.quiet = false ∧
  ((v ≤ 1 ∧ m.2 = 0 ∧ u.2 = 0 ∧ u.1.quiet = false ∧ u.1.keys.length = n ∧ decide (s.2 = 0) = decide (n = 3)) ∨ (v = 10 ∧ m.2 = 1 ∧ s.2 = 0 ∧ u.2 = 0 ∧ u.1.quiet = true ∧ CallP u.1 c.1) ∨ (11 ≤ v ∧ m.2 = 1 ∧ s.2 = 1 ∧ u.2 = 1) ∨
   (2 ≤ v ∧ v ≤ 9 ∧ m.2 = 1 ∧ s.2 = 1 ∧ u.2 = 0 ∧ u.1.quiet = true ∧ CallP u.1 c.1 ∧ u.1.bytes = c.1.bytes))
theorem callP_of {u c : Cmd} (h : callEq u c = true) : CallP u c := by
  unfold callEq at h
  simp only [Bool.and_eq_true, decide_eq_true_eq] at h
  obtain ⟨⟨⟨⟨⟨⟨h1, h2⟩, h3⟩, h4⟩, h5⟩, h6⟩, h7⟩ := h
  exact ⟨h1, h2, h3, h4, h5, h6, h7⟩
theorem chk_out {v : Nat} {l : List (List UInt8)} (hv : v < 13) (h : chkW v l = true) : ChkP v l.length (parseN l) (parseN (l ++ [moreW])) (parseN l.dropLast) (parseN (l ++ [norep])) := by
  unfold chkW at h
  generalize parseN l = c at h ⊢
  generalize parseN (l ++ [moreW]) = m at h ⊢
  generalize parseN l.dropLast = s at h ⊢
  generalize parseN (l ++ [norep]) = u at h ⊢
  simp only [Bool.and_eq_true, decide_eq_true_eq] at h
  obtain ⟨⟨h1, h2⟩, h3⟩ := h
  refine ⟨h1, by simpa using h2, ?_⟩
  split at h3
  · next hv1 =>
    simp only [Bool.and_eq_true, decide_eq_true_eq] at h3
    obtain ⟨a1, a2, a3, a4, a5⟩ := h3
    exact .inl ⟨hv1, a1, a2, by simpa using a3, a4, a5⟩
  · next hv1 =>
    split at h3
    · next hv2 =>
      simp only [Bool.and_eq_true, decide_eq_true_eq] at h3
      obtain ⟨a1, a2, a3, a4, a5⟩ := h3
      exact .inr (.inl ⟨hv2, a1, a2, a3, a4, callP_of a5⟩)
    · next hv2 =>
      split at h3
      · next hv3 =>
        simp only [Bool.and_eq_true, decide_eq_true_eq] at h3
        exact .inr (.inr (.inl ⟨hv3, h3.1, h3.2.1, h3.2.2⟩))
      · next hv3 =>
        simp only [Bool.and_eq_true, decide_eq_true_eq] at h3
        obtain ⟨a1, a2, a3, a4, a5, a6⟩ := h3
        exact .inr (.inr (.inr ⟨by omega, by omega, a1, a2, a3, a4, callP_of a5, a6⟩))
end Go.Proofs.YtifbcejekdhnlaaDoor
