/- The chapter's cells of whatever words: what they are; Peek, put. -/
import Derived.Test.YtepkpbhhiianpaaRc
import Derived.Test.YtepkpbhhiianpaaCpMath
import Derived.Test.YtepkpbhhiianpaaLst
import Derived.OwnWalk
import Derived.Test.YtepkpbhhiianpaaGCl
import Derived.Deep.RegionHeld3
import Derived.BigQuiet
import Derived.Deep.QuietTactic
namespace Go.Proofs.Ytepkpbhhiianpaa
open Go.RowKit
set_option linter.unusedVariables false

/-- The cells of a list of words. -/
def flat2 (L : List (Int × Int)) : List Value := L.flatMap fun x => [.int .u64 x.1, .int .u64 x.2]
theorem flat2_snoc (L : List (Int × Int)) (x : Int × Int) : flat2 (L ++ [x]) = flat2 L ++ [.int .u64 x.1, .int .u64 x.2] := by simp [flat2]
theorem flat2_len (L : List (Int × Int)) : (flat2 L).length = L.length * 2 := by
  induction L with
  | nil => rfl
  | cons x r ih =>
    have e : flat2 (x :: r) = .int .u64 x.1 :: .int .u64 x.2 :: flat2 r := rfl
    rw [e]; simp [ih]; omega
theorem flat2_at : ∀ {L : List (Int × Int)} {i : Nat} {x : Int × Int}, L[i]? = some x → (flat2 L)[i * 2]? = some (.int .u64 x.1) ∧ (flat2 L)[i * 2 + 1]? = some (.int .u64 x.2)
  | [], i, x, h => by simp at h
  | y :: r, i, x, h => by
    have e : flat2 (y :: r) = .int .u64 y.1 :: .int .u64 y.2 :: flat2 r := rfl
    rw [e]
    match i, h with
    | 0, h => simp at h; subst h; simp
    | i + 1, h =>
      have h' : r[i]? = some x := by simpa using h
      have := flat2_at h'
      rw [show (i + 1) * 2 = i * 2 + 1 + 1 by omega]
      simpa using this
/-- A slice of the chapter's words, in blocks of T. -/
def RL (w : World) (v : Value) (L : List (Int × Int)) (T : Nat → Prop) : Prop :=
  (L = [] ∧ v = .slice none 0 0) ∨ ∃ g cap, v = .slice (some ⟨g, 0, none⟩) L.length cap ∧ T g ∧ g < w.heap.size ∧ L.length ≤ cap ∧ cap ≤ maxLen ∧ ∀ i x, L[i]? = some x → w.cell? ⟨g, i * 2, none⟩ = some (.int .u64 x.1) ∧ w.cell? ⟨g, i * 2 + 1, none⟩ = some (.int .u64 x.2)
theorem RL.keep {w W : World} {v : Value} {L : List (Int × Int)} {T S : Nat → Prop} (h : RL w v L T) (hk : Keeps S w W) (hS : ∀ k, T k → ¬ S k) : RL W v L T := by
  rcases h with h | ⟨g, cap, h1, h2, h3, h4, h5, h6⟩
  · exact .inl h
  · exact .inr ⟨g, cap, h1, h2, Nat.lt_of_lt_of_le h3 hk.size, h4, h5, fun i x hx => ⟨hk.cell (p := ⟨g, i * 2, none⟩) (hS g h2) (h6 i x hx).1, hk.cell (p := ⟨g, i * 2 + 1, none⟩) (hS g h2) (h6 i x hx).2⟩⟩
theorem RL.of_own {w : World} {B : Nat} {e : TypeId} {v : Value} {L : List (Int × Int)} {T : Nat → Prop} (h : w.ownsRow B e 2 v L.length (flat2 L)) (hT : ∀ k, B ≤ k → k < w.heap.size → T k) : RL w v L T := by
  obtain ⟨_, ⟨rfl, h0⟩ | ⟨g, cap, rfl, hB, hg, hn, hc, hx⟩⟩ := Lst.of_own h
  · exact .inl ⟨List.eq_nil_of_length_eq_zero h0, rfl⟩
  · exact .inr ⟨g, cap, rfl, hT g hB hg, hg, hn, hc, fun i x hi => ⟨(hx _ _ (flat2_at hi).1).1, (hx _ _ (flat2_at hi).2).1⟩⟩
/-- The chapter's cells. -/
structure Rg (w : World) (r : Nat) (L : List (Int × Int)) (cnt k a x y : Int) (T : Nat → Prop) : Prop where
  c0 : ∃ v, w.cell? ⟨r, 0, none⟩ = some v ∧ RL w v L T
  c1 : w.cell? ⟨r, 1, none⟩ = some (.int .i64 cnt)
  c2 : w.cell? ⟨r, 2, none⟩ = some (.int .u8 k)
  c3 : w.cell? ⟨r, 3, none⟩ = some (.int .u64 a)
  c4 : w.cell? ⟨r, 4, none⟩ = some (.int .u64 x)
  c5 : w.cell? ⟨r, 5, none⟩ = some (.int .u64 y)
  fz : ∀ o, o < 6 → w.frozen? ⟨r, o, none⟩ = false
  tr : T r
  lt : ∀ k, T k → k < w.heap.size
theorem Rg.keep {w W : World} {r : Nat} {L : List (Int × Int)} {cnt k a x y : Int} {T S : Nat → Prop} (h : Rg w r L cnt k a x y T) (hk : Keeps S w W) (hS : ∀ k, T k → ¬ S k) : Rg W r L cnt k a x y T := by
  obtain ⟨⟨v, h0, hl⟩, h1, h2, h3, h4, h5, hf, ht, hlt⟩ := h
  have hr := hlt r ht
  have hS' := hS r ht
  exact ⟨⟨v, hk.cell (p := ⟨r, 0, none⟩) hS' h0, hl.keep hk hS⟩, hk.cell (p := ⟨r, 1, none⟩) hS' h1, hk.cell (p := ⟨r, 2, none⟩) hS' h2, hk.cell (p := ⟨r, 3, none⟩) hS' h3, hk.cell (p := ⟨r, 4, none⟩) hS' h4, hk.cell (p := ⟨r, 5, none⟩) hS' h5, fun o ho => hk.frozen (p := ⟨r, o, none⟩) hS' hr (hf o ho), ht, fun k s => Nat.lt_of_lt_of_le (hlt k s) hk.size⟩
theorem rg_made (W : World) (t : TypeId) : Rg (W.alloc (.cells #[.slice none 0 0, .int .i64 0, .int .u8 0, .int .u64 0, .int .u64 0, .int .u64 0] t)) W.heap.size [] 0 0 0 0 0 (fun k => k = W.heap.size) :=
  ⟨⟨.slice none 0 0, by simp, .inl ⟨rfl, rfl⟩⟩, by simp, by simp, by simp, by simp, by simp, fun o ho => by simp, rfl, fun k e => by subst e; simp⟩
theorem belowN {B : Nat} {a w : World} (h : Below B a w) (n : Nat) : Below B a (w.drewN n) := by
  induction n with
  | zero => exact h
  | succ n ih => exact ih.drew
theorem drop_cons {L : List (Int × Int)} {k : Nat} {x : Int × Int} (h : L[k]? = some x) : L.drop k = x :: L.drop (k + 1) := by
  have hk : k < L.length := by
    rcases Nat.lt_or_ge k L.length with h' | h'
    · exact h'
    · rw [List.getElem?_eq_none h'] at h; simp at h
  rw [List.drop_eq_getElem_cons hk]
  rw [List.getElem?_eq_getElem hk] at h
  simp at h
  rw [h]
theorem peekL_at {L : List (Int × Int)} {k : Nat} {x : Int × Int} {a : Int} (h : L[k]? = some x) : peekL (L.drop k) a = if x.1 = a then x.2 else peekL (L.drop (k + 1)) a := by
  rw [drop_cons h]
  unfold peekL
  by_cases e : x.1 = a
  · rw [List.find?_cons_of_pos (by simpa using e), if_pos e]
  · rw [List.find?_cons_of_neg (by simpa using e), if_neg e]
end Go.Proofs.Ytepkpbhhiianpaa
/- Next: The chapter's cells of whatever words: put. -/
namespace Go.Proofs.Ytepkpbhhiianpaa
open Go.RowKit
set_option linter.unusedVariables false

theorem goL_at {L : List (Int × Int)} {k : Nat} {x : Int × Int} {a v : Int} {d : Bool} (h : L[k]? = some x) : goL a v d (L.drop k) = if d = false ∧ a ≤ x.1 then (a, v) :: ((if x.1 = a then [] else [x]) ++ goL a v true (L.drop (k + 1))) else (if x.1 = a then [] else [x]) ++ goL a v d (L.drop (k + 1)) := by
  rw [drop_cons h]; rfl
theorem new2c {W : World} {x y : Int} {t : TypeId} {j : Nat} {u : Value} (hj : [Value.int .u64 x, Value.int .u64 y][j]? = some u) : (W.alloc (.cells #[.int .u64 x, .int .u64 y] t)).cell? ((⟨W.heap.size, 0, none⟩ : Addr).add j) = some u := by
  match j, hj with
  | 0, hj => simp at hj; subst hj; simp [Addr.add]
  | 1, hj => simp at hj; subst hj; simp [Addr.add]
  | j + 2, hj => simp at hj
theorem one2 {x y : Int} : ∀ u ∈ [Value.int .u64 x, Value.int .u64 y], u.oneCell' = true := by
  intro u hu
  simp at hu
  rcases hu with rfl | rfl <;> rfl
def RPost (w : World) (r : Nat) (L : List (Int × Int)) (cnt k a x y : Int) (T : Nat → Prop) (w' : World) : Prop := ∃ T', Turn T T' w w' ∧ Rg w' r L cnt k a x y T'
/-- Behind the new list's store. -/
theorem rg_stored {w W : World} {r : Nat} {L M : List (Int × Int)} {cnt k a x y : Int} {T : Nat → Prop} {v : Value} (h : Rg w r L cnt k a x y T) (hb : Below w.heap.size w W) (hv : RL W v M (fun j => w.heap.size ≤ j ∧ j < W.heap.size)) : RPost w r M cnt k a x y T (W.setCell ⟨r, 0, none⟩ v) := by
  have hr := h.lt r h.tr
  obtain ⟨⟨v0, h0, -⟩, h1, h2, h3, h4, h5, hf, ht, hlt⟩ := h
  have o := fun (j : Nat) (hj : j ≠ 0) (u : Value) (hu : w.cell? ⟨r, j, none⟩ = some u) => ((World.cell?_setCell_other W ⟨r, 0, none⟩ ⟨r, j, none⟩ v (by intro e; injection e with _ e; exact hj e.symm)).trans (hb.cell (p := ⟨r, j, none⟩) hr)).trans hu
  have hs : (W.setCell ⟨r, 0, none⟩ v).heap.size = W.heap.size := by simp [World.setCell]
  have hsz := hb.size
  refine ⟨fun j => j = r ∨ (w.heap.size ≤ j ∧ j < W.heap.size), ⟨(Keeps.of_new hb).setCell (.inl ht) _, fun j hj => ?_⟩, ⟨v, World.cell?_setCell_same _ _ _ ((hb.cell (p := ⟨r, 0, none⟩) hr).trans h0), ?_⟩, o 1 (by decide) _ h1, o 2 (by decide) _ h2, o 3 (by decide) _ h3, o 4 (by decide) _ h4, o 5 (by decide) _ h5, fun j hj => ?_, .inl rfl, fun j hj => ?_⟩
  · rcases hj with rfl | hj
    · exact .inl ht
    · exact .inr (by rw [hs]; exact hj)
  · rcases hv with hv | ⟨g, cap, e1, e2, e3, e4, e5, e6⟩
    · exact .inl hv
    · have hgr : ∀ j, (⟨g, j, none⟩ : Addr) ≠ ⟨r, 0, none⟩ := fun j e => by injection e with e _; omega
      refine .inr ⟨g, cap, e1, .inr e2, by rw [hs]; exact e3, e4, e5, fun i z hz => ?_⟩
      exact ⟨(World.cell?_setCell_other _ _ _ _ (hgr _).symm).trans (e6 i z hz).1, (World.cell?_setCell_other _ _ _ _ (hgr _).symm).trans (e6 i z hz).2⟩
  · rw [World.frozen?_setCell]
    exact (hb.frozen (p := ⟨r, j, none⟩) hr).trans (hf j hj)
  · rw [hs]
    rcases hj with rfl | hj
    · omega
    · exact hj.2
end Go.Proofs.Ytepkpbhhiianpaa
/- Next: The chapter's cells of whatever words: accesses; New. -/
namespace Go.Proofs.Ytepkpbhhiianpaa
open Go.RowKit
set_option linter.unusedVariables false

section
variable {w : World} {r : Nat} {L : List (Int × Int)} {cnt kk a0 x y : Int} {T : Nat → Prop}
theorem Rg.after {w w1 : World} (h : Rg w r L cnt kk a0 x y T) (hb : Below w.heap.size w w1) : Rg w1 r L cnt kk a0 x y T := h.keep (S := fun _ => False) (Keeps.of_new hb) (fun _ _ s => s)
theorem drewN_below (w : World) (n : Nat) : Below w.heap.size w (w.drewN n) := belowN (Below.refl _ _) n
theorem RPost.after {w w1 w' : World} {M : List (Int × Int)} {cnt' k' a' x' y' : Int} (hb : Below w.heap.size w w1) (h : RPost w1 r M cnt' k' a' x' y' T w') : RPost w r M cnt' k' a' x' y' T w' := by
  obtain ⟨T', t, g⟩ := h
  exact ⟨T', Turn.after hb t, g⟩
theorem RPost.new {w w1 w' : World} {M : List (Int × Int)} {cnt' k' a' x' y' : Int} (h : RPost w r M cnt' k' a' x' y' T w1) (hb : Below w1.heap.size w1 w') : RPost w r M cnt' k' a' x' y' T w' := by
  obtain ⟨T', t, g⟩ := h
  exact ⟨T', t.new hb, g.after hb⟩
/-- What the five stores of an access leave. -/
theorem Rg.told (h : Rg w r L cnt kk a0 x y T) (c k a u v : Int) : Rg (((((w.setCell ⟨r, 1, none⟩ (.int .i64 c)).setCell ⟨r, 2, none⟩ (.int .u8 k)).setCell ⟨r, 3, none⟩ (.int .u64 a)).setCell ⟨r, 4, none⟩ (.int .u64 u)).setCell ⟨r, 5, none⟩ (.int .u64 v)) r L c k a u v T ∧
    Keeps (fun j => j = r) w (((((w.setCell ⟨r, 1, none⟩ (.int .i64 c)).setCell ⟨r, 2, none⟩ (.int .u8 k)).setCell ⟨r, 3, none⟩ (.int .u64 a)).setCell ⟨r, 4, none⟩ (.int .u64 u)).setCell ⟨r, 5, none⟩ (.int .u64 v)) := by
  obtain ⟨⟨v0, h0, hl⟩, h1, h2, h3, h4, h5, hf, ht, hlt⟩ := h
  have hk : Keeps (fun j => j = r) w (((((w.setCell ⟨r, 1, none⟩ (.int .i64 c)).setCell ⟨r, 2, none⟩ (.int .u8 k)).setCell ⟨r, 3, none⟩ (.int .u64 a)).setCell ⟨r, 4, none⟩ (.int .u64 u)).setCell ⟨r, 5, none⟩ (.int .u64 v)) :=
    (((((Keeps.refl (fun j => j = r) w).setCell (p := ⟨r, 1, none⟩) (.inl rfl) _).setCell (p := ⟨r, 2, none⟩) (.inl rfl) _).setCell (p := ⟨r, 3, none⟩) (.inl rfl) _).setCell (p := ⟨r, 4, none⟩) (.inl rfl) _).setCell (p := ⟨r, 5, none⟩) (.inl rfl) _
  have o := fun (W : World) (i j : Nat) (hj : j ≠ i) (z : Value) => World.cell?_setCell_other W ⟨r, i, none⟩ ⟨r, j, none⟩ z (by intro e; injection e with _ e; exact hj e.symm)
  have s := fun (W : World) (i : Nat) (z q : Value) (hq : W.cell? ⟨r, i, none⟩ = some q) => World.cell?_setCell_same W ⟨r, i, none⟩ z hq
  have fz : ∀ (W : World) (p q : Addr) (z : Value), (W.setCell p z).frozen? q = W.frozen? q := fun W p q z => World.frozen?_setCell _ _ _ _
  refine ⟨⟨⟨v0, ?_, ?_⟩, ?_, ?_, ?_, ?_, ?_, fun j hj => ?_, ht, fun j hj => ?_⟩, hk⟩
  · rw [o _ 5 0 (by decide), o _ 4 0 (by decide), o _ 3 0 (by decide), o _ 2 0 (by decide), o _ 1 0 (by decide)]; exact h0
  · rcases hl with hl | ⟨g, cap, e1, e2, e3, e4, e5, e6⟩
    · exact .inl hl
    · by_cases hg : g = r
      · subst hg
        refine .inr ⟨g, cap, e1, e2, Nat.lt_of_lt_of_le e3 hk.size, e4, e5, fun i z hz => ?_⟩
        have q := (e6 i z hz).1
        match i, hz, q with
        | 0, hz, q => rw [Nat.zero_mul, h0, e1] at q; simp at q
        | 1, hz, q =>
          have hz0 : ∃ z0, L[0]? = some z0 := by
            cases L with
            | nil => simp at hz
            | cons b r => exact ⟨b, rfl⟩
          obtain ⟨z0, hz0⟩ := hz0
          have q0 := (e6 0 z0 hz0).1
          rw [Nat.zero_mul, h0, e1] at q0; simp at q0
        | i + 2, hz, q =>
          have hz0 : ∃ z0, L[0]? = some z0 := by
            cases L with
            | nil => simp at hz
            | cons b r => exact ⟨b, rfl⟩
          obtain ⟨z0, hz0⟩ := hz0
          have q0 := (e6 0 z0 hz0).1
          rw [Nat.zero_mul, h0, e1] at q0; simp at q0
      · exact .inr ⟨g, cap, e1, e2, Nat.lt_of_lt_of_le e3 hk.size, e4, e5, fun i z hz => ⟨hk.cell (p := ⟨g, i * 2, none⟩) hg (e6 i z hz).1, hk.cell (p := ⟨g, i * 2 + 1, none⟩) hg (e6 i z hz).2⟩⟩
  · rw [o _ 5 1 (by decide), o _ 4 1 (by decide), o _ 3 1 (by decide), o _ 2 1 (by decide)]; exact s _ _ _ _ h1
  · rw [o _ 5 2 (by decide), o _ 4 2 (by decide), o _ 3 2 (by decide)]; exact s _ _ _ _ (by rw [o _ 1 2 (by decide)]; exact h2)
  · rw [o _ 5 3 (by decide), o _ 4 3 (by decide)]; exact s _ _ _ _ (by rw [o _ 2 3 (by decide), o _ 1 3 (by decide)]; exact h3)
  · rw [o _ 5 4 (by decide)]; exact s _ _ _ _ (by rw [o _ 3 4 (by decide), o _ 2 4 (by decide), o _ 1 4 (by decide)]; exact h4)
  · exact s _ _ _ _ (by rw [o _ 4 5 (by decide), o _ 3 5 (by decide), o _ 2 5 (by decide), o _ 1 5 (by decide)]; exact h5)
  · rw [fz, fz, fz, fz, fz]; exact hf j hj
  · exact Nat.lt_of_lt_of_le (hlt j hj) hk.size
end
end Go.Proofs.Ytepkpbhhiianpaa
/- Next: The chapter's cells of whatever words: Load, Store, Swap, Add, CAS. -/
namespace Go.Proofs.Ytepkpbhhiianpaa
open Go.RowKit
set_option linter.unusedVariables false

section
variable {w : World} {r : Nat} {L : List (Int × Int)} {cnt kk a0 x y u : Int} {T : Nat → Prop}
variable (h : Rg w r L cnt kk a0 x y T) (hL : L.length ≤ 1000000000) (hc0 : 0 ≤ cnt) (hc1 : cnt < 1000000000000) {a : Int} (hu : peekL L a = u)
include h hL hc0 hc1 hu
end
/-- The list of whatever words at first. -/
def listL (M : List (Int × Int)) : List (Int × Int) := M.foldl (fun L x => putL L x.1 x.2) []
theorem listL_take {M : List (Int × Int)} {k : Nat} {x : Int × Int} (h : M[k]? = some x) : listL (M.take (k + 1)) = putL (listL (M.take k)) x.1 x.2 := by
  have hk : k < M.length := by
    rcases Nat.lt_or_ge k M.length with h' | h'
    · exact h'
    · rw [List.getElem?_eq_none h'] at h; simp at h
  rw [List.take_succ_eq_append_getElem hk]
  rw [List.getElem?_eq_getElem hk] at h
  simp at h
  unfold listL
  rw [List.foldl_append, h]; rfl
theorem listL_len (M : List (Int × Int)) : (listL M).length ≤ M.length := by
  have key : ∀ (M L : List (Int × Int)), (M.foldl (fun L x => putL L x.1 x.2) L).length ≤ L.length + M.length := by
    intro M
    induction M with
    | nil => intro L; simp
    | cons x r ih =>
      intro L
      rw [List.foldl_cons]
      have h1 := ih (putL L x.1 x.2)
      have h2 := goL_len x.1 x.2 L (x.2 == 0)
      simp only [List.length_cons]
      unfold putL at h1 ⊢
      omega
  have := key M []
  simpa [listL] using this
end Go.Proofs.Ytepkpbhhiianpaa
