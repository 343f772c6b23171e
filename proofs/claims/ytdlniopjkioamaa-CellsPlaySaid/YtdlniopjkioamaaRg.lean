/- The chapter's cells of whatever words: what they are; Peek, put. -/
import Derived.Test.YtdlniopjkioamaaRc
import Derived.Test.YtdlniopjkioamaaCpMath
import Derived.Test.YtdlniopjkioamaaLst
import Derived.OwnWalk
namespace Go.Proofs.Ytdlniopjkioamaa
open Go.RowKit
set_option linter.unusedVariables false

/-- The cells of a list of words. -/
def flat2 (L : List (Int × Int)) : List Value := L.flatMap fun x => [.int .u64 x.1, .int .u64 x.2]
theorem flat2_snoc (L : List (Int × Int)) (x : Int × Int) : flat2 (L ++ [x]) = flat2 L ++ [.int .u64 x.1, .int .u64 x.2] := by simp [flat2]
theorem flat2_len (L : List (Int × Int)) : (flat2 L).length = L.length * 2 := by
  induction L with
  | nil => rfl
  | cons x r ih =>
    have e : flat2 (x :: r) = .int .u64 x.1 :: .int .u64 x.2 :: flat2 r := rfl
    rw [e]; simp [ih]; omega
theorem flat2_at : ∀ {L : List (Int × Int)} {i : Nat} {x : Int × Int}, L[i]? = some x → (flat2 L)[i * 2]? = some (.int .u64 x.1) ∧ (flat2 L)[i * 2 + 1]? = some (.int .u64 x.2)
  | [], i, x, h => by simp at h
  | y :: r, i, x, h => by
    have e : flat2 (y :: r) = .int .u64 y.1 :: .int .u64 y.2 :: flat2 r := rfl
    rw [e]
    match i, h with
    | 0, h => simp at h; subst h; simp
    | i + 1, h =>
      have h' : r[i]? = some x := by simpa using h
      have := flat2_at h'
      rw [show (i + 1) * 2 = i * 2 + 1 + 1 by omega]
      simpa using this
/-- A slice of the chapter's words, in blocks of T. -/
def RL (w : World) (v : Value) (L : List (Int × Int)) (T : Nat → Prop) : Prop :=
  (L = [] ∧ v = .slice none 0 0) ∨ ∃ g cap, v = .slice (some ⟨g, 0, none⟩) L.length cap ∧ T g ∧ g < w.heap.size ∧ L.length ≤ cap ∧ cap ≤ maxLen ∧ ∀ i x, L[i]? = some x → w.cell? ⟨g, i * 2, none⟩ = some (.int .u64 x.1) ∧ w.cell? ⟨g, i * 2 + 1, none⟩ = some (.int .u64 x.2)
theorem RL.keep {w W : World} {v : Value} {L : List (Int × Int)} {T S : Nat → Prop} (h : RL w v L T) (hk : Keeps S w W) (hS : ∀ k, T k → ¬ S k) : RL W v L T := by
  rcases h with h | ⟨g, cap, h1, h2, h3, h4, h5, h6⟩
  · exact .inl h
  · exact .inr ⟨g, cap, h1, h2, Nat.lt_of_lt_of_le h3 hk.size, h4, h5, fun i x hx => ⟨hk.cell (p := ⟨g, i * 2, none⟩) (hS g h2) (h6 i x hx).1, hk.cell (p := ⟨g, i * 2 + 1, none⟩) (hS g h2) (h6 i x hx).2⟩⟩
theorem RL.of_own {w : World} {B : Nat} {e : TypeId} {v : Value} {L : List (Int × Int)} {T : Nat → Prop} (h : w.ownsRow B e 2 v L.length (flat2 L)) (hT : ∀ k, B ≤ k → k < w.heap.size → T k) : RL w v L T := by
  obtain ⟨_, ⟨rfl, h0⟩ | ⟨g, cap, rfl, hB, hg, hn, hc, hx⟩⟩ := Lst.of_own h
  · exact .inl ⟨List.eq_nil_of_length_eq_zero h0, rfl⟩
  · exact .inr ⟨g, cap, rfl, hT g hB hg, hg, hn, hc, fun i x hi => ⟨(hx _ _ (flat2_at hi).1).1, (hx _ _ (flat2_at hi).2).1⟩⟩
/-- The chapter's cells. -/
structure Rg (w : World) (r : Nat) (L : List (Int × Int)) (cnt k a x y : Int) (T : Nat → Prop) : Prop where
  c0 : ∃ v, w.cell? ⟨r, 0, none⟩ = some v ∧ RL w v L T
  c1 : w.cell? ⟨r, 1, none⟩ = some (.int .i64 cnt)
  c2 : w.cell? ⟨r, 2, none⟩ = some (.int .u8 k)
  c3 : w.cell? ⟨r, 3, none⟩ = some (.int .u64 a)
  c4 : w.cell? ⟨r, 4, none⟩ = some (.int .u64 x)
  c5 : w.cell? ⟨r, 5, none⟩ = some (.int .u64 y)
  fz : ∀ o, o < 6 → w.frozen? ⟨r, o, none⟩ = false
  tr : T r
  lt : ∀ k, T k → k < w.heap.size
theorem Rg.keep {w W : World} {r : Nat} {L : List (Int × Int)} {cnt k a x y : Int} {T S : Nat → Prop} (h : Rg w r L cnt k a x y T) (hk : Keeps S w W) (hS : ∀ k, T k → ¬ S k) : Rg W r L cnt k a x y T := by
  obtain ⟨⟨v, h0, hl⟩, h1, h2, h3, h4, h5, hf, ht, hlt⟩ := h
  have hr := hlt r ht
  have hS' := hS r ht
  exact ⟨⟨v, hk.cell (p := ⟨r, 0, none⟩) hS' h0, hl.keep hk hS⟩, hk.cell (p := ⟨r, 1, none⟩) hS' h1, hk.cell (p := ⟨r, 2, none⟩) hS' h2, hk.cell (p := ⟨r, 3, none⟩) hS' h3, hk.cell (p := ⟨r, 4, none⟩) hS' h4, hk.cell (p := ⟨r, 5, none⟩) hS' h5, fun o ho => hk.frozen (p := ⟨r, o, none⟩) hS' hr (hf o ho), ht, fun k s => Nat.lt_of_lt_of_le (hlt k s) hk.size⟩
theorem rg_made (W : World) (t : TypeId) : Rg (W.alloc (.cells #[.slice none 0 0, .int .i64 0, .int .u8 0, .int .u64 0, .int .u64 0, .int .u64 0] t)) W.heap.size [] 0 0 0 0 0 (fun k => k = W.heap.size) :=
  ⟨⟨.slice none 0 0, by simp, .inl ⟨rfl, rfl⟩⟩, by simp, by simp, by simp, by simp, by simp, fun o ho => by simp, rfl, fun k e => by subst e; simp⟩
theorem belowN {B : Nat} {a w : World} (h : Below B a w) (n : Nat) : Below B a (w.drewN n) := by
  induction n with
  | zero => exact h
  | succ n ih => exact ih.drew
theorem drop_cons {L : List (Int × Int)} {k : Nat} {x : Int × Int} (h : L[k]? = some x) : L.drop k = x :: L.drop (k + 1) := by
  have hk : k < L.length := by
    rcases Nat.lt_or_ge k L.length with h' | h'
    · exact h'
    · rw [List.getElem?_eq_none h'] at h; simp at h
  rw [List.drop_eq_getElem_cons hk]
  rw [List.getElem?_eq_getElem hk] at h
  simp at h
  rw [h]
theorem peekL_at {L : List (Int × Int)} {k : Nat} {x : Int × Int} {a : Int} (h : L[k]? = some x) : peekL (L.drop k) a = if x.1 = a then x.2 else peekL (L.drop (k + 1)) a := by
  rw [drop_cons h]
  unfold peekL
  by_cases e : x.1 = a
  · rw [List.find?_cons_of_pos (by simpa using e), if_pos e]
  · rw [List.find?_cons_of_neg (by simpa using e), if_neg e]
set_option maxHeartbeats 2000000 in
set_option maxRecDepth 100000 in
theorem rg_peek {w : World} {r : Nat} {L : List (Int × Int)} {cnt k a0 x y : Int} {T : Nat → Prop} (h : Rg w r L cnt k a0 x y T) (a : Int) :
    Calls Try.prog 11 #[.pointer (some ⟨r, 0, none⟩), .int .u64 a] w fun e w' => e = .returned (.int .u64 (peekL L a)) ∧ ∃ n, w' = w.drewN n := by
  obtain ⟨v, hc, hl⟩ := h.c0
  clear h
  rcases hl with ⟨rfl, rfl⟩ | ⟨g, cap, rfl, hg, hgl, hn, hcap, hx⟩
  · go_enter Try.func11, Try.ntmps11
    go_wp2_with fail
    refine wp_loop_rounds 1 ?_
    rw [rounds_succ]
    go_wp2_with fail
    go_ret
    exact ⟨rfl, 0, rfl⟩
  · unfold maxLen at hcap
    have HX := Lib.hid hx
    clear hx
    go_enter Try.func11, Try.ntmps11
    go_wp2_with fail
    go_loopw [5] (fun i wr => ∃ (k n : Nat), k ≤ L.length ∧ i = .int .i64 k ∧ wr = w.drewN n ∧ Hid (peekL (L.drop k) a = peekL L a)) (fun i _ => L.length - (intOf i).toNat)
    case atStart => exact ⟨0, 0, by omega, rfl, rfl, rfl⟩
    case round =>
      obtain ⟨k, n, hk, rfl, rfl, hP⟩ := hrel
      by_cases hlt : k < L.length
      · have hlt' : decide ((k : Int) < (L.length : Int)) = true := decide_eq_true (by omega)
        obtain ⟨z, hz⟩ : ∃ z, L[k]? = some z := ⟨_, List.getElem?_eq_getElem hlt⟩
        obtain ⟨d0, d1⟩ := HX.out k z hz
        have hP2 := peekL_at (a := a) hz
        have hkc : k < cap := by omega
        by_cases e : z.1 = a
        · have e' : (z.1 == a) = true := by simpa using e
          have e'' : decide (z.1 = a) = true := decide_eq_true e
          rw [if_pos e] at hP2
          have HE := Lib.hid (hP2.symm.trans hP.out)
          clear hP2 hP hz
          go_wp2_with fail
          go_ret
          exact ⟨by rw [HE.out]; rfl, _, rfl⟩
        · have e' : (z.1 == a) = false := by simpa using e
          have e'' : decide (z.1 = a) = false := decide_eq_false e
          rw [if_neg e] at hP2
          have HE := Lib.hid (hP2.symm.trans hP.out)
          clear hP2 hP hz
          go_wp2_with fail
          go_roundw
          case rel => exact ⟨k + 1, _, by omega, by go_num, rfl, HE⟩
          case measure => simp [intOf]; omega
      · obtain rfl : k = L.length := by omega
        have hlt' : decide ((L.length : Int) < (L.length : Int)) = false := decide_eq_false (by omega)
        have hP2 := hP.out
        rw [List.drop_length] at hP2
        have HE := Lib.hid (show (0 : Int) = peekL L a from hP2)
        clear hP hP2
        go_wp2_with fail
        go_ret
        exact ⟨by rw [HE.out]; rfl, _, rfl⟩
end Go.Proofs.Ytdlniopjkioamaa
