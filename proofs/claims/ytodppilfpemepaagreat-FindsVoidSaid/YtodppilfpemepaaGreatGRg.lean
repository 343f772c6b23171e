/- The chapter's cells of whatever words: what they are; Peek, put. -/
import Derived.Test.YtodppilfpemepaaGreatRc
import Derived.Test.YtodppilfpemepaaGreatCpMath
import Derived.Test.YtodppilfpemepaaGreatLst
import Derived.OwnWalk
import Derived.Test.YtodppilfpemepaaGreatGCl
import Derived.Deep.RegionHeld3
import Derived.BigQuiet
import Derived.Deep.QuietTactic
namespace Go.Proofs.YtodppilfpemepaaGreat
open Go.RowKit
set_option linter.unusedVariables false

/-- The cells of a list of words. -/
def flat2 (L : List (Int × Int)) : List Value := L.flatMap fun x => [.int .u64 x.1, .int .u64 x.2]
theorem flat2_snoc (L : List (Int × Int)) (x : Int × Int) : flat2 (L ++ [x]) = flat2 L ++ [.int .u64 x.1, .int .u64 x.2] := by simp [flat2]
theorem flat2_len (L : List (Int × Int)) : (flat2 L).length = L.length * 2 := by
  induction L with
  | nil => rfl
  | cons x r ih =>
    have e : flat2 (x :: r) = .int .u64 x.1 :: .int .u64 x.2 :: flat2 r := rfl
    rw [e]; simp [ih]; omega
theorem flat2_at : ∀ {L : List (Int × Int)} {i : Nat} {x : Int × Int}, L[i]? = some x → (flat2 L)[i * 2]? = some (.int .u64 x.1) ∧ (flat2 L)[i * 2 + 1]? = some (.int .u64 x.2)
  | [], i, x, h => by simp at h
  | y :: r, i, x, h => by
    have e : flat2 (y :: r) = .int .u64 y.1 :: .int .u64 y.2 :: flat2 r := rfl
    rw [e]
    match i, h with
    | 0, h => simp at h; subst h; simp
    | i + 1, h =>
      have h' : r[i]? = some x := by simpa using h
      have := flat2_at h'
      rw [show (i + 1) * 2 = i * 2 + 1 + 1 by omega]
      simpa using this
/-- A slice of the chapter's words, in blocks of T. -/
def RL (w : World) (v : Value) (L : List (Int × Int)) (T : Nat → Prop) : Prop :=
  (L = [] ∧ v = .slice none 0 0) ∨ ∃ g cap, v = .slice (some ⟨g, 0, none⟩) L.length cap ∧ T g ∧ g < w.heap.size ∧ L.length ≤ cap ∧ cap ≤ maxLen ∧ ∀ i x, L[i]? = some x → w.cell? ⟨g, i * 2, none⟩ = some (.int .u64 x.1) ∧ w.cell? ⟨g, i * 2 + 1, none⟩ = some (.int .u64 x.2)
theorem RL.keep {w W : World} {v : Value} {L : List (Int × Int)} {T S : Nat → Prop} (h : RL w v L T) (hk : Keeps S w W) (hS : ∀ k, T k → ¬ S k) : RL W v L T := by
  rcases h with h | ⟨g, cap, h1, h2, h3, h4, h5, h6⟩
  · exact .inl h
  · exact .inr ⟨g, cap, h1, h2, Nat.lt_of_lt_of_le h3 hk.size, h4, h5, fun i x hx => ⟨hk.cell (p := ⟨g, i * 2, none⟩) (hS g h2) (h6 i x hx).1, hk.cell (p := ⟨g, i * 2 + 1, none⟩) (hS g h2) (h6 i x hx).2⟩⟩
theorem RL.of_own {w : World} {B : Nat} {e : TypeId} {v : Value} {L : List (Int × Int)} {T : Nat → Prop} (h : w.ownsRow B e 2 v L.length (flat2 L)) (hT : ∀ k, B ≤ k → k < w.heap.size → T k) : RL w v L T := by
  obtain ⟨_, ⟨rfl, h0⟩ | ⟨g, cap, rfl, hB, hg, hn, hc, hx⟩⟩ := Lst.of_own h
  · exact .inl ⟨List.eq_nil_of_length_eq_zero h0, rfl⟩
  · exact .inr ⟨g, cap, rfl, hT g hB hg, hg, hn, hc, fun i x hi => ⟨(hx _ _ (flat2_at hi).1).1, (hx _ _ (flat2_at hi).2).1⟩⟩
/-- The chapter's cells. -/
structure Rg (w : World) (r : Nat) (L : List (Int × Int)) (cnt k a x y : Int) (T : Nat → Prop) : Prop where
  c0 : ∃ v, w.cell? ⟨r, 0, none⟩ = some v ∧ RL w v L T
  c1 : w.cell? ⟨r, 1, none⟩ = some (.int .i64 cnt)
  c2 : w.cell? ⟨r, 2, none⟩ = some (.int .u8 k)
  c3 : w.cell? ⟨r, 3, none⟩ = some (.int .u64 a)
  c4 : w.cell? ⟨r, 4, none⟩ = some (.int .u64 x)
  c5 : w.cell? ⟨r, 5, none⟩ = some (.int .u64 y)
  fz : ∀ o, o < 6 → w.frozen? ⟨r, o, none⟩ = false
  tr : T r
  lt : ∀ k, T k → k < w.heap.size
theorem Rg.keep {w W : World} {r : Nat} {L : List (Int × Int)} {cnt k a x y : Int} {T S : Nat → Prop} (h : Rg w r L cnt k a x y T) (hk : Keeps S w W) (hS : ∀ k, T k → ¬ S k) : Rg W r L cnt k a x y T := by
  obtain ⟨⟨v, h0, hl⟩, h1, h2, h3, h4, h5, hf, ht, hlt⟩ := h
  have hr := hlt r ht
  have hS' := hS r ht
  exact ⟨⟨v, hk.cell (p := ⟨r, 0, none⟩) hS' h0, hl.keep hk hS⟩, hk.cell (p := ⟨r, 1, none⟩) hS' h1, hk.cell (p := ⟨r, 2, none⟩) hS' h2, hk.cell (p := ⟨r, 3, none⟩) hS' h3, hk.cell (p := ⟨r, 4, none⟩) hS' h4, hk.cell (p := ⟨r, 5, none⟩) hS' h5, fun o ho => hk.frozen (p := ⟨r, o, none⟩) hS' hr (hf o ho), ht, fun k s => Nat.lt_of_lt_of_le (hlt k s) hk.size⟩
theorem rg_made (W : World) (t : TypeId) : Rg (W.alloc (.cells #[.slice none 0 0, .int .i64 0, .int .u8 0, .int .u64 0, .int .u64 0, .int .u64 0] t)) W.heap.size [] 0 0 0 0 0 (fun k => k = W.heap.size) :=
  ⟨⟨.slice none 0 0, by simp, .inl ⟨rfl, rfl⟩⟩, by simp, by simp, by simp, by simp, by simp, fun o ho => by simp, rfl, fun k e => by subst e; simp⟩
theorem belowN {B : Nat} {a w : World} (h : Below B a w) (n : Nat) : Below B a (w.drewN n) := by
  induction n with
  | zero => exact h
  | succ n ih => exact ih.drew
theorem drop_cons {L : List (Int × Int)} {k : Nat} {x : Int × Int} (h : L[k]? = some x) : L.drop k = x :: L.drop (k + 1) := by
  have hk : k < L.length := by
    rcases Nat.lt_or_ge k L.length with h' | h'
    · exact h'
    · rw [List.getElem?_eq_none h'] at h; simp at h
  rw [List.drop_eq_getElem_cons hk]
  rw [List.getElem?_eq_getElem hk] at h
  simp at h
  rw [h]
theorem peekL_at {L : List (Int × Int)} {k : Nat} {x : Int × Int} {a : Int} (h : L[k]? = some x) : peekL (L.drop k) a = if x.1 = a then x.2 else peekL (L.drop (k + 1)) a := by
  rw [drop_cons h]
  unfold peekL
  by_cases e : x.1 = a
  · rw [List.find?_cons_of_pos (by simpa using e), if_pos e]
  · rw [List.find?_cons_of_neg (by simpa using e), if_neg e]
set_option maxHeartbeats 2000000 in
set_option maxRecDepth 100000 in
theorem rg_peek {w : World} {r : Nat} {L : List (Int × Int)} {cnt k a0 x y : Int} {T : Nat → Prop} (h : Rg w r L cnt k a0 x y T) (a : Int) :
    Calls Tryz.prog 102 #[.pointer (some ⟨r, 0, none⟩), .int .u64 a] w fun e w' => e = .returned (.int .u64 (peekL L a)) ∧ ∃ n, w' = w.drewN n := by
  obtain ⟨v, hc, hl⟩ := h.c0
  clear h
  rcases hl with ⟨rfl, rfl⟩ | ⟨g, cap, rfl, hg, hgl, hn, hcap, hx⟩
  · go_enter Tryz.func102, Tryz.ntmps102
    go_wp2_with fail
    refine wp_loop_rounds 1 ?_
    rw [rounds_succ]
    go_wp2_with fail
    go_ret
    exact ⟨rfl, 0, rfl⟩
  · unfold maxLen at hcap
    have HX := Lib.hid hx
    clear hx
    go_enter Tryz.func102, Tryz.ntmps102
    go_wp2_with fail
    go_loopw [5] (fun i wr => ∃ (k n : Nat), k ≤ L.length ∧ i = .int .i64 k ∧ wr = w.drewN n ∧ Hid (peekL (L.drop k) a = peekL L a)) (fun i _ => L.length - (intOf i).toNat)
    case atStart => exact ⟨0, 0, by omega, rfl, rfl, rfl⟩
    case round =>
      obtain ⟨k, n, hk, rfl, rfl, hP⟩ := hrel
      by_cases hlt : k < L.length
      · have hlt' : decide ((k : Int) < (L.length : Int)) = true := decide_eq_true (by omega)
        obtain ⟨z, hz⟩ : ∃ z, L[k]? = some z := ⟨_, List.getElem?_eq_getElem hlt⟩
        obtain ⟨d0, d1⟩ := HX.out k z hz
        have hP2 := peekL_at (a := a) hz
        have hkc : k < cap := by omega
        by_cases e : z.1 = a
        · have e' : (z.1 == a) = true := by simpa using e
          have e'' : decide (z.1 = a) = true := decide_eq_true e
          rw [if_pos e] at hP2
          have HE := Lib.hid (hP2.symm.trans hP.out)
          clear hP2 hP hz
          go_wp2_with fail
          go_ret
          exact ⟨by rw [HE.out]; rfl, _, rfl⟩
        · have e' : (z.1 == a) = false := by simpa using e
          have e'' : decide (z.1 = a) = false := decide_eq_false e
          rw [if_neg e] at hP2
          have HE := Lib.hid (hP2.symm.trans hP.out)
          clear hP2 hP hz
          go_wp2_with fail
          go_roundw
          case rel => exact ⟨k + 1, _, by omega, by go_num, rfl, HE⟩
          case measure => simp [intOf]; omega
      · obtain rfl : k = L.length := by omega
        have hlt' : decide ((L.length : Int) < (L.length : Int)) = false := decide_eq_false (by omega)
        have hP2 := hP.out
        rw [List.drop_length] at hP2
        have HE := Lib.hid (show (0 : Int) = peekL L a from hP2)
        clear hP hP2
        go_wp2_with fail
        go_ret
        exact ⟨by rw [HE.out]; rfl, _, rfl⟩
end Go.Proofs.YtodppilfpemepaaGreat
/- Next: The chapter's cells of whatever words: put. -/
namespace Go.Proofs.YtodppilfpemepaaGreat
open Go.RowKit
set_option linter.unusedVariables false

theorem goL_at {L : List (Int × Int)} {k : Nat} {x : Int × Int} {a v : Int} {d : Bool} (h : L[k]? = some x) : goL a v d (L.drop k) = if d = false ∧ a ≤ x.1 then (a, v) :: ((if x.1 = a then [] else [x]) ++ goL a v true (L.drop (k + 1))) else (if x.1 = a then [] else [x]) ++ goL a v d (L.drop (k + 1)) := by
  rw [drop_cons h]; rfl
theorem new2c {W : World} {x y : Int} {t : TypeId} {j : Nat} {u : Value} (hj : [Value.int .u64 x, Value.int .u64 y][j]? = some u) : (W.alloc (.cells #[.int .u64 x, .int .u64 y] t)).cell? ((⟨W.heap.size, 0, none⟩ : Addr).add j) = some u := by
  match j, hj with
  | 0, hj => simp at hj; subst hj; simp [Addr.add]
  | 1, hj => simp at hj; subst hj; simp [Addr.add]
  | j + 2, hj => simp at hj
theorem one2 {x y : Int} : ∀ u ∈ [Value.int .u64 x, Value.int .u64 y], u.oneCell' = true := by
  intro u hu
  simp at hu
  rcases hu with rfl | rfl <;> rfl
def RPost (w : World) (r : Nat) (L : List (Int × Int)) (cnt k a x y : Int) (T : Nat → Prop) (w' : World) : Prop := ∃ T', Turn T T' w w' ∧ Rg w' r L cnt k a x y T'
/-- Behind the new list's store. -/
theorem rg_stored {w W : World} {r : Nat} {L M : List (Int × Int)} {cnt k a x y : Int} {T : Nat → Prop} {v : Value} (h : Rg w r L cnt k a x y T) (hb : Below w.heap.size w W) (hv : RL W v M (fun j => w.heap.size ≤ j ∧ j < W.heap.size)) : RPost w r M cnt k a x y T (W.setCell ⟨r, 0, none⟩ v) := by
  have hr := h.lt r h.tr
  obtain ⟨⟨v0, h0, -⟩, h1, h2, h3, h4, h5, hf, ht, hlt⟩ := h
  have o := fun (j : Nat) (hj : j ≠ 0) (u : Value) (hu : w.cell? ⟨r, j, none⟩ = some u) => ((World.cell?_setCell_other W ⟨r, 0, none⟩ ⟨r, j, none⟩ v (by intro e; injection e with _ e; exact hj e.symm)).trans (hb.cell (p := ⟨r, j, none⟩) hr)).trans hu
  have hs : (W.setCell ⟨r, 0, none⟩ v).heap.size = W.heap.size := by simp [World.setCell]
  have hsz := hb.size
  refine ⟨fun j => j = r ∨ (w.heap.size ≤ j ∧ j < W.heap.size), ⟨(Keeps.of_new hb).setCell (.inl ht) _, fun j hj => ?_⟩, ⟨v, World.cell?_setCell_same _ _ _ ((hb.cell (p := ⟨r, 0, none⟩) hr).trans h0), ?_⟩, o 1 (by decide) _ h1, o 2 (by decide) _ h2, o 3 (by decide) _ h3, o 4 (by decide) _ h4, o 5 (by decide) _ h5, fun j hj => ?_, .inl rfl, fun j hj => ?_⟩
  · rcases hj with rfl | hj
    · exact .inl ht
    · exact .inr (by rw [hs]; exact hj)
  · rcases hv with hv | ⟨g, cap, e1, e2, e3, e4, e5, e6⟩
    · exact .inl hv
    · have hgr : ∀ j, (⟨g, j, none⟩ : Addr) ≠ ⟨r, 0, none⟩ := fun j e => by injection e with e _; omega
      refine .inr ⟨g, cap, e1, .inr e2, by rw [hs]; exact e3, e4, e5, fun i z hz => ?_⟩
      exact ⟨(World.cell?_setCell_other _ _ _ _ (hgr _).symm).trans (e6 i z hz).1, (World.cell?_setCell_other _ _ _ _ (hgr _).symm).trans (e6 i z hz).2⟩
  · rw [World.frozen?_setCell]
    exact (hb.frozen (p := ⟨r, j, none⟩) hr).trans (hf j hj)
  · rw [hs]
    rcases hj with rfl | hj
    · omega
    · exact hj.2
set_option maxHeartbeats 8000000 in
set_option maxRecDepth 100000 in
theorem rg_put {w : World} {r : Nat} {L : List (Int × Int)} {cnt kk a0 x y : Int} {T : Nat → Prop} (h : Rg w r L cnt kk a0 x y T) (hL : L.length ≤ 1000000000) (a v : Int) :
    Calls Tryz.prog 95 #[.pointer (some ⟨r, 0, none⟩), .int .u64 a, .int .u64 v] w fun e w' => e = .returned (.tuple #[]) ∧ RPost w r (putL L a v) cnt kk a0 x y T w' := by
  obtain ⟨v0, hc, hl⟩ := h.c0
  have hfz := h.fz 0 (by omega)
  have hrl := h.lt r h.tr
  have HH := Lib.hid h
  obtain ⟨i0, hi, hz0, hz1, hz2⟩ := info_parts info_rw
  clear h
  obtain ⟨B, hB⟩ : ∃ B, B = w.heap.size := ⟨_, rfl⟩
  have hBl : B ≤ w.heap.size := by omega
  have HB := Lib.hid hB
  have hrB : r < B := by omega
  clear hB
  obtain ⟨d0, hd0⟩ : ∃ d : Bool, (v == 0) = d := ⟨_, rfl⟩
  have hd0' : decide (v = 0) = d0 := by rw [← hd0]; rfl
  have HD0 := Lib.hid hd0
  -- the list, as it is read
  obtain ⟨ga, cap, rfl, hcap, hnil, hx⟩ : ∃ ga cap, v0 = .slice ga L.length cap ∧ (L.length ≤ cap ∧ cap ≤ 9223372036854775807) ∧ (0 < L.length → ∃ g, ga = some ⟨g, 0, none⟩ ∧ g < B ∧ ∀ i x, L[i]? = some x → w.cell? ⟨g, i * 2, none⟩ = some (.int .u64 x.1) ∧ w.cell? ⟨g, i * 2 + 1, none⟩ = some (.int .u64 x.2)) ∧ True := by
    rcases hl with ⟨rfl, rfl⟩ | ⟨g, cap, rfl, h2, h3, h4, h5, h6⟩
    · exact ⟨none, 0, rfl, by simp, fun h => by simp at h, trivial⟩
    · unfold maxLen at h5
      exact ⟨_, cap, rfl, ⟨h4, by omega⟩, fun _ => ⟨g, rfl, by rw [HB.out]; exact h3, h6⟩, trivial⟩
  have HNIL := Lib.hid hnil
  obtain ⟨hcap1, hcap2⟩ := hcap
  clear hl hx hnil hd0
  go_enter Tryz.func95, Tryz.ntmps95
  go_wp2_with fail
  go_loopw [6, 7, 8] (fun ov dv iv wr => ∃ (o : List (Int × Int)) (d : Bool) (k : Nat), k ≤ L.length ∧ iv = .int .i64 k ∧ dv = .bool d ∧ wr.ownsRow B 127 2 ov o.length (flat2 o) ∧ Below B w wr ∧ o.length ≤ k + d.toNat ∧ Hid (o ++ goL a v d (L.drop k) = putL L a v)) (fun _ _ iv _ => L.length - (intOf iv).toNat)
  case atStart => exact ⟨[], d0, 0, by omega, rfl, by rw [HD0.out], World.ownsRow_nil _ _ _ _, Below.refl _ _, by simp, by show _ = _; rw [← HD0.out]; rfl⟩
  case round =>
    obtain ⟨o, d, k, hk, rfl, rfl, hown, hnx, hol, hP⟩ := hrel
    have hsz := hnx.size
    have hcr : wr.cell? ⟨r, 0, none⟩ = some (.slice ga L.length cap) := (hnx.cell (p := ⟨r, 0, none⟩) hrB).trans hc
    by_cases hlt : k < L.length
    · have hlt' : decide ((k : Int) < (L.length : Int)) = true := decide_eq_true (by omega)
      obtain ⟨z, hz⟩ : ∃ z, L[k]? = some z := ⟨_, List.getElem?_eq_getElem hlt⟩
      obtain ⟨g, rfl, hgB, hx⟩ := HNIL.out (by omega)
      obtain ⟨q0, q1⟩ := hx k z hz
      have x0 : wr.cell? ⟨g, k * 2, none⟩ = some (.int .u64 z.1) := (hnx.cell (p := ⟨g, k * 2, none⟩) hgB).trans q0
      have x1 : wr.cell? ⟨g, k * 2 + 1, none⟩ = some (.int .u64 z.2) := (hnx.cell (p := ⟨g, k * 2 + 1, none⟩) hgB).trans q1
      have hkc : k < cap := by omega
      have hG := goL_at (a := a) (v := v) (d := d) hz
      clear hx q0 q1 hz
      obtain ⟨z0, z1⟩ := z
      simp only at x0 x1 hG
      by_cases hza : z0 = a
      · subst hza
        have n1 : (z0 != z0) = false := by simp
        have n2 : decide (z0 ≤ z0) = true := decide_eq_true (Int.le_refl _)
        cases d with
        | true =>
          rw [if_neg (by simp), if_pos rfl] at hG
          have HG := Lib.hid (hG ▸ hP.out)
          clear hG hP
          go_wp2_with fail
          go_roundw
          case rel => exact ⟨o, true, k + 1, by omega, by go_num, rfl, hown, hnx, by (try simp); (try simp at hol); omega, by show _ = _; rw [← HG.out]; simp⟩
          case measure => simp [intOf]; omega
        | false =>
          rw [if_pos ⟨rfl, Int.le_refl _⟩, if_pos rfl] at hG
          have HG := Lib.hid (hG ▸ hP.out)
          clear hG hP
          go_wp2_with (at_builtin; refine wpList_append_own _ rfl _ _ 128 rfl B 127 i0 (.agg #[.int .u64 0, .int .u64 0]) 2 16 Tryz.underlying128 hi hz0 hz1 hz2 rfl (by decide) _ _ _ rfl (hown.alloc _) ⟨wr.heap.size, 0, none⟩ 1 1 [.int .u64 z0, .int .u64 v] rfl rfl ?p1 ?p2 ?p3 ?p4 ?p5 ?_)
          try case p1 => intro j u hj; exact new2c hj
          case p2 => first | exact one2 | exact ⟨rfl, rfl⟩
          case p3 => unfold maxLen; (try simp at hol); omega
          case p4 => (try simp at hol); omega
          case p5 => first | (simp; omega) | omega
          intro vp wp hownp hgrow _
          have hnxp := app_below hown hnx hBl hgrow
          have hszp := hnxp.size
          clear hgrow
          have hownp' : wp.ownsRow B 127 2 vp (o ++ [(z0, v)]).length (flat2 (o ++ [(z0, v)])) := by rw [flat2_snoc, List.length_append]; exact hownp
          have hcp : wp.cell? ⟨r, 0, none⟩ = some (.slice (some ⟨g, 0, none⟩) L.length cap) := (hnxp.cell (p := ⟨r, 0, none⟩) hrB).trans hc
          have xp0 : wp.cell? ⟨g, k * 2, none⟩ = some (.int .u64 z0) := ((hnxp.cell (p := ⟨g, k * 2, none⟩) hgB).trans (hnx.cell (p := ⟨g, k * 2, none⟩) hgB).symm).trans x0
          have xp1 : wp.cell? ⟨g, k * 2 + 1, none⟩ = some (.int .u64 z1) := ((hnxp.cell (p := ⟨g, k * 2 + 1, none⟩) hgB).trans (hnx.cell (p := ⟨g, k * 2 + 1, none⟩) hgB).symm).trans x1
          clear hownp hown hnx x0 x1 hcr hsz
          have hol2 : (o ++ [(z0, v)]).length ≤ k + 1 := by simp at hol ⊢; omega
          go_wp2_with fail
          go_roundw
          case rel => exact ⟨o ++ [(z0, v)], true, k + 1, by omega, by go_num, rfl, hownp', hnxp, by (try simp); (try simp at hol); omega, by show _ = _; rw [← HG.out]; simp⟩
          case measure => simp [intOf]; omega
      · have n1 : (z0 != a) = true := by simpa using hza
        cases d with
        | true =>
          rw [if_neg (by simp), if_neg hza] at hG
          have HG := Lib.hid (hG ▸ hP.out)
          clear hG hP
          go_wp2_with (at_builtin; refine wpList_append_own _ rfl _ _ 128 rfl B 127 i0 (.agg #[.int .u64 0, .int .u64 0]) 2 16 Tryz.underlying128 hi hz0 hz1 hz2 rfl (by decide) _ _ _ rfl (hown.alloc _) ⟨wr.heap.size, 0, none⟩ 1 1 [.int .u64 z0, .int .u64 z1] rfl rfl ?k1 ?k2 ?k3 ?k4 ?k5 ?_)
          try case k1 => intro j u hj; exact new2c hj
          case k2 => first | exact one2 | exact ⟨rfl, rfl⟩
          case k3 => unfold maxLen; (try simp at hol); omega
          case k4 => (try simp at hol); omega
          case k5 => first | (simp; omega) | omega
          intro vk wk hownk hgrow _
          have hnxk := app_below hown hnx hBl hgrow
          have hszk := hnxk.size
          clear hgrow
          have hownk' : wk.ownsRow B 127 2 vk (o ++ [(z0, z1)]).length (flat2 (o ++ [(z0, z1)])) := by first | (rw [flat2_snoc, List.length_append]; exact hownk) | (rw [show (o ++ [(z0, z1)]).length = o.length + 1 + 1 by simp, flat2_snoc]; exact hownk)
          go_wp2_with fail
          go_roundw
          case rel => exact ⟨o ++ [(z0, z1)], true, k + 1, by omega, by go_num, rfl, hownk', hnxk, by (try simp); (try simp at hol); omega, by show _ = _; rw [← HG.out]; simp⟩
          case measure => simp [intOf]; omega
        | false =>
          by_cases hle : a ≤ z0
          · have n2 : decide (a ≤ z0) = true := decide_eq_true hle
            rw [if_pos ⟨rfl, hle⟩, if_neg hza] at hG
            have HG := Lib.hid (hG ▸ hP.out)
            clear hG hP
            go_wp2_with (at_builtin; refine wpList_append_own _ rfl _ _ 128 rfl B 127 i0 (.agg #[.int .u64 0, .int .u64 0]) 2 16 Tryz.underlying128 hi hz0 hz1 hz2 rfl (by decide) _ _ _ rfl (hown.alloc _) ⟨wr.heap.size, 0, none⟩ 1 1 [.int .u64 a, .int .u64 v] rfl rfl ?p1 ?p2 ?p3 ?p4 ?p5 ?_)
            try case p1 => intro j u hj; exact new2c hj
            case p2 => first | exact one2 | exact ⟨rfl, rfl⟩
            case p3 => unfold maxLen; (try simp at hol); omega
            case p4 => (try simp at hol); omega
            case p5 => first | (simp; omega) | omega
            intro vp wp hownp hgrow _
            have hnxp := app_below hown hnx hBl hgrow
            have hszp := hnxp.size
            clear hgrow
            have hownp' : wp.ownsRow B 127 2 vp (o ++ [(a, v)]).length (flat2 (o ++ [(a, v)])) := by rw [flat2_snoc, List.length_append]; exact hownp
            have hcp : wp.cell? ⟨r, 0, none⟩ = some (.slice (some ⟨g, 0, none⟩) L.length cap) := (hnxp.cell (p := ⟨r, 0, none⟩) hrB).trans hc
            have xp0 : wp.cell? ⟨g, k * 2, none⟩ = some (.int .u64 z0) := ((hnxp.cell (p := ⟨g, k * 2, none⟩) hgB).trans (hnx.cell (p := ⟨g, k * 2, none⟩) hgB).symm).trans x0
            have xp1 : wp.cell? ⟨g, k * 2 + 1, none⟩ = some (.int .u64 z1) := ((hnxp.cell (p := ⟨g, k * 2 + 1, none⟩) hgB).trans (hnx.cell (p := ⟨g, k * 2 + 1, none⟩) hgB).symm).trans x1
            clear hownp hown hnx x0 x1 hcr hsz
            have hol2 : (o ++ [(a, v)]).length ≤ k + 1 := by simp at hol ⊢; omega

            go_wp2_with (at_builtin; refine wpList_append_own _ rfl _ _ 128 rfl B 127 i0 (.agg #[.int .u64 0, .int .u64 0]) 2 16 Tryz.underlying128 hi hz0 hz1 hz2 rfl (by decide) _ _ _ rfl (hownp'.alloc _) ⟨wp.heap.size, 0, none⟩ 1 1 [.int .u64 z0, .int .u64 z1] rfl rfl ?k1 ?k2 ?k3 ?k4 ?k5 ?_)
            try case k1 => intro j u hj; exact new2c hj
            case k2 => first | exact one2 | exact ⟨rfl, rfl⟩
            case k3 => unfold maxLen; (try simp at hol); omega
            case k4 => (try simp at hol); omega
            case k5 => first | (simp; omega) | omega
            intro vk wk hownk hgrow _
            have hnxk := app_below hownp' hnxp hBl hgrow
            have hszk := hnxk.size
            clear hgrow
            have hownk' : wk.ownsRow B 127 2 vk (o ++ [(a, v)] ++ [(z0, z1)]).length (flat2 (o ++ [(a, v)] ++ [(z0, z1)])) := by first | (rw [flat2_snoc, List.length_append]; exact hownk) | (rw [show (o ++ [(a, v)] ++ [(z0, z1)]).length = o.length + 1 + 1 by simp, flat2_snoc]; exact hownk)
            go_wp2_with fail
            go_roundw
            case rel => exact ⟨o ++ [(a, v)] ++ [(z0, z1)], true, k + 1, by omega, by go_num, rfl, hownk', hnxk, by (try simp); (try simp at hol); omega, by show _ = _; rw [← HG.out]; simp⟩
            case measure => simp [intOf]; omega
          · have n2 : decide (a ≤ z0) = false := decide_eq_false hle
            rw [if_neg (fun e => hle e.2), if_neg hza] at hG
            have HG := Lib.hid (hG ▸ hP.out)
            clear hG hP
            go_wp2_with (at_builtin; refine wpList_append_own _ rfl _ _ 128 rfl B 127 i0 (.agg #[.int .u64 0, .int .u64 0]) 2 16 Tryz.underlying128 hi hz0 hz1 hz2 rfl (by decide) _ _ _ rfl (hown.alloc _) ⟨wr.heap.size, 0, none⟩ 1 1 [.int .u64 z0, .int .u64 z1] rfl rfl ?k1 ?k2 ?k3 ?k4 ?k5 ?_)
            try case k1 => intro j u hj; exact new2c hj
            case k2 => first | exact one2 | exact ⟨rfl, rfl⟩
            case k3 => unfold maxLen; (try simp at hol); omega
            case k4 => (try simp at hol); omega
            case k5 => first | (simp; omega) | omega
            intro vk wk hownk hgrow _
            have hnxk := app_below hown hnx hBl hgrow
            have hszk := hnxk.size
            clear hgrow
            have hownk' : wk.ownsRow B 127 2 vk (o ++ [(z0, z1)]).length (flat2 (o ++ [(z0, z1)])) := by first | (rw [flat2_snoc, List.length_append]; exact hownk) | (rw [show (o ++ [(z0, z1)]).length = o.length + 1 + 1 by simp, flat2_snoc]; exact hownk)
            go_wp2_with fail
            go_roundw
            case rel => exact ⟨o ++ [(z0, z1)], false, k + 1, by omega, by go_num, rfl, hownk', hnxk, by (try simp); (try simp at hol); omega, by show _ = _; rw [← HG.out]; simp⟩
            case measure => simp [intOf]; omega
    · obtain rfl : k = L.length := by omega
      have hlt' : decide ((L.length : Int) < (L.length : Int)) = false := decide_eq_false (by omega)
      have hP2 := hP.out
      rw [List.drop_length] at hP2
      have hfr : ∀ W, Below B w W → W.frozen? ⟨r, 0, none⟩ = false := fun W hb => (hb.frozen (p := ⟨r, 0, none⟩) hrB).trans hfz
      cases d with
      | true =>
        have hf1 := hfr _ hnx
        have HE := Lib.hid (show o = putL L a v by simpa [goL] using hP2)
        clear hP hP2 hfr
        obtain ⟨ga', n', c', hq⟩ : ∃ ga' n' c', _ = Value.slice ga' n' c' := (Lst.of_own hown).2.elim (fun h => ⟨_, _, _, h.1⟩) (fun ⟨g, c, h, _⟩ => ⟨_, _, _, h⟩)
        subst hq
        go_wp2_with fail
        go_end0
        refine ⟨rfl, ?_⟩
        rw [← HE.out]
        exact rg_stored HH.out (by rw [← HB.out]; exact hnx) (RL.of_own hown (fun j h1 h2 => ⟨by rw [← HB.out]; exact h1, h2⟩))
      | false =>
        have HE := Lib.hid (show o ++ [(a, v)] = putL L a v by simpa [goL] using hP2)
        clear hP hP2
        go_wp2_with (at_builtin; refine wpList_append_own _ rfl _ _ 128 rfl B 127 i0 (.agg #[.int .u64 0, .int .u64 0]) 2 16 Tryz.underlying128 hi hz0 hz1 hz2 rfl (by decide) _ _ _ rfl (hown.alloc _) ⟨wr.heap.size, 0, none⟩ 1 1 [.int .u64 a, .int .u64 v] rfl rfl ?p1 ?p2 ?p3 ?p4 ?p5 ?_)
        try case p1 => intro j u hj; exact new2c hj
        case p2 => first | exact one2 | exact ⟨rfl, rfl⟩
        case p3 => unfold maxLen; (try simp at hol); omega
        case p4 => (try simp at hol); omega
        case p5 => first | (simp; omega) | omega
        intro vp wp hownp hgrow _
        have hnxp := app_below hown hnx hBl hgrow
        have hszp := hnxp.size
        clear hgrow
        have hownp' : wp.ownsRow B 127 2 vp (o ++ [(a, v)]).length (flat2 (o ++ [(a, v)])) := by rw [flat2_snoc, List.length_append]; exact hownp
        have hcp : wp.cell? ⟨r, 0, none⟩ = some (.slice ga L.length cap) := (hnxp.cell (p := ⟨r, 0, none⟩) hrB).trans hc
        have hf1 := hfr _ hnxp
        obtain ⟨ga', n', c', hq⟩ : ∃ ga' n' c', _ = Value.slice ga' n' c' := (Lst.of_own hownp').2.elim (fun h => ⟨_, _, _, h.1⟩) (fun ⟨g, c, h, _⟩ => ⟨_, _, _, h⟩)
        subst hq
        clear hownp hown hnx hcr hsz hfr
        go_wp2_with fail
        go_end0
        refine ⟨rfl, ?_⟩
        rw [← HE.out]
        exact rg_stored HH.out (by rw [← HB.out]; exact hnxp) (RL.of_own hownp' (fun j h1 h2 => ⟨by rw [← HB.out]; exact h1, h2⟩))
end Go.Proofs.YtodppilfpemepaaGreat
/- Next: The chapter's cells of whatever words: accesses; New. -/
namespace Go.Proofs.YtodppilfpemepaaGreat
open Go.RowKit
set_option linter.unusedVariables false

section
variable {w : World} {r : Nat} {L : List (Int × Int)} {cnt kk a0 x y : Int} {T : Nat → Prop}
theorem Rg.after {w w1 : World} (h : Rg w r L cnt kk a0 x y T) (hb : Below w.heap.size w w1) : Rg w1 r L cnt kk a0 x y T := h.keep (S := fun _ => False) (Keeps.of_new hb) (fun _ _ s => s)
theorem drewN_below (w : World) (n : Nat) : Below w.heap.size w (w.drewN n) := belowN (Below.refl _ _) n
theorem RPost.after {w w1 w' : World} {M : List (Int × Int)} {cnt' k' a' x' y' : Int} (hb : Below w.heap.size w w1) (h : RPost w1 r M cnt' k' a' x' y' T w') : RPost w r M cnt' k' a' x' y' T w' := by
  obtain ⟨T', t, g⟩ := h
  exact ⟨T', Turn.after hb t, g⟩
theorem RPost.new {w w1 w' : World} {M : List (Int × Int)} {cnt' k' a' x' y' : Int} (h : RPost w r M cnt' k' a' x' y' T w1) (hb : Below w1.heap.size w1 w') : RPost w r M cnt' k' a' x' y' T w' := by
  obtain ⟨T', t, g⟩ := h
  exact ⟨T', t.new hb, g.after hb⟩
/-- What the five stores of an access leave. -/
theorem Rg.told (h : Rg w r L cnt kk a0 x y T) (c k a u v : Int) : Rg (((((w.setCell ⟨r, 1, none⟩ (.int .i64 c)).setCell ⟨r, 2, none⟩ (.int .u8 k)).setCell ⟨r, 3, none⟩ (.int .u64 a)).setCell ⟨r, 4, none⟩ (.int .u64 u)).setCell ⟨r, 5, none⟩ (.int .u64 v)) r L c k a u v T ∧
    Keeps (fun j => j = r) w (((((w.setCell ⟨r, 1, none⟩ (.int .i64 c)).setCell ⟨r, 2, none⟩ (.int .u8 k)).setCell ⟨r, 3, none⟩ (.int .u64 a)).setCell ⟨r, 4, none⟩ (.int .u64 u)).setCell ⟨r, 5, none⟩ (.int .u64 v)) := by
  obtain ⟨⟨v0, h0, hl⟩, h1, h2, h3, h4, h5, hf, ht, hlt⟩ := h
  have hk : Keeps (fun j => j = r) w (((((w.setCell ⟨r, 1, none⟩ (.int .i64 c)).setCell ⟨r, 2, none⟩ (.int .u8 k)).setCell ⟨r, 3, none⟩ (.int .u64 a)).setCell ⟨r, 4, none⟩ (.int .u64 u)).setCell ⟨r, 5, none⟩ (.int .u64 v)) :=
    (((((Keeps.refl (fun j => j = r) w).setCell (p := ⟨r, 1, none⟩) (.inl rfl) _).setCell (p := ⟨r, 2, none⟩) (.inl rfl) _).setCell (p := ⟨r, 3, none⟩) (.inl rfl) _).setCell (p := ⟨r, 4, none⟩) (.inl rfl) _).setCell (p := ⟨r, 5, none⟩) (.inl rfl) _
  have o := fun (W : World) (i j : Nat) (hj : j ≠ i) (z : Value) => World.cell?_setCell_other W ⟨r, i, none⟩ ⟨r, j, none⟩ z (by intro e; injection e with _ e; exact hj e.symm)
  have s := fun (W : World) (i : Nat) (z q : Value) (hq : W.cell? ⟨r, i, none⟩ = some q) => World.cell?_setCell_same W ⟨r, i, none⟩ z hq
  have fz : ∀ (W : World) (p q : Addr) (z : Value), (W.setCell p z).frozen? q = W.frozen? q := fun W p q z => World.frozen?_setCell _ _ _ _
  refine ⟨⟨⟨v0, ?_, ?_⟩, ?_, ?_, ?_, ?_, ?_, fun j hj => ?_, ht, fun j hj => ?_⟩, hk⟩
  · rw [o _ 5 0 (by decide), o _ 4 0 (by decide), o _ 3 0 (by decide), o _ 2 0 (by decide), o _ 1 0 (by decide)]; exact h0
  · rcases hl with hl | ⟨g, cap, e1, e2, e3, e4, e5, e6⟩
    · exact .inl hl
    · by_cases hg : g = r
      · subst hg
        refine .inr ⟨g, cap, e1, e2, Nat.lt_of_lt_of_le e3 hk.size, e4, e5, fun i z hz => ?_⟩
        have q := (e6 i z hz).1
        match i, hz, q with
        | 0, hz, q => rw [Nat.zero_mul, h0, e1] at q; simp at q
        | 1, hz, q =>
          have hz0 : ∃ z0, L[0]? = some z0 := by
            cases L with
            | nil => simp at hz
            | cons b r => exact ⟨b, rfl⟩
          obtain ⟨z0, hz0⟩ := hz0
          have q0 := (e6 0 z0 hz0).1
          rw [Nat.zero_mul, h0, e1] at q0; simp at q0
        | i + 2, hz, q =>
          have hz0 : ∃ z0, L[0]? = some z0 := by
            cases L with
            | nil => simp at hz
            | cons b r => exact ⟨b, rfl⟩
          obtain ⟨z0, hz0⟩ := hz0
          have q0 := (e6 0 z0 hz0).1
          rw [Nat.zero_mul, h0, e1] at q0; simp at q0
      · exact .inr ⟨g, cap, e1, e2, Nat.lt_of_lt_of_le e3 hk.size, e4, e5, fun i z hz => ⟨hk.cell (p := ⟨g, i * 2, none⟩) hg (e6 i z hz).1, hk.cell (p := ⟨g, i * 2 + 1, none⟩) hg (e6 i z hz).2⟩⟩
  · rw [o _ 5 1 (by decide), o _ 4 1 (by decide), o _ 3 1 (by decide), o _ 2 1 (by decide)]; exact s _ _ _ _ h1
  · rw [o _ 5 2 (by decide), o _ 4 2 (by decide), o _ 3 2 (by decide)]; exact s _ _ _ _ (by rw [o _ 1 2 (by decide)]; exact h2)
  · rw [o _ 5 3 (by decide), o _ 4 3 (by decide)]; exact s _ _ _ _ (by rw [o _ 2 3 (by decide), o _ 1 3 (by decide)]; exact h3)
  · rw [o _ 5 4 (by decide)]; exact s _ _ _ _ (by rw [o _ 3 4 (by decide), o _ 2 4 (by decide), o _ 1 4 (by decide)]; exact h4)
  · exact s _ _ _ _ (by rw [o _ 4 5 (by decide), o _ 3 5 (by decide), o _ 2 5 (by decide), o _ 1 5 (by decide)]; exact h5)
  · rw [fz, fz, fz, fz, fz]; exact hf j hj
  · exact Nat.lt_of_lt_of_le (hlt j hj) hk.size
set_option maxHeartbeats 2000000 in
set_option maxRecDepth 100000 in
theorem rg_access (h : Rg w r L cnt kk a0 x y T) (hL : L.length ≤ 1000000000) (hc0 : 0 ≤ cnt) (hc1 : cnt < 1000000000000) (k a v : Int) :
    Calls Tryz.prog 126 #[.pointer (some ⟨r, 0, none⟩), .int .u8 k, .int .u64 a, .int .u64 v] w fun e w' => e = .returned (.int .u64 (peekL L a)) ∧ RPost w r (putL L a v) (cnt + 1) k a (peekL L a) v T w' := by
  have C1 := Lib.hid (rg_peek h a)
  have C2 := Lib.hid (fun n => rg_put (h.after (drewN_below w n)) hL a v)
  have hadd : IntKind.i64.wrap (cnt + 1) = cnt + 1 := IntWalk.i64_in _ (by omega)
  clear h
  generalize peekL L a = u at C1 ⊢
  go_enter Tryz.func126, Tryz.ntmps126
  go_wp2_with (first
    | (go_at_call 102; ((with_reducible refine C1.out.mono ?_); rintro e w1 ⟨rfl, n, rfl⟩))
    | (go_at_call 95; ((with_reducible refine (C2.out _).mono ?_); rintro e w1 ⟨rfl, T', ht, hu⟩; obtain ⟨⟨c0, -, -⟩, c1, c2, c3, c4, c5, fz, -, -⟩ := id hu; have f1 := fz 1 (by decide); have f2 := fz 2 (by decide); have f3 := fz 3 (by decide); have f4 := fz 4 (by decide); have f5 := fz 5 (by decide); have HU := Lib.hid hu; have HT := Lib.hid ht; clear C1 C2 hu ht fz c0)))
  go_ret
  obtain ⟨g, hk⟩ := HU.out.told (cnt + 1) k a u v
  exact ⟨rfl, T', Turn.after (drewN_below w _) (HT.out.trans ⟨hk.mono (fun j _ e => by subst e; exact HU.out.tr), fun j s => .inl s⟩), g⟩
end
end Go.Proofs.YtodppilfpemepaaGreat
/- Next: The chapter's cells of whatever words: Load, Store, Swap, Add, CAS. -/
namespace Go.Proofs.YtodppilfpemepaaGreat
open Go.RowKit
set_option linter.unusedVariables false

section
variable {w : World} {r : Nat} {L : List (Int × Int)} {cnt kk a0 x y u : Int} {T : Nat → Prop}
theorem rgc_peek (h : Rg w r L cnt kk a0 x y T) {a : Int} (hu : peekL L a = u) :
    Calls Tryz.prog 102 #[.pointer (some ⟨r, 0, none⟩), .int .u64 a] w fun e w' => e = .returned (.int .u64 u) ∧ ∃ n, w' = w.drewN n := hu ▸ rg_peek h a
theorem rgc_access (h : Rg w r L cnt kk a0 x y T) (hL : L.length ≤ 1000000000) (hc0 : 0 ≤ cnt) (hc1 : cnt < 1000000000000) {a : Int} (hu : peekL L a = u) (k v : Int) (n : Nat) :
    Calls Tryz.prog 126 #[.pointer (some ⟨r, 0, none⟩), .int .u8 k, .int .u64 a, .int .u64 v] (w.drewN n) fun e w' => e = .returned (.int .u64 u) ∧ RPost w r (putL L a v) (cnt + 1) k a u v T w' := by
  refine (rg_access (h.after (drewN_below w n)) hL hc0 hc1 k a v).mono ?_
  rintro e w' ⟨rfl, hp⟩
  rw [hu] at hp ⊢
  exact ⟨rfl, RPost.after (drewN_below w n) hp⟩
theorem rgc_acc (h : Rg w r L cnt kk a0 x y T) (hL : L.length ≤ 1000000000) (hc0 : 0 ≤ cnt) (hc1 : cnt < 1000000000000) {a : Int} (hu : peekL L a = u) (k v : Int) :
    Calls Tryz.prog 126 #[.pointer (some ⟨r, 0, none⟩), .int .u8 k, .int .u64 a, .int .u64 v] w fun e w' => e = .returned (.int .u64 u) ∧ RPost w r (putL L a v) (cnt + 1) k a u v T w' := rgc_access h hL hc0 hc1 hu k v 0
variable (h : Rg w r L cnt kk a0 x y T) (hL : L.length ≤ 1000000000) (hc0 : 0 ≤ cnt) (hc1 : cnt < 1000000000000) {a : Int} (hu : peekL L a = u)
include h hL hc0 hc1 hu
theorem rg_store (v : Int) : Calls Tryz.prog 97 #[.pointer (some ⟨r, 0, none⟩), .int .u64 a, .int .u64 v] w fun e w' => e = .returned (.int .u64 u) ∧ RPost w r (putL L a v) (cnt + 1) 2 a u v T w' := by
  have C2 := Lib.hid (rgc_acc h hL hc0 hc1 hu 2 v)
  clear h hu
  go_enter Tryz.func97, Tryz.ntmps97
  go_wp2_with ((go_at_call 126; ((with_reducible refine C2.out.mono ?_); rintro e w1 ⟨rfl, hk⟩)))
  go_ret
  exact ⟨rfl, hk⟩
theorem rg_cas (was is : Int) {b : Bool} (hb : (u == was) = b) : Calls Tryz.prog 131 #[.pointer (some ⟨r, 0, none⟩), .int .u64 a, .int .u64 was, .int .u64 is] w fun e w' => e = .returned (.tuple #[.int .u64 u, .bool b]) ∧ RPost w r (putL L a (casI b is u)) (cnt + 1) 3 a u (casI b is u) T w' := by
  have C1 := Lib.hid (rgc_peek h hu)
  have C2 := Lib.hid (fun v n => rgc_access h hL hc0 hc1 hu 3 v n)
  clear h hu
  cases b with
  | true =>
    have e : u = was := by simpa using hb
    subst e
    have d2 : (u != u) = false := by simp
    go_enter Tryz.func131, Tryz.ntmps131
    go_wp2_with (first
      | (go_at_call 102; ((with_reducible refine C1.out.mono ?_); rintro e w1 ⟨rfl, n, rfl⟩))
      | (go_at_call 126; ((with_reducible refine (C2.out _ _).mono ?_); rintro e w1 ⟨rfl, hk⟩)))
    go_ret2
    exact ⟨rfl, hk⟩
  | false =>
    have d2 : (u != was) = true := by simpa using hb
    have d3 : decide (u = was) = false := by simpa using hb
    go_enter Tryz.func131, Tryz.ntmps131
    go_wp2_with (first
      | (go_at_call 102; ((with_reducible refine C1.out.mono ?_); rintro e w1 ⟨rfl, n, rfl⟩))
      | (go_at_call 126; ((with_reducible refine (C2.out _ _).mono ?_); rintro e w1 ⟨rfl, hk⟩)))
    go_ret2
    exact ⟨rfl, hk⟩
end
/-- The list of whatever words at first. -/
def listL (M : List (Int × Int)) : List (Int × Int) := M.foldl (fun L x => putL L x.1 x.2) []
theorem listL_take {M : List (Int × Int)} {k : Nat} {x : Int × Int} (h : M[k]? = some x) : listL (M.take (k + 1)) = putL (listL (M.take k)) x.1 x.2 := by
  have hk : k < M.length := by
    rcases Nat.lt_or_ge k M.length with h' | h'
    · exact h'
    · rw [List.getElem?_eq_none h'] at h; simp at h
  rw [List.take_succ_eq_append_getElem hk]
  rw [List.getElem?_eq_getElem hk] at h
  simp at h
  unfold listL
  rw [List.foldl_append, h]; rfl
theorem listL_len (M : List (Int × Int)) : (listL M).length ≤ M.length := by
  have key : ∀ (M L : List (Int × Int)), (M.foldl (fun L x => putL L x.1 x.2) L).length ≤ L.length + M.length := by
    intro M
    induction M with
    | nil => intro L; simp
    | cons x r ih =>
      intro L
      rw [List.foldl_cons]
      have h1 := ih (putL L x.1 x.2)
      have h2 := goL_len x.1 x.2 L (x.2 == 0)
      simp only [List.length_cons]
      unfold putL at h1 ⊢
      omega
  have := key M []
  simpa [listL] using this
set_option maxHeartbeats 2000000 in
set_option maxRecDepth 100000 in
theorem rg_new {w : World} {v : Value} {M : List (Int × Int)} {T0 : Nat → Prop} (h : RL w v M T0) (hM : M.length ≤ 1000000) :
    Calls Tryz.prog 51 #[v] w fun e w' => e = .returned (.pointer (some ⟨w.heap.size, 0, none⟩)) ∧ Below w.heap.size w w' ∧ ∃ T, Rg w' w.heap.size (listL M) 0 0 0 0 0 T ∧ ∀ j, T j → w.heap.size ≤ j := by
  rcases h with ⟨rfl, rfl⟩ | ⟨g, cap, rfl, h2, h3, h4, h5, h6⟩
  · refine (rc_new w).mono ?_
    rintro e w' ⟨rfl, rfl⟩
    exact ⟨rfl, (Below.refl _ _).alloc (Nat.le_refl _) _, _, rg_made w _, fun j e => by omega⟩
  · have HX := Lib.hid h6
    unfold maxLen at h5
    clear h6
    obtain ⟨B, hB⟩ : ∃ B, B = w.heap.size := ⟨_, rfl⟩
    have HB := Lib.hid hB
    clear hB
    go_enter Tryz.func51, Tryz.ntmps51
    go_wp2_with fail
    rw [show w.heap.size = B from HB.out.symm]
    generalize hW : w.alloc _ = W
    have hr0 : ∃ T, Rg W B [] 0 0 0 0 0 T ∧ (∀ j, T j → B ≤ j) ∧ Below B w W := by
      rw [← hW, HB.out]
      exact ⟨_, rg_made w _, fun j e => by omega, (Below.refl _ _).alloc (Nat.le_refl _) _⟩
    clear hW
    go_loopw [4] (fun i wr => ∃ (k : Nat) (T : Nat → Prop), k ≤ M.length ∧ i = .int .i64 k ∧ Rg wr B (listL (M.take k)) 0 0 0 0 0 T ∧ (∀ j, T j → B ≤ j) ∧ Below B w wr) (fun i _ => M.length - (intOf i).toNat)
    case atStart => obtain ⟨T, q1, q2, q3⟩ := hr0; exact ⟨0, T, Nat.zero_le _, rfl, q1, q2, q3⟩
    case round =>
      obtain ⟨k, T, hk, rfl, hR, hT, hnx⟩ := hrel
      clear hr0
      by_cases hlt : k < M.length
      · have hlt' : decide ((k : Int) < (M.length : Int)) = true := decide_eq_true (by omega)
        obtain ⟨z, hz⟩ : ∃ z, M[k]? = some z := ⟨_, List.getElem?_eq_getElem hlt⟩
        obtain ⟨d0, d1⟩ := HX.out k z hz
        have hgB : g < B := by rw [HB.out]; exact h3
        have e0 : wr.cell? ⟨g, k * 2, none⟩ = some (.int .u64 z.1) := (hnx.cell (p := ⟨g, k * 2, none⟩) hgB).trans d0
        have e1 : wr.cell? ⟨g, k * 2 + 1, none⟩ = some (.int .u64 z.2) := (hnx.cell (p := ⟨g, k * 2 + 1, none⟩) hgB).trans d1
        have hkc : k < cap := by omega
        have hl := listL_len (M.take k)
        rw [List.length_take] at hl
        have hgT : ¬ T g := fun s => by have := hT g s; omega
        have HP := Lib.hid (rg_put (w := wr.drew) (hR.keep (S := fun _ => False) ((Keeps.refl _ wr).drew) (fun _ _ s => s)) (by omega) z.1 z.2)
        replace e0 : wr.drew.cell? ⟨g, k * 2, none⟩ = some (.int .u64 z.1) := e0
        replace e1 : wr.drew.cell? ⟨g, k * 2 + 1, none⟩ = some (.int .u64 z.2) := e1
        have HT := Lib.hid hT
        have HZ := Lib.hid hz
        have HNX := Lib.hid hnx
        have HGT := Lib.hid hgT
        clear hR hT hz d0 d1 hl hnx hgT
        go_wp2_with fail
        go_region_held3 (fun w' => w'.cell? ⟨g, k * 2, none⟩ = some (.int .u64 z.1) ∧ w'.cell? ⟨g, k * 2 + 1, none⟩ = some (.int .u64 z.2))
          (first
            | exact ⟨by assumption, by assumption⟩)
          (first | (go_at_call 95; ((with_reducible refine HP.out.mono ?_); rintro e w2 ⟨rfl, T2, ht, hg2⟩; (have y0 : w2.cell? ⟨g, k * 2, none⟩ = some (.int .u64 z.1) := ht.keeps.cell (p := ⟨g, k * 2, none⟩) HGT.out e0); (have y1 : w2.cell? ⟨g, k * 2 + 1, none⟩ = some (.int .u64 z.2) := ht.keeps.cell (p := ⟨g, k * 2 + 1, none⟩) HGT.out e1); have HG2 := Lib.hid hg2; have HT2 := Lib.hid ht; clear hg2 ht)))
        all_goals
          go_wp2_with fail
          go_roundw
          case rel => exact ⟨k + 1, T2, by omega, by go_num, by rw [listL_take HZ.out]; exact HG2.out, (HT2.out.to_below (fun j s => HT.out j s) (by have := HNX.out.size; have := HB.out; show B ≤ wr.heap.size; omega)).2, HNX.out.drew.trans (HT2.out.to_below (fun j s => HT.out j s) (by have := HNX.out.size; have := HB.out; show B ≤ wr.heap.size; omega)).1⟩
          case measure => simp [intOf]; omega
      · obtain rfl : k = M.length := by omega
        have hlt' : decide ((M.length : Int) < (M.length : Int)) = false := decide_eq_false (by omega)
        rw [List.take_length] at hR
        have HR := Lib.hid hR
        clear hR
        go_wp2_with fail
        go_ret
        exact ⟨by rw [HB.out]; rfl, by rw [← HB.out]; exact hnx, T, by rw [← HB.out]; exact HR.out, fun j s => by rw [← HB.out]; exact hT j s⟩
end Go.Proofs.YtodppilfpemepaaGreat
