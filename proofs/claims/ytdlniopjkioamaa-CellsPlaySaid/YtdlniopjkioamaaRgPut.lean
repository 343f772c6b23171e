/- The chapter's cells of whatever words: put. -/
import Derived.Test.YtdlniopjkioamaaRg
namespace Go.Proofs.Ytdlniopjkioamaa
open Go.RowKit
set_option linter.unusedVariables false

theorem goL_at {L : List (Int × Int)} {k : Nat} {x : Int × Int} {a v : Int} {d : Bool} (h : L[k]? = some x) : goL a v d (L.drop k) = if d = false ∧ a ≤ x.1 then (a, v) :: ((if x.1 = a then [] else [x]) ++ goL a v true (L.drop (k + 1))) else (if x.1 = a then [] else [x]) ++ goL a v d (L.drop (k + 1)) := by
  rw [drop_cons h]; rfl
theorem new2c {W : World} {x y : Int} {t : TypeId} {j : Nat} {u : Value} (hj : [Value.int .u64 x, Value.int .u64 y][j]? = some u) : (W.alloc (.cells #[.int .u64 x, .int .u64 y] t)).cell? ((⟨W.heap.size, 0, none⟩ : Addr).add j) = some u := by
  match j, hj with
  | 0, hj => simp at hj; subst hj; simp [Addr.add]
  | 1, hj => simp at hj; subst hj; simp [Addr.add]
  | j + 2, hj => simp at hj
theorem one2 {x y : Int} : ∀ u ∈ [Value.int .u64 x, Value.int .u64 y], u.oneCell' = true := by
  intro u hu
  simp at hu
  rcases hu with rfl | rfl <;> rfl
def RPost (w : World) (r : Nat) (L : List (Int × Int)) (cnt k a x y : Int) (T : Nat → Prop) (w' : World) : Prop := ∃ T', Turn T T' w w' ∧ Rg w' r L cnt k a x y T'
/-- Behind the new list's store. -/
theorem rg_stored {w W : World} {r : Nat} {L M : List (Int × Int)} {cnt k a x y : Int} {T : Nat → Prop} {v : Value} (h : Rg w r L cnt k a x y T) (hb : Below w.heap.size w W) (hv : RL W v M (fun j => w.heap.size ≤ j ∧ j < W.heap.size)) : RPost w r M cnt k a x y T (W.setCell ⟨r, 0, none⟩ v) := by
  have hr := h.lt r h.tr
  obtain ⟨⟨v0, h0, -⟩, h1, h2, h3, h4, h5, hf, ht, hlt⟩ := h
  have o := fun (j : Nat) (hj : j ≠ 0) (u : Value) (hu : w.cell? ⟨r, j, none⟩ = some u) => ((World.cell?_setCell_other W ⟨r, 0, none⟩ ⟨r, j, none⟩ v (by intro e; injection e with _ e; exact hj e.symm)).trans (hb.cell (p := ⟨r, j, none⟩) hr)).trans hu
  have hs : (W.setCell ⟨r, 0, none⟩ v).heap.size = W.heap.size := by simp [World.setCell]
  have hsz := hb.size
  refine ⟨fun j => j = r ∨ (w.heap.size ≤ j ∧ j < W.heap.size), ⟨(Keeps.of_new hb).setCell (.inl ht) _, fun j hj => ?_⟩, ⟨v, World.cell?_setCell_same _ _ _ ((hb.cell (p := ⟨r, 0, none⟩) hr).trans h0), ?_⟩, o 1 (by decide) _ h1, o 2 (by decide) _ h2, o 3 (by decide) _ h3, o 4 (by decide) _ h4, o 5 (by decide) _ h5, fun j hj => ?_, .inl rfl, fun j hj => ?_⟩
  · rcases hj with rfl | hj
    · exact .inl ht
    · exact .inr (by rw [hs]; exact hj)
  · rcases hv with hv | ⟨g, cap, e1, e2, e3, e4, e5, e6⟩
    · exact .inl hv
    · have hgr : ∀ j, (⟨g, j, none⟩ : Addr) ≠ ⟨r, 0, none⟩ := fun j e => by injection e with e _; omega
      refine .inr ⟨g, cap, e1, .inr e2, by rw [hs]; exact e3, e4, e5, fun i z hz => ?_⟩
      exact ⟨(World.cell?_setCell_other _ _ _ _ (hgr _).symm).trans (e6 i z hz).1, (World.cell?_setCell_other _ _ _ _ (hgr _).symm).trans (e6 i z hz).2⟩
  · rw [World.frozen?_setCell]
    exact (hb.frozen (p := ⟨r, j, none⟩) hr).trans (hf j hj)
  · rw [hs]
    rcases hj with rfl | hj
    · omega
    · exact hj.2
set_option maxHeartbeats 8000000 in
set_option maxRecDepth 100000 in
theorem rg_put {w : World} {r : Nat} {L : List (Int × Int)} {cnt kk a0 x y : Int} {T : Nat → Prop} (h : Rg w r L cnt kk a0 x y T) (hL : L.length ≤ 1000000000) (a v : Int) :
    Calls Try.prog 20 #[.pointer (some ⟨r, 0, none⟩), .int .u64 a, .int .u64 v] w fun e w' => e = .returned (.tuple #[]) ∧ RPost w r (putL L a v) cnt kk a0 x y T w' := by
  obtain ⟨v0, hc, hl⟩ := h.c0
  have hfz := h.fz 0 (by omega)
  have hrl := h.lt r h.tr
  have HH := Lib.hid h
  obtain ⟨i0, hi, hz0, hz1, hz2⟩ := info_parts info_rw
  clear h
  obtain ⟨B, hB⟩ : ∃ B, B = w.heap.size := ⟨_, rfl⟩
  have hBl : B ≤ w.heap.size := by omega
  have HB := Lib.hid hB
  have hrB : r < B := by omega
  clear hB
  obtain ⟨d0, hd0⟩ : ∃ d : Bool, (v == 0) = d := ⟨_, rfl⟩
  have hd0' : decide (v = 0) = d0 := by rw [← hd0]; rfl
  have HD0 := Lib.hid hd0
  -- the list, as it is read
  obtain ⟨ga, cap, rfl, hcap, hnil, hx⟩ : ∃ ga cap, v0 = .slice ga L.length cap ∧ (L.length ≤ cap ∧ cap ≤ 9223372036854775807) ∧ (0 < L.length → ∃ g, ga = some ⟨g, 0, none⟩ ∧ g < B ∧ ∀ i x, L[i]? = some x → w.cell? ⟨g, i * 2, none⟩ = some (.int .u64 x.1) ∧ w.cell? ⟨g, i * 2 + 1, none⟩ = some (.int .u64 x.2)) ∧ True := by
    rcases hl with ⟨rfl, rfl⟩ | ⟨g, cap, rfl, h2, h3, h4, h5, h6⟩
    · exact ⟨none, 0, rfl, by simp, fun h => by simp at h, trivial⟩
    · unfold maxLen at h5
      exact ⟨_, cap, rfl, ⟨h4, by omega⟩, fun _ => ⟨g, rfl, by rw [HB.out]; exact h3, h6⟩, trivial⟩
  have HNIL := Lib.hid hnil
  obtain ⟨hcap1, hcap2⟩ := hcap
  clear hl hx hnil hd0
  go_enter Try.func20, Try.ntmps20
  go_wp2_with fail
  go_loopw [6, 7, 8] (fun ov dv iv wr => ∃ (o : List (Int × Int)) (d : Bool) (k : Nat), k ≤ L.length ∧ iv = .int .i64 k ∧ dv = .bool d ∧ wr.ownsRow B 30 2 ov o.length (flat2 o) ∧ Below B w wr ∧ o.length ≤ k + d.toNat ∧ Hid (o ++ goL a v d (L.drop k) = putL L a v)) (fun _ _ iv _ => L.length - (intOf iv).toNat)
  case atStart => exact ⟨[], d0, 0, by omega, rfl, by rw [HD0.out], World.ownsRow_nil _ _ _ _, Below.refl _ _, by simp, by show _ = _; rw [← HD0.out]; rfl⟩
  case round =>
    obtain ⟨o, d, k, hk, rfl, rfl, hown, hnx, hol, hP⟩ := hrel
    have hsz := hnx.size
    have hcr : wr.cell? ⟨r, 0, none⟩ = some (.slice ga L.length cap) := (hnx.cell (p := ⟨r, 0, none⟩) hrB).trans hc
    by_cases hlt : k < L.length
    · have hlt' : decide ((k : Int) < (L.length : Int)) = true := decide_eq_true (by omega)
      obtain ⟨z, hz⟩ : ∃ z, L[k]? = some z := ⟨_, List.getElem?_eq_getElem hlt⟩
      obtain ⟨g, rfl, hgB, hx⟩ := HNIL.out (by omega)
      obtain ⟨q0, q1⟩ := hx k z hz
      have x0 : wr.cell? ⟨g, k * 2, none⟩ = some (.int .u64 z.1) := (hnx.cell (p := ⟨g, k * 2, none⟩) hgB).trans q0
      have x1 : wr.cell? ⟨g, k * 2 + 1, none⟩ = some (.int .u64 z.2) := (hnx.cell (p := ⟨g, k * 2 + 1, none⟩) hgB).trans q1
      have hkc : k < cap := by omega
      have hG := goL_at (a := a) (v := v) (d := d) hz
      clear hx q0 q1 hz
      obtain ⟨z0, z1⟩ := z
      simp only at x0 x1 hG
      by_cases hza : z0 = a
      · subst hza
        have n1 : (z0 != z0) = false := by simp
        have n2 : decide (z0 ≤ z0) = true := decide_eq_true (Int.le_refl _)
        cases d with
        | true =>
          rw [if_neg (by simp), if_pos rfl] at hG
          have HG := Lib.hid (hG ▸ hP.out)
          clear hG hP
          go_wp2_with fail
          go_roundw
          case rel => exact ⟨o, true, k + 1, by omega, by go_num, rfl, hown, hnx, by (try simp); (try simp at hol); omega, by show _ = _; rw [← HG.out]; simp⟩
          case measure => simp [intOf]; omega
        | false =>
          rw [if_pos ⟨rfl, Int.le_refl _⟩, if_pos rfl] at hG
          have HG := Lib.hid (hG ▸ hP.out)
          clear hG hP
          go_wp2_with (at_builtin; refine wpList_append_own _ rfl _ _ 25 rfl B 30 i0 (.agg #[.int .u64 0, .int .u64 0]) 2 16 Try.underlying25 hi hz0 hz1 hz2 rfl (by decide) _ _ _ rfl (hown.alloc _) ⟨wr.heap.size, 0, none⟩ 1 1 [.int .u64 z0, .int .u64 v] rfl rfl ?p1 ?p2 ?p3 ?p4 ?p5 ?_)
          try case p1 => intro j u hj; exact new2c hj
          case p2 => first | exact one2 | exact ⟨rfl, rfl⟩
          case p3 => unfold maxLen; (try simp at hol); omega
          case p4 => (try simp at hol); omega
          case p5 => first | (simp; omega) | omega
          intro vp wp hownp hgrow _
          have hnxp := app_below hown hnx hBl hgrow
          have hszp := hnxp.size
          clear hgrow
          have hownp' : wp.ownsRow B 30 2 vp (o ++ [(z0, v)]).length (flat2 (o ++ [(z0, v)])) := by rw [flat2_snoc, List.length_append]; exact hownp
          have hcp : wp.cell? ⟨r, 0, none⟩ = some (.slice (some ⟨g, 0, none⟩) L.length cap) := (hnxp.cell (p := ⟨r, 0, none⟩) hrB).trans hc
          have xp0 : wp.cell? ⟨g, k * 2, none⟩ = some (.int .u64 z0) := ((hnxp.cell (p := ⟨g, k * 2, none⟩) hgB).trans (hnx.cell (p := ⟨g, k * 2, none⟩) hgB).symm).trans x0
          have xp1 : wp.cell? ⟨g, k * 2 + 1, none⟩ = some (.int .u64 z1) := ((hnxp.cell (p := ⟨g, k * 2 + 1, none⟩) hgB).trans (hnx.cell (p := ⟨g, k * 2 + 1, none⟩) hgB).symm).trans x1
          clear hownp hown hnx x0 x1 hcr hsz
          have hol2 : (o ++ [(z0, v)]).length ≤ k + 1 := by simp at hol ⊢; omega
          go_wp2_with fail
          go_roundw
          case rel => exact ⟨o ++ [(z0, v)], true, k + 1, by omega, by go_num, rfl, hownp', hnxp, by (try simp); (try simp at hol); omega, by show _ = _; rw [← HG.out]; simp⟩
          case measure => simp [intOf]; omega
      · have n1 : (z0 != a) = true := by simpa using hza
        cases d with
        | true =>
          rw [if_neg (by simp), if_neg hza] at hG
          have HG := Lib.hid (hG ▸ hP.out)
          clear hG hP
          go_wp2_with (at_builtin; refine wpList_append_own _ rfl _ _ 25 rfl B 30 i0 (.agg #[.int .u64 0, .int .u64 0]) 2 16 Try.underlying25 hi hz0 hz1 hz2 rfl (by decide) _ _ _ rfl (hown.alloc _) ⟨wr.heap.size, 0, none⟩ 1 1 [.int .u64 z0, .int .u64 z1] rfl rfl ?k1 ?k2 ?k3 ?k4 ?k5 ?_)
          try case k1 => intro j u hj; exact new2c hj
          case k2 => first | exact one2 | exact ⟨rfl, rfl⟩
          case k3 => unfold maxLen; (try simp at hol); omega
          case k4 => (try simp at hol); omega
          case k5 => first | (simp; omega) | omega
          intro vk wk hownk hgrow _
          have hnxk := app_below hown hnx hBl hgrow
          have hszk := hnxk.size
          clear hgrow
          have hownk' : wk.ownsRow B 30 2 vk (o ++ [(z0, z1)]).length (flat2 (o ++ [(z0, z1)])) := by first | (rw [flat2_snoc, List.length_append]; exact hownk) | (rw [show (o ++ [(z0, z1)]).length = o.length + 1 + 1 by simp, flat2_snoc]; exact hownk)
          go_wp2_with fail
          go_roundw
          case rel => exact ⟨o ++ [(z0, z1)], true, k + 1, by omega, by go_num, rfl, hownk', hnxk, by (try simp); (try simp at hol); omega, by show _ = _; rw [← HG.out]; simp⟩
          case measure => simp [intOf]; omega
        | false =>
          by_cases hle : a ≤ z0
          · have n2 : decide (a ≤ z0) = true := decide_eq_true hle
            rw [if_pos ⟨rfl, hle⟩, if_neg hza] at hG
            have HG := Lib.hid (hG ▸ hP.out)
            clear hG hP
            go_wp2_with (at_builtin; refine wpList_append_own _ rfl _ _ 25 rfl B 30 i0 (.agg #[.int .u64 0, .int .u64 0]) 2 16 Try.underlying25 hi hz0 hz1 hz2 rfl (by decide) _ _ _ rfl (hown.alloc _) ⟨wr.heap.size, 0, none⟩ 1 1 [.int .u64 a, .int .u64 v] rfl rfl ?p1 ?p2 ?p3 ?p4 ?p5 ?_)
            try case p1 => intro j u hj; exact new2c hj
            case p2 => first | exact one2 | exact ⟨rfl, rfl⟩
            case p3 => unfold maxLen; (try simp at hol); omega
            case p4 => (try simp at hol); omega
            case p5 => first | (simp; omega) | omega
            intro vp wp hownp hgrow _
            have hnxp := app_below hown hnx hBl hgrow
            have hszp := hnxp.size
            clear hgrow
            have hownp' : wp.ownsRow B 30 2 vp (o ++ [(a, v)]).length (flat2 (o ++ [(a, v)])) := by rw [flat2_snoc, List.length_append]; exact hownp
            have hcp : wp.cell? ⟨r, 0, none⟩ = some (.slice (some ⟨g, 0, none⟩) L.length cap) := (hnxp.cell (p := ⟨r, 0, none⟩) hrB).trans hc
            have xp0 : wp.cell? ⟨g, k * 2, none⟩ = some (.int .u64 z0) := ((hnxp.cell (p := ⟨g, k * 2, none⟩) hgB).trans (hnx.cell (p := ⟨g, k * 2, none⟩) hgB).symm).trans x0
            have xp1 : wp.cell? ⟨g, k * 2 + 1, none⟩ = some (.int .u64 z1) := ((hnxp.cell (p := ⟨g, k * 2 + 1, none⟩) hgB).trans (hnx.cell (p := ⟨g, k * 2 + 1, none⟩) hgB).symm).trans x1
            clear hownp hown hnx x0 x1 hcr hsz
            have hol2 : (o ++ [(a, v)]).length ≤ k + 1 := by simp at hol ⊢; omega

            go_wp2_with (at_builtin; refine wpList_append_own _ rfl _ _ 25 rfl B 30 i0 (.agg #[.int .u64 0, .int .u64 0]) 2 16 Try.underlying25 hi hz0 hz1 hz2 rfl (by decide) _ _ _ rfl (hownp'.alloc _) ⟨wp.heap.size, 0, none⟩ 1 1 [.int .u64 z0, .int .u64 z1] rfl rfl ?k1 ?k2 ?k3 ?k4 ?k5 ?_)
            try case k1 => intro j u hj; exact new2c hj
            case k2 => first | exact one2 | exact ⟨rfl, rfl⟩
            case k3 => unfold maxLen; (try simp at hol); omega
            case k4 => (try simp at hol); omega
            case k5 => first | (simp; omega) | omega
            intro vk wk hownk hgrow _
            have hnxk := app_below hownp' hnxp hBl hgrow
            have hszk := hnxk.size
            clear hgrow
            have hownk' : wk.ownsRow B 30 2 vk (o ++ [(a, v)] ++ [(z0, z1)]).length (flat2 (o ++ [(a, v)] ++ [(z0, z1)])) := by first | (rw [flat2_snoc, List.length_append]; exact hownk) | (rw [show (o ++ [(a, v)] ++ [(z0, z1)]).length = o.length + 1 + 1 by simp, flat2_snoc]; exact hownk)
            go_wp2_with fail
            go_roundw
            case rel => exact ⟨o ++ [(a, v)] ++ [(z0, z1)], true, k + 1, by omega, by go_num, rfl, hownk', hnxk, by (try simp); (try simp at hol); omega, by show _ = _; rw [← HG.out]; simp⟩
            case measure => simp [intOf]; omega
          · have n2 : decide (a ≤ z0) = false := decide_eq_false hle
            rw [if_neg (fun e => hle e.2), if_neg hza] at hG
            have HG := Lib.hid (hG ▸ hP.out)
            clear hG hP
            go_wp2_with (at_builtin; refine wpList_append_own _ rfl _ _ 25 rfl B 30 i0 (.agg #[.int .u64 0, .int .u64 0]) 2 16 Try.underlying25 hi hz0 hz1 hz2 rfl (by decide) _ _ _ rfl (hown.alloc _) ⟨wr.heap.size, 0, none⟩ 1 1 [.int .u64 z0, .int .u64 z1] rfl rfl ?k1 ?k2 ?k3 ?k4 ?k5 ?_)
            try case k1 => intro j u hj; exact new2c hj
            case k2 => first | exact one2 | exact ⟨rfl, rfl⟩
            case k3 => unfold maxLen; (try simp at hol); omega
            case k4 => (try simp at hol); omega
            case k5 => first | (simp; omega) | omega
            intro vk wk hownk hgrow _
            have hnxk := app_below hown hnx hBl hgrow
            have hszk := hnxk.size
            clear hgrow
            have hownk' : wk.ownsRow B 30 2 vk (o ++ [(z0, z1)]).length (flat2 (o ++ [(z0, z1)])) := by first | (rw [flat2_snoc, List.length_append]; exact hownk) | (rw [show (o ++ [(z0, z1)]).length = o.length + 1 + 1 by simp, flat2_snoc]; exact hownk)
            go_wp2_with fail
            go_roundw
            case rel => exact ⟨o ++ [(z0, z1)], false, k + 1, by omega, by go_num, rfl, hownk', hnxk, by (try simp); (try simp at hol); omega, by show _ = _; rw [← HG.out]; simp⟩
            case measure => simp [intOf]; omega
    · obtain rfl : k = L.length := by omega
      have hlt' : decide ((L.length : Int) < (L.length : Int)) = false := decide_eq_false (by omega)
      have hP2 := hP.out
      rw [List.drop_length] at hP2
      have hfr : ∀ W, Below B w W → W.frozen? ⟨r, 0, none⟩ = false := fun W hb => (hb.frozen (p := ⟨r, 0, none⟩) hrB).trans hfz
      cases d with
      | true =>
        have hf1 := hfr _ hnx
        have HE := Lib.hid (show o = putL L a v by simpa [goL] using hP2)
        clear hP hP2 hfr
        obtain ⟨ga', n', c', hq⟩ : ∃ ga' n' c', _ = Value.slice ga' n' c' := (Lst.of_own hown).2.elim (fun h => ⟨_, _, _, h.1⟩) (fun ⟨g, c, h, _⟩ => ⟨_, _, _, h⟩)
        subst hq
        go_wp2_with fail
        go_end0
        refine ⟨rfl, ?_⟩
        rw [← HE.out]
        exact rg_stored HH.out (by rw [← HB.out]; exact hnx) (RL.of_own hown (fun j h1 h2 => ⟨by rw [← HB.out]; exact h1, h2⟩))
      | false =>
        have HE := Lib.hid (show o ++ [(a, v)] = putL L a v by simpa [goL] using hP2)
        clear hP hP2
        go_wp2_with (at_builtin; refine wpList_append_own _ rfl _ _ 25 rfl B 30 i0 (.agg #[.int .u64 0, .int .u64 0]) 2 16 Try.underlying25 hi hz0 hz1 hz2 rfl (by decide) _ _ _ rfl (hown.alloc _) ⟨wr.heap.size, 0, none⟩ 1 1 [.int .u64 a, .int .u64 v] rfl rfl ?p1 ?p2 ?p3 ?p4 ?p5 ?_)
        try case p1 => intro j u hj; exact new2c hj
        case p2 => first | exact one2 | exact ⟨rfl, rfl⟩
        case p3 => unfold maxLen; (try simp at hol); omega
        case p4 => (try simp at hol); omega
        case p5 => first | (simp; omega) | omega
        intro vp wp hownp hgrow _
        have hnxp := app_below hown hnx hBl hgrow
        have hszp := hnxp.size
        clear hgrow
        have hownp' : wp.ownsRow B 30 2 vp (o ++ [(a, v)]).length (flat2 (o ++ [(a, v)])) := by rw [flat2_snoc, List.length_append]; exact hownp
        have hcp : wp.cell? ⟨r, 0, none⟩ = some (.slice ga L.length cap) := (hnxp.cell (p := ⟨r, 0, none⟩) hrB).trans hc
        have hf1 := hfr _ hnxp
        obtain ⟨ga', n', c', hq⟩ : ∃ ga' n' c', _ = Value.slice ga' n' c' := (Lst.of_own hownp').2.elim (fun h => ⟨_, _, _, h.1⟩) (fun ⟨g, c, h, _⟩ => ⟨_, _, _, h⟩)
        subst hq
        clear hownp hown hnx hcr hsz hfr
        go_wp2_with fail
        go_end0
        refine ⟨rfl, ?_⟩
        rw [← HE.out]
        exact rg_stored HH.out (by rw [← HB.out]; exact hnxp) (RL.of_own hownp' (fun j h1 h2 => ⟨by rw [← HB.out]; exact h1, h2⟩))
end Go.Proofs.Ytdlniopjkioamaa
