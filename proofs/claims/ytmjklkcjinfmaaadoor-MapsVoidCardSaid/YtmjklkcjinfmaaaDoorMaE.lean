/- Maps: records and answers that are held against each other; what the program's own gives comes to. -/
import Derived.Test.YtmjklkcjinfmaaaDoorMaT
namespace Go.Proofs.YtmjklkcjinfmaaaDoor
open Go.RowKit Go.Maps
set_option linter.unusedVariables false
theorem bytes_inj (a b : ByteArray) : a.toList = b.toList ↔ a = b := by
  constructor
  · intro h
    have e : a.data.toList = b.data.toList := by simpa [ByteArray.toList_eq] using h
    cases a; cases b; simp at e; simp [e]
  · rintro rfl; rfl
theorem it_eql (x y : Itm) (W : World) : (binOp .eql 38 (itV x) (itV y)).run Tryd.prog W = .ok (.bool (decide (x = y))) W := by
  obtain ⟨k, v, fl, id, di, ge⟩ := x
  obtain ⟨k', v', fl', id', di', ge'⟩ := y
  unfold itV
  simp [go_sem, bytes_inj]
  by_cases h1 : k = k'
  · by_cases h2 : v = v'
    · by_cases h3 : fl = fl'
      · by_cases h4 : id = id'
        · by_cases h5 : di = di'
          · by_cases h6 : ge = ge'
            · simp [h1, h2, h3, h4, h5, h6]
            · simp [h1, h2, h3, h4, h5, h6]
          · simp [h1, h2, h3, h4, h5]
        · simp [h1, h2, h3, h4]
      · simp [h1, h2, h3]
    · simp [h1, h2]
  · simp [h1]
theorem an_eql (x y : Ans) (W : World) : (binOp .eql 40 (.agg (ansC x).toArray) (.agg (ansC y).toArray)).run Tryd.prog W = .ok (.bool (decide (x = y))) W := by
  obtain ⟨c, n, k, v, fl, id, di, ge⟩ := x
  obtain ⟨c', n', k', v', fl', id', di', ge'⟩ := y
  unfold ansC
  simp [go_sem, bytes_inj]
  by_cases h0 : c = c'
  · by_cases h9 : n = n'
    · by_cases h1 : k = k'
      · by_cases h2 : v = v'
        · by_cases h3 : fl = fl'
          · by_cases h4 : id = id'
            · by_cases h5 : di = di'
              · by_cases h6 : ge = ge'
                · simp [h0, h9, h1, h2, h3, h4, h5, h6]
                · simp [h0, h9, h1, h2, h3, h4, h5, h6]
              · simp [h0, h9, h1, h2, h3, h4, h5]
            · simp [h0, h9, h1, h2, h3, h4]
          · simp [h0, h9, h1, h2, h3]
        · simp [h0, h9, h1, h2]
      · simp [h0, h9, h1]
    · simp [h0, h9]
  · simp [h0]
theorem it_neq (x y : Itm) (W : World) : (binOp .neq 38 (itV x) (itV y)).run Tryd.prog W = .ok (.bool (decide (¬ x = y))) W := by
  obtain ⟨k, v, fl, id, di, ge⟩ := x
  obtain ⟨k', v', fl', id', di', ge'⟩ := y
  unfold itV
  simp [go_sem, bytes_inj]
  by_cases h1 : k = k'
  · by_cases h2 : v = v'
    · by_cases h3 : fl = fl'
      · by_cases h4 : id = id'
        · by_cases h5 : di = di'
          · by_cases h6 : ge = ge'
            · simp [h1, h2, h3, h4, h5, h6]
            · simp [h1, h2, h3, h4, h5, h6]
          · simp [h1, h2, h3, h4, h5]
        · simp [h1, h2, h3, h4]
      · simp [h1, h2, h3]
    · simp [h1, h2]
  · simp [h1]
/-- Both have the same records. -/
def Lk (A B : List Itm) : Prop := A.length = B.length ∧ ∀ k, mlook A k = mlook B k
theorem lk_stay {L : List Itm} (hL : Uniq L) (k : ByteArray) : Lk (if (mlook L k).isSome then put L ((mlook L k).getD Itm.none) else wo L k) L := by
  cases e : mlook L k with
  | none => simp only [Option.isSome_none]; rw [if_neg (by decide), wo_keep e]; exact ⟨rfl, fun _ => rfl⟩
  | some y =>
    simp only [Option.isSome_some, if_true, Option.getD_some]
    have hk := look_key e
    refine ⟨by rw [put_len hL, hk, e]; simp, fun j => ?_⟩
    by_cases h : j = y.k
    · rw [h, look_put, hk, e]
    · exact look_put_other h
/-- What the program's own gives comes to the same as what the chapter's does. -/
structure Ln (S : Mst) (c : Cal) (g : Giv) (G : Gv) : Prop where
  a : g.a = G.a
  e : g.e = G.S.e
  i : g.i = G.S.i
  L : Lk (mtake S c.key g).L G.S.L
  r : G.refused = (g.st && !(mlook S.L c.key).isSome)
  k : g.is = true → g.r.k = c.key
theorem ln_stay {S : Mst} (hS : Uniq S.L) (c : Cal) (x : Int) (k : Int) : Ln S c ((askOf S c x).stay k) (S.stay x k) := by
  refine ⟨rfl, rfl, rfl, ?_, rfl, fun h => ?_⟩
  · exact lk_stay hS c.key
  · have h' : (mlook S.L c.key).isSome = true := h
    obtain ⟨y, hy⟩ := Option.isSome_iff_exists.mp h'
    show ((mlook S.L c.key).getD Itm.none).k = c.key
    rw [hy]
    exact look_key hy
theorem ln_store {S : Mst} (c : Cal) (x : Int) : Ln S c (askOf S c x).store (S.stores c x) := by
  refine ⟨rfl, rfl, rfl, ⟨rfl, fun _ => rfl⟩, ?_, fun _ => rfl⟩
  show (mlook S.L c.key).isNone = (true && !(mlook S.L c.key).isSome)
  cases mlook S.L c.key <;> rfl
theorem ln_unless {S : Mst} (hS : Uniq S.L) (c : Cal) (x : Int) (k : Int) : Ln S c ((askOf S c x).unless k) (if k = 0 then S.stores c x else S.stay x k) := by
  unfold Ask.unless
  by_cases h : k = 0
  · rw [if_pos h, if_pos h]; exact ln_store c x
  · rw [if_neg h, if_neg h]; exact ln_stay hS c x k
theorem there_some {S : Mst} {c : Cal} {x : Int} {y : Itm} (h : S.there c x = some y) : (askOf S c x).there = true ∧ (askOf S c x).was = y ∧ (askOf S c x).is = true ∧ mlook S.L c.key = some y := by
  obtain ⟨h1, h2⟩ := there_look h
  simp [askOf, h1, h2]
theorem there_none {S : Mst} {c : Cal} {x : Int} (h : S.there c x = none) : (askOf S c x).there = false := by
  unfold Mst.there at h
  unfold askOf
  cases e : mlook S.L c.key with
  | none => simp
  | some y =>
    rw [e] at h
    simp only [Option.isSome_some, Option.getD_some, Bool.true_and]
    cases ha : aliveI y x with
    | false => rfl
    | true => simp [Option.filter, ha] at h
theorem ln_needs {S : Mst} (hS : Uniq S.L) (c : Cal) (x : Int) (g : Giv) (G : Itm → Gv) (h : ∀ y, S.there c x = some y → Ln S c g (G y)) : Ln S c ((askOf S c x).needs g) (match S.there c x with | some y => G y | none => S.stay x 4) := by
  unfold Ask.needs
  cases e : S.there c x with
  | none => rw [there_none e, if_neg (by decide)]; exact ln_stay hS c x 4
  | some y => rw [(there_some e).1, if_pos rfl]; exact h y e
theorem link {S : Mst} (hS : Uniq S.L) (c : Cal) (x : Int) : (mgives S c x = none ∧ S.gives c x = none) ∨ ∃ g G, mgives S c x = some g ∧ S.gives c x = some G ∧ Ln S c g G := by
  unfold mgives Mst.gives
  by_cases h : comes S.e x = true ∧ (c.verb = 11 ∨ okB c.key = true)
  · rw [if_pos h, if_pos h]
    have hv : (askOf S c x).c.verb = c.verb := rfl
    unfold gvOf Mst.verb
    rw [hv]
    by_cases c1 : c.verb = 1 ∨ c.verb = 2
    · rw [if_pos c1, if_pos c1]
      refine .inr ⟨_, _, rfl, rfl, ?_⟩
      unfold Ask.get
      cases e : S.there c x with
      | none => rw [there_none e, if_neg (by decide)]; exact ln_stay hS c x 12
      | some y =>
        obtain ⟨t1, t2, t3, t4⟩ := there_some e
        rw [t1, if_pos rfl, t2, t3]
        refine ⟨rfl, rfl, rfl, ?_, rfl, fun _ => look_key t4⟩
        have := lk_stay hS c.key
        rw [t4] at this
        exact this
    rw [if_neg c1, if_neg c1]
    by_cases c2 : c.verb = 3
    · rw [if_pos c2, if_pos c2]
      exact .inr ⟨_, _, rfl, rfl, ln_store c x⟩
    rw [if_neg c2, if_neg c2]
    by_cases c3 : c.verb = 4
    · rw [if_pos c3, if_pos c3]
      refine .inr ⟨_, _, rfl, rfl, ?_⟩
      cases e : S.there c x with
      | none => rw [there_none e]; exact ln_store c x
      | some y => rw [(there_some e).1]; exact ln_stay hS c x 2
    rw [if_neg c3, if_neg c3]
    by_cases c4 : c.verb = 5
    · rw [if_pos c4, if_pos c4]
      refine .inr ⟨_, _, rfl, rfl, ?_⟩
      cases e : S.there c x with
      | none => rw [there_none e]; exact ln_stay hS c x 2
      | some y => rw [(there_some e).1]; exact ln_store c x
    rw [if_neg c4, if_neg c4]
    by_cases c5 : c.verb = 6
    · rw [if_pos c5, if_pos c5]
      refine .inr ⟨_, _, rfl, rfl, ?_⟩
      refine ln_needs hS c x _ _ fun y e => ?_
      rw [(there_some e).2.1]
      show Ln S c ((askOf S c x).unless (if y.id = c.id then 0 else 3)) _
      by_cases hi : y.id = c.id
      · rw [if_pos hi, if_pos hi]; exact ln_store c x
      · rw [if_neg hi, if_neg hi]; exact ln_stay hS c x 3
    rw [if_neg c5, if_neg c5]
    by_cases c6 : c.verb = 7
    · rw [if_pos c6, if_pos c6]
      refine .inr ⟨_, _, rfl, rfl, ?_⟩
      exact ln_needs hS c x _ (fun y => ⟨Ans.of 6, ⟨wo S.L c.key, x, S.i⟩, false⟩) fun y e => ⟨rfl, rfl, rfl, ⟨rfl, fun _ => rfl⟩, rfl, fun h => by cases h⟩
    rw [if_neg c6, if_neg c6]
    by_cases c7 : c.verb = 8
    · rw [if_pos c7, if_pos c7]
      refine .inr ⟨_, _, rfl, rfl, ?_⟩
      refine ln_needs hS c x _ (fun y => ⟨Ans.of 7, ⟨put S.L { y with dies := diesf x c.exp }, x, S.i⟩, false⟩) fun y e => ?_
      obtain ⟨t1, t2, t3, t4⟩ := there_some e
      unfold Ask.touch
      rw [t2, t3]
      exact ⟨rfl, rfl, rfl, ⟨rfl, fun _ => rfl⟩, rfl, fun _ => by show y.k = c.key; exact look_key t4⟩
    rw [if_neg c7, if_neg c7]
    by_cases c8 : c.verb = 9
    · rw [if_pos c8, if_pos (.inl c8)]
      refine .inr ⟨_, _, rfl, rfl, ?_⟩
      refine ln_needs hS c x _ (fun y => S.count c x y) fun y e => ?_
      obtain ⟨t1, t2, t3, t4⟩ := there_some e
      unfold Ask.count Mst.count Ask.cnt countM
      rw [t2, t3, if_pos c8]
      by_cases hp : (parseF y.v.data.toList).2 = true
      · rw [if_pos hp, if_pos hp]
        exact ⟨rfl, rfl, rfl, ⟨rfl, fun _ => rfl⟩, rfl, fun _ => by show y.k = c.key; exact look_key t4⟩
      · rw [if_neg hp, if_neg hp]; exact ln_stay hS c x 9
    rw [if_neg c8]
    by_cases c9 : c.verb = 10
    · rw [if_pos c9, if_pos (.inr c9)]
      refine .inr ⟨_, _, rfl, rfl, ?_⟩
      refine ln_needs hS c x _ (fun y => S.count c x y) fun y e => ?_
      obtain ⟨t1, t2, t3, t4⟩ := there_some e
      unfold Ask.count Mst.count Ask.cnt countM
      rw [t2, t3, if_neg c8]
      by_cases hp : (parseF y.v.data.toList).2 = true
      · rw [if_pos hp, if_pos hp]
        exact ⟨rfl, rfl, rfl, ⟨rfl, fun _ => rfl⟩, rfl, fun _ => by show y.k = c.key; exact look_key t4⟩
      · rw [if_neg hp, if_neg hp]; exact ln_stay hS c x 9
    rw [if_neg c9, if_neg (show ¬ (c.verb = 9 ∨ c.verb = 10) by omega)]
    by_cases ca : c.verb = 11
    · rw [if_pos ca, if_pos ca]
      refine .inr ⟨_, _, rfl, rfl, ?_⟩
      unfold Ask.flush
      show Ln S c (if flushes x = true then _ else _) _
      by_cases hf : flushes x = true
      · rw [if_pos hf, if_pos hf]
        refine ⟨rfl, rfl, rfl, lk_stay hS c.key, rfl, fun h => ?_⟩
        exact (ln_stay hS c x 10).k h
      · rw [if_neg hf, if_neg hf]; exact ln_stay hS c x 5
    rw [if_neg ca, if_neg ca]
    exact .inl ⟨rfl, rfl⟩
  · rw [if_neg h, if_neg h]
    exact .inl ⟨rfl, rfl⟩
end Go.Proofs.YtmjklkcjinfmaaaDoor
