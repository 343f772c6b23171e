/- Maps as mathematics: records, what a call gives, what stands behind it. -/
import Derived.Test.YtmjklkcjinfmaaaDoorEpMath
import Derived.Test.YtmjklkcjinfmaaaDoorKyMath
import Derived.Test.YtmjklkcjinfmaaaDoorNmMath
import Derived.Lib.ItoaNum
namespace Go.Proofs.YtmjklkcjinfmaaaDoor
set_option linter.unusedVariables false

structure Itm where
  k : ByteArray
  v : ByteArray
  fl : Int
  id : Int
  dies : Int
  gen : Int
deriving DecidableEq
structure Cal where
  verb : Int
  key : ByteArray
  val : ByteArray
  fl : Int
  exp : Int
  id : Int
  by_ : Int
deriving DecidableEq
structure Ans where
  kind : Int
  num : Int
  item : Itm
deriving DecidableEq
structure Mst where
  L : List Itm
  e : Int
  i : Int
def Itm.none : Itm := ⟨⟨#[]⟩, ⟨#[]⟩, 0, 0, 0, 0⟩
def Ans.of (k : Int) : Ans := ⟨k, 0, Itm.none⟩
def Ans.none : Ans := Ans.of 0
/-- The record of a key. -/
def mlook (L : List Itm) (k : ByteArray) : Option Itm := L.find? fun x => decide (x.k = k)
/-- Without a key's record. -/
def wo (L : List Itm) (k : ByteArray) : List Itm := L.filter fun x => !decide (x.k = k)
def Uniq (L : List Itm) : Prop := L.Pairwise fun x y => x.k ≠ y.k
theorem look_key {L : List Itm} {k : ByteArray} {x : Itm} (h : mlook L k = some x) : x.k = k := by simpa using List.find?_some h
theorem look_mem {L : List Itm} {k : ByteArray} {x : Itm} (h : mlook L k = some x) : x ∈ L := List.mem_of_find?_eq_some h
theorem wo_keep {L : List Itm} {k : ByteArray} (h : mlook L k = .none) : wo L k = L := by
  unfold wo
  rw [List.filter_eq_self]
  intro a ha
  have := List.find?_eq_none.mp h a ha
  simpa using this
theorem look_wo (L : List Itm) (k : ByteArray) : mlook (wo L k) k = .none := by
  unfold mlook wo
  rw [List.find?_eq_none]
  intro x hx
  simp at hx
  simpa using hx.2
theorem look_wo_other {L : List Itm} {k j : ByteArray} (h : j ≠ k) : mlook (wo L k) j = mlook L j := by
  unfold mlook wo
  induction L with
  | nil => rfl
  | cons x L ih =>
    by_cases hx : x.k = k
    · have hj : x.k ≠ j := fun e => h (e ▸ hx)
      rw [List.filter_cons_of_neg (by simp [hx]), List.find?_cons_of_neg (by simpa using hj)]
      exact ih
    · rw [List.filter_cons_of_pos (by simp [hx])]
      by_cases hj : x.k = j
      · rw [List.find?_cons_of_pos (by simp [hj]), List.find?_cons_of_pos (by simp [hj])]
      · rw [List.find?_cons_of_neg (by simp [hj]), List.find?_cons_of_neg (by simp [hj])]
        exact ih
theorem look_app (L : List Itm) (x : Itm) (k : ByteArray) : mlook (L ++ [x]) k = match mlook L k with | some y => some y | .none => if x.k = k then some x else .none := by
  unfold mlook
  rw [List.find?_append]
  cases h : List.find? (fun x => decide (x.k = k)) L with
  | some y => simp
  | none => by_cases e : x.k = k <;> simp [e]
/-- A record put in. -/
def put (L : List Itm) (x : Itm) : List Itm := wo L x.k ++ [x]
theorem look_put (L : List Itm) (x : Itm) : mlook (put L x) x.k = some x := by
  unfold put
  rw [look_app, look_wo]
  simp
theorem look_put_other {L : List Itm} {x : Itm} {j : ByteArray} (h : j ≠ x.k) : mlook (put L x) j = mlook L j := by
  unfold put
  rw [look_app, look_wo_other h]
  cases mlook L j with
  | some y => rfl
  | none => simp [Ne.symm h]
theorem wo_uniq {L : List Itm} (h : Uniq L) (k : ByteArray) : Uniq (wo L k) := h.sublist List.filter_sublist
theorem put_uniq {L : List Itm} (h : Uniq L) (x : Itm) : Uniq (put L x) := by
  unfold put Uniq
  rw [List.pairwise_append]
  refine ⟨wo_uniq h _, by simp, fun a ha b hb => ?_⟩
  simp at hb
  subst hb
  simp [wo] at ha
  exact ha.2
theorem wo_len {L : List Itm} (h : Uniq L) (k : ByteArray) : (wo L k).length + (if (mlook L k).isSome then 1 else 0) = L.length := by
  induction L with
  | nil => rfl
  | cons x L ih =>
    have h1 : Uniq L := (List.pairwise_cons.mp h).2
    by_cases hx : x.k = k
    · have h2 : mlook L k = .none := by
        unfold mlook
        rw [List.find?_eq_none]
        intro y hy
        have := (List.pairwise_cons.mp h).1 y hy
        simp
        exact fun e => this (hx.trans e.symm)
      have e1 : wo (x :: L) k = wo L k := List.filter_cons_of_neg (by simp [hx])
      have e2 : mlook (x :: L) k = some x := List.find?_cons_of_pos (by simp [hx])
      rw [e1, e2, wo_keep h2]
      simp
    · have e1 : wo (x :: L) k = x :: wo L k := List.filter_cons_of_pos (by simp [hx])
      have e2 : mlook (x :: L) k = mlook L k := List.find?_cons_of_neg (by simp [hx])
      rw [e1, e2, List.length_cons, List.length_cons]
      have := ih h1
      omega
theorem wo_len_le (L : List Itm) (k : ByteArray) : (wo L k).length ≤ L.length := List.length_filter_le _ _
theorem put_len_le (L : List Itm) (x : Itm) : (put L x).length ≤ L.length + 1 := by
  have := wo_len_le L x.k
  unfold put
  rw [List.length_append]
  simp
  omega
theorem put_len {L : List Itm} (h : Uniq L) (x : Itm) : (put L x).length = if (mlook L x.k).isSome then L.length else L.length + 1 := by
  have := wo_len h x.k
  unfold put
  rw [List.length_append]
  simp at this ⊢
  split at this <;> simp_all

/-- May a key be? -/
def okB (k : ByteArray) : Bool := (lookF k.data.toList).1 == 0
def after (w t : Int) : Int :=
  if t ≤ 0 then w else
    if 0 < atf w ∧ atf w ≤ min (nowf w + t) 16777215 then putf (min (nowf w + t) 16777215) 0 (min (genf w + 1) 65535) else putf (min (nowf w + t) 16777215) (atf w) (genf w)
/-- May an epoch come? -/
def comes (E w : Int) : Bool := w == after E (nowf w - nowf E) || w == after E (nowf w - nowf E + 1)
def u64 (x : Int) : Int := IntKind.u64.wrap x
/-- The record that is stored. -/
def recM (S : Mst) (c : Cal) (w : Int) : Itm := ⟨c.key, c.val, c.fl, u64 (S.i + 1), diesf w c.exp, genf w⟩
/-- What a call gives. -/
structure Gv where
  a : Ans
  S : Mst
  refused : Bool
def Mst.stay (S : Mst) (w k : Int) : Gv := ⟨Ans.of k, ⟨S.L, w, S.i⟩, false⟩
def Mst.stores (S : Mst) (c : Cal) (w : Int) : Gv := ⟨⟨1, u64 (S.i + 1), Itm.none⟩, ⟨put S.L (recM S c w), w, u64 (S.i + 1)⟩, (mlook S.L c.key).isNone⟩
def aliveI (x : Itm) (w : Int) : Bool := alivef x.gen x.dies w
/-- What is there: a record that is alive. -/
def Mst.there (S : Mst) (c : Cal) (w : Int) : Option Itm := (mlook S.L c.key).filter fun x => aliveI x w
def textB (n : Int) : ByteArray := ⟨(Lib.decDigits n.natAbs).toArray⟩
def countM (verb n by_ : Int) : Int := if verb = 9 then incrF n by_ else decrF n by_
def Mst.count (S : Mst) (c : Cal) (w : Int) (x : Itm) : Gv :=
  if (parseF x.v.data.toList).2 then
    ⟨⟨8, countM c.verb (parseF x.v.data.toList).1 c.by_, Itm.none⟩, ⟨put S.L ⟨x.k, textB (countM c.verb (parseF x.v.data.toList).1 c.by_), x.fl, u64 (S.i + 1), x.dies, x.gen⟩, w, u64 (S.i + 1)⟩, false⟩
  else S.stay w 9
def Mst.verb (S : Mst) (c : Cal) (w : Int) : Option Gv :=
  if c.verb = 1 ∨ c.verb = 2 then some (match S.there c w with | some x => ⟨⟨11, 0, x⟩, ⟨S.L, w, S.i⟩, false⟩ | .none => S.stay w 12)
  else if c.verb = 3 then some (S.stores c w)
  else if c.verb = 4 then some (if (S.there c w).isSome then S.stay w 2 else S.stores c w)
  else if c.verb = 5 then some (if (S.there c w).isSome then S.stores c w else S.stay w 2)
  else if c.verb = 6 then some (match S.there c w with | some x => (if x.id = c.id then S.stores c w else S.stay w 3) | .none => S.stay w 4)
  else if c.verb = 7 then some (match S.there c w with | some x => ⟨Ans.of 6, ⟨wo S.L c.key, w, S.i⟩, false⟩ | .none => S.stay w 4)
  else if c.verb = 8 then some (match S.there c w with | some x => ⟨Ans.of 7, ⟨put S.L { x with dies := diesf w c.exp }, w, S.i⟩, false⟩ | .none => S.stay w 4)
  else if c.verb = 9 ∨ c.verb = 10 then some (match S.there c w with | some x => S.count c w x | .none => S.stay w 4)
  else if c.verb = 11 then some (if flushes w then ⟨Ans.of 10, ⟨S.L, flushf w c.exp, S.i⟩, false⟩ else S.stay w 5)
  else .none
def Mst.gives (S : Mst) (c : Cal) (w : Int) : Option Gv := if comes S.e w = true ∧ (c.verb = 11 ∨ okB c.key = true) then S.verb c w else .none
/-- Does an answer fit? And what is behind it? -/
def Mst.fits (S : Mst) (c : Cal) (w : Int) (a : Ans) : Bool × Mst :=
  match S.gives c w with
  | .none => (false, S)
  | some g => if a = g.a then (true, g.S) else if g.refused = true ∧ a = Ans.of 5 then (true, ⟨S.L, w, S.i⟩) else (false, S)
def Mst.drop (S : Mst) (x : Itm) : Bool × Mst := if mlook S.L x.k = some x then (true, ⟨wo S.L x.k, S.e, S.i⟩) else (false, S)
def Mst.new : Mst := ⟨[], 0, 0⟩
end Go.Proofs.YtmjklkcjinfmaaaDoor
