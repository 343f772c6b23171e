/-
  'Rows.NotesNamesSaid': the law 'nestbox/nestboxlaw09.NotesNames' returns true for every input, and leaves what was there as it was. No condition.
-/
import Derived.Test.YteofbgbjibbdaacRows
import Derived.Test.YteofbgbjibbdaacOpen
import Derived.Test.YteofbgbjibbdaacWNotesNames
import Derived.Carry
namespace Go.Proofs.Yteofbgbjibbdaac.notesNamesDone
open Go.ChangeShapes Go.WideShapes Go.ChangeAt Go.RowKit
open Go.ChangeMaps (open_string shut_string)
set_option linter.unusedVariables false

theorem own : ownKnob Try.prog.godebug = none := by kernel_rfl
theorem laidOut : laidOutB Try.prog = true := by kernel_rfl

set_option maxRecDepth 100000 in
theorem lifted (os : Os) (started : os.Started) (H : Type) (enc : TypeId × Value → H) :
    ReturnsInHanded {} Try.checked os 13 .any (Rows.notesNamesSpec.pre6 enc Try.prog Try.f13 Rows.notesNamesRow.domain false) (Rows.notesNamesSpec.post enc Try.prog Try.f13 false true false false) := by
  refine returnsInHanded_of_change (C := Try.checked) own started (by kernel_rfl) Try.func13
    (ChangeSpec.witness6 (enc := enc) (C := Try.checked) false ⟨#[], #[.int .u8 0, .agg #[.int .i64 0, .int .i64 0, .int .u8 0, .int .i64 0, .int .i64 0, .int .i64 0, .int .i64 0, .int .i64 0], .int .i64 0], []⟩ 8 (by kernel_rfl) (by kernel_rfl) (by kernel_rfl) (by kernel_rfl)) ?_
  intro W base args ds gs before hval0 hW hcnd _
  have hval : ∀ (j : Nat) t v, Try.f13.params[j]? = some t → args[j]? = some v → Value.okWide Try.prog W .any base t v := hval0
  have hW' := hW
  obtain ⟨p, q, hA0, hV, rfl, hfz, hnd⟩ := hW
  have hA : DataW.TrodAll enc Try.prog W 0 (fun _ => true) true Try.f13.params.toList args.toList ds p := hA0
  rw [Try.params13] at hA hval
  obtain ⟨v0, vs0, d0, ds0, p0, q0, hargs, rfl, rfl, h0, r0⟩ := trodAll_cons hA
  obtain ⟨v1, vs1, d1, ds1, p1, q1, rfl, rfl, rfl, h1, r1⟩ := trodAll_cons r0
  obtain ⟨v2, vs2, d2, ds2, p2, q2, rfl, rfl, rfl, h2, r2⟩ := trodAll_cons r1
  obtain ⟨rfl, rfl, rfl⟩ := trodAll_nil r2
  obtain rfl : args = #[v0, v1, v2] := by cases args; simp_all
  obtain ⟨rfl, rfl⟩ := trodVars_none hV
  have k0 := h0
  have lt0 : ∀ x ∈ p0, x.block < W.heap.size := by obtain ⟨m, hm⟩ := k0; exact DataW.trod_lt m _ _ _ hm
  have k1 := h1
  have lt1 : ∀ x ∈ p1, x.block < W.heap.size := by obtain ⟨m, hm⟩ := k1; exact DataW.trod_lt m _ _ _ hm
  have k2 := h2
  have lt2 : ∀ x ∈ p2, x.block < W.heap.size := by obtain ⟨m, hm⟩ := k2; exact DataW.trod_lt m _ _ _ hm
  obtain ⟨a0, rfl⟩ := okWide_int Try.underlying5 (hval 0 5 v0 rfl rfl)
  have e0 := open_leaf (n := 9) (k := .inl .u8) (by kernel_rfl) rfl h0
  obtain ⟨_, f0, w0⟩ := e0
  injection f0 with _ f0
  subst f0
  obtain ⟨q1, rfl⟩ := okWide_agg (t := 80) rfl (hval 1 80 v1 rfl rfl)
  have e1 := open_list (n := 9) (ks := [.inl .i64, .inl .i64, .inl .u8, .inl .i64, .inl .i64, .inl .i64, .inl .i64, .inl .i64]) (by kernel_rfl) h1
  obtain ⟨_, _, rfl, ⟨a1_0, rfl, w1_0⟩, e1_0⟩ := all2_cons e1
  obtain ⟨_, _, rfl, ⟨a1_1, rfl, w1_1⟩, e1_1⟩ := all2_cons e1_0
  obtain ⟨_, _, rfl, ⟨a1_2, rfl, w1_2⟩, e1_2⟩ := all2_cons e1_1
  obtain ⟨_, _, rfl, ⟨a1_3, rfl, w1_3⟩, e1_3⟩ := all2_cons e1_2
  obtain ⟨_, _, rfl, ⟨a1_4, rfl, w1_4⟩, e1_4⟩ := all2_cons e1_3
  obtain ⟨_, _, rfl, ⟨a1_5, rfl, w1_5⟩, e1_5⟩ := all2_cons e1_4
  obtain ⟨_, _, rfl, ⟨a1_6, rfl, w1_6⟩, e1_6⟩ := all2_cons e1_5
  obtain ⟨_, _, rfl, ⟨a1_7, rfl, w1_7⟩, e1_7⟩ := all2_cons e1_6
  obtain rfl := all2_nil e1_7
  obtain ⟨a2, rfl⟩ := okWide_int Try.underlying3 (hval 2 3 v2 rfl rfl)
  have e2 := open_leaf (n := 9) (k := .inl .i64) (by kernel_rfl) rfl h2
  obtain ⟨_, f2, w2⟩ := e2
  injection f2 with _ f2
  subst f2
  clear hA0 hval0
  refine (walk_NotesNames a0 a1_0 a1_1 a1_2 a1_3 a1_4 a1_5 a1_6 a1_7 a2 W w0 w1_0 w1_1 w1_2 w1_3 w1_4 w1_5 w1_6 w1_7 w2).mono fun e W' ⟨he, bel⟩ => ?_
  subst he
  exact ⟨_, rfl, _, _, _, [], _, [], hW', trodAll_mk1 (shut_bool Try.underlying4 _), (trodAll_cons_mk (Below.trod laidOut (by kernel_rfl) (of_decide_eq_true (by kernel_rfl)) k0 bel lt0) (trodAll_cons_mk (Below.trod laidOut (by kernel_rfl) (of_decide_eq_true (by kernel_rfl)) k1 bel lt1) (trodAll_cons_mk (Below.trod laidOut (by kernel_rfl) (of_decide_eq_true (by kernel_rfl)) k2 bel lt2) trodAll_mk0))), rfl, bel.frame _, fun h => by cases h⟩

theorem over : Rows.notesNamesRow.holds Try.pinned (OpenSpec.ofChange Rows.notesNamesSpec) :=
  OpenClaim.holds_of_wide 13 Try.f13 rfl rfl rfl rfl rfl rfl rfl ⟨rfl, rfl, rfl, rfl, rfl⟩ rfl rfl rfl rfl rfl (by kernel_rfl) Try.func13 (by kernel_rfl)
    (of_decide_eq_true (by kernel_rfl)) (by unfold Func.isWrapper; first | (rw [if_pos (by decide +kernel)]; kernel_rfl) | (rw [if_neg (by decide +kernel)]; exact ⟨rfl, rfl⟩))
    (fun os started H enc _ => lifted os started H enc)

theorem proved : Rows.NotesNamesSaid := over
end Go.Proofs.Yteofbgbjibbdaac.notesNamesDone
