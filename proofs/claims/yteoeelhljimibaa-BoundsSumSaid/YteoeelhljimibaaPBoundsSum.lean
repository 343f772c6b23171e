/-
  'Rows.BoundsSumSaid': the law 'nestbox/nestboxlaw40.BoundsSum' returns true for every input, and leaves what was there as it was. No condition.
-/
import Derived.Test.YteoeelhljimibaaRows
import Derived.Test.YteoeelhljimibaaOpen
import Derived.Test.YteoeelhljimibaaWBoundsSum
import Derived.Carry
namespace Go.Proofs.Yteoeelhljimibaa.boundsSumDone
open Go.ChangeShapes Go.WideShapes Go.ChangeAt Go.RowKit
open Go.ChangeMaps (open_string shut_string)
set_option linter.unusedVariables false

theorem own : ownKnob Try.prog.godebug = none := by kernel_rfl
theorem laidOut : laidOutB Try.prog = true := by kernel_rfl

set_option maxRecDepth 100000 in
theorem lifted (os : Os) (started : os.Started) (H : Type) (enc : TypeId × Value → H) :
    ReturnsInHanded {} Try.checked os 3 .any (Rows.boundsSumSpec.pre6 enc Try.prog Try.f3 Rows.boundsSumRow.domain false) (Rows.boundsSumSpec.post enc Try.prog Try.f3 false true false false) := by
  refine returnsInHanded_of_change (C := Try.checked) own started (by kernel_rfl) Try.func3
    (ChangeSpec.witness6 (enc := enc) (C := Try.checked) false ⟨#[], #[.agg #[.int .i64 0, .int .i64 0, .int .i64 0, .int .i64 0, .int .i64 0], .int .u8 0, .slice none 0 0], []⟩ 8 (by kernel_rfl) (by kernel_rfl) (by kernel_rfl) (by kernel_rfl)) ?_
  intro W base args ds gs before hval0 hW hcnd _
  have hval : ∀ (j : Nat) t v, Try.f3.params[j]? = some t → args[j]? = some v → Value.okWide Try.prog W .any base t v := hval0
  have hW' := hW
  obtain ⟨p, q, hA0, hV, rfl, hfz, hnd⟩ := hW
  have hA : DataW.TrodAll enc Try.prog W 0 (fun _ => true) true Try.f3.params.toList args.toList ds p := hA0
  rw [Try.params3] at hA hval
  obtain ⟨v0, vs0, d0, ds0, p0, q0, hargs, rfl, rfl, h0, r0⟩ := trodAll_cons hA
  obtain ⟨v1, vs1, d1, ds1, p1, q1, rfl, rfl, rfl, h1, r1⟩ := trodAll_cons r0
  obtain ⟨v2, vs2, d2, ds2, p2, q2, rfl, rfl, rfl, h2, r2⟩ := trodAll_cons r1
  obtain ⟨rfl, rfl, rfl⟩ := trodAll_nil r2
  obtain rfl : args = #[v0, v1, v2] := by cases args; simp_all
  obtain ⟨rfl, rfl⟩ := trodVars_none hV
  have k0 := h0
  have lt0 : ∀ x ∈ p0, x.block < W.heap.size := by obtain ⟨m, hm⟩ := k0; exact DataW.trod_lt m _ _ _ hm
  have k1 := h1
  have lt1 : ∀ x ∈ p1, x.block < W.heap.size := by obtain ⟨m, hm⟩ := k1; exact DataW.trod_lt m _ _ _ hm
  have k2 := h2
  have lt2 : ∀ x ∈ p2, x.block < W.heap.size := by obtain ⟨m, hm⟩ := k2; exact DataW.trod_lt m _ _ _ hm
  obtain ⟨q0, rfl⟩ := okWide_agg (t := 23) rfl (hval 0 23 v0 rfl rfl)
  have e0 := open_list (n := 9) (ks := [.inl .i64, .inl .i64, .inl .i64, .inl .i64, .inl .i64]) (by kernel_rfl) h0
  obtain ⟨_, _, rfl, ⟨a0_0, rfl, w0_0⟩, e0_0⟩ := all2_cons e0
  obtain ⟨_, _, rfl, ⟨a0_1, rfl, w0_1⟩, e0_1⟩ := all2_cons e0_0
  obtain ⟨_, _, rfl, ⟨a0_2, rfl, w0_2⟩, e0_2⟩ := all2_cons e0_1
  obtain ⟨_, _, rfl, ⟨a0_3, rfl, w0_3⟩, e0_3⟩ := all2_cons e0_2
  obtain ⟨_, _, rfl, ⟨a0_4, rfl, w0_4⟩, e0_4⟩ := all2_cons e0_3
  obtain rfl := all2_nil e0_4
  obtain ⟨a1, rfl⟩ := okWide_int Try.underlying5 (hval 1 5 v1 rfl rfl)
  have e1 := open_leaf (n := 9) (k := .inl .u8) (by kernel_rfl) rfl h1
  obtain ⟨_, f1, w1⟩ := e1
  injection f1 with _ f1
  subst f1
  obtain ⟨a2, l2, c2, rfl⟩ := okWide_slice Try.underlying24 (hval 2 24 v2 rfl rfl)
  have e2 := open_leaf (n := 9) (k := .inr (.inr 24)) (by kernel_rfl) rfl h2
  obtain ⟨_, _, _, f2, w2⟩ := e2
  injection f2 with fa2 fb2 fc2
  subst fa2
  subst fb2
  subst fc2
  clear hA0 hval0
  refine (walk_BoundsSum a0_0 a0_1 a0_2 a0_3 a0_4 a1 a2 l2 c2 W w0_0 w0_1 w0_2 w0_3 w0_4 w1 w2).mono fun e W' ⟨he, bel⟩ => ?_
  subst he
  exact ⟨_, rfl, _, _, _, [], _, [], hW', trodAll_mk1 (shut_bool Try.underlying4 _), (trodAll_cons_mk (Below.trod laidOut (by kernel_rfl) (of_decide_eq_true (by kernel_rfl)) k0 bel lt0) (trodAll_cons_mk (Below.trod laidOut (by kernel_rfl) (of_decide_eq_true (by kernel_rfl)) k1 bel lt1) (trodAll_cons_mk (Below.trod laidOut (by kernel_rfl) (of_decide_eq_true (by kernel_rfl)) k2 bel lt2) trodAll_mk0))), rfl, bel.frame _, fun h => by cases h⟩

theorem over : Rows.boundsSumRow.holds Try.pinned (OpenSpec.ofChange Rows.boundsSumSpec) :=
  OpenClaim.holds_of_wide 3 Try.f3 rfl rfl rfl rfl rfl rfl rfl ⟨rfl, rfl, rfl, rfl, rfl⟩ rfl rfl rfl rfl rfl (by kernel_rfl) Try.func3 (by kernel_rfl)
    (of_decide_eq_true (by kernel_rfl)) (by unfold Func.isWrapper; first | (rw [if_pos (by decide +kernel)]; kernel_rfl) | (rw [if_neg (by decide +kernel)]; exact ⟨rfl, rfl⟩))
    (fun os started H enc _ => lifted os started H enc)

theorem proved : Rows.BoundsSumSaid := over
end Go.Proofs.Yteoeelhljimibaa.boundsSumDone
