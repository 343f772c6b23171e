/-
  'Rows.FlushesPlaySaid': the law 'nestbox/nestboxlaw27.FlushesPlay' returns true for every input, and leaves what was there as it was. No condition.
-/
import Derived.Test.YtaipbagnkjmddaaGreatRows
import Derived.Test.YtaipbagnkjmddaaGreatOpen
import Derived.Test.YtaipbagnkjmddaaGreatWFlushesPlay
import Derived.Carry
namespace Go.Proofs.YtaipbagnkjmddaaGreat.flushesPlayDone
open Go.ChangeShapes Go.WideShapes Go.ChangeAt Go.RowKit
open Go.ChangeMaps (open_string shut_string)
set_option linter.unusedVariables false

theorem own : ownKnob Tryz.prog.godebug = none := by kernel_rfl
theorem laidOut : laidOutB Tryz.prog = true := by kernel_rfl

set_option maxRecDepth 100000 in
theorem lifted (os : Os) (started : os.Started) (H : Type) (enc : TypeId × Value → H) :
    ReturnsInHanded {} Tryz.checked os 3 .any (Rows.flushesPlaySpec.pre6 enc Tryz.prog Tryz.f3 Rows.flushesPlayRow.domain false) (Rows.flushesPlaySpec.post enc Tryz.prog Tryz.f3 false true false false) := by
  refine returnsInHanded_of_change (C := Tryz.checked) own started (by kernel_rfl) Tryz.func3
    (ChangeSpec.witness6 (enc := enc) (C := Tryz.checked) false ⟨#[], #[.agg #[.int .i64 0, .int .i64 0, .int .i64 0, .int .i64 0, .int .i64 0, .bool false, .slice none 0 0, .slice none 0 0, .slice none 0 0, .int .i64 0], .slice none 0 0], []⟩ 8 (by kernel_rfl) (by kernel_rfl) (by kernel_rfl) (by kernel_rfl)) ?_
  intro W base args ds gs before hval0 hW hcnd _
  have hval : ∀ (j : Nat) t v, Tryz.f3.params[j]? = some t → args[j]? = some v → Value.okWide Tryz.prog W .any base t v := hval0
  have hW' := hW
  obtain ⟨p, q, hA0, hV, rfl, hfz, hnd⟩ := hW
  have hA : DataW.TrodAll enc Tryz.prog W 0 (fun _ => true) true Tryz.f3.params.toList args.toList ds p := hA0
  rw [Tryz.params3] at hA hval
  obtain ⟨v0, vs0, d0, ds0, p0, q0, hargs, rfl, rfl, h0, r0⟩ := trodAll_cons hA
  obtain ⟨v1, vs1, d1, ds1, p1, q1, rfl, rfl, rfl, h1, r1⟩ := trodAll_cons r0
  obtain ⟨rfl, rfl, rfl⟩ := trodAll_nil r1
  obtain rfl : args = #[v0, v1] := by cases args; simp_all
  obtain ⟨rfl, rfl⟩ := trodVars_none hV
  have k0 := h0
  have lt0 : ∀ x ∈ p0, x.block < W.heap.size := by obtain ⟨m, hm⟩ := k0; exact DataW.trod_lt m _ _ _ hm
  have k1 := h1
  have lt1 : ∀ x ∈ p1, x.block < W.heap.size := by obtain ⟨m, hm⟩ := k1; exact DataW.trod_lt m _ _ _ hm
  obtain ⟨q0, rfl⟩ := okWide_agg (t := 28) rfl (hval 0 28 v0 rfl rfl)
  have e0 := open_list (n := 9) (ks := [.inl .i64, .inl .i64, .inl .i64, .inl .i64, .inl .i64, .inr (.inl false), .inr (.inr 24), .inr (.inr 25), .inr (.inr 26), .inl .i64]) (by kernel_rfl) h0
  obtain ⟨_, _, rfl, ⟨a0_0, rfl, w0_0⟩, e0_0⟩ := all2_cons e0
  obtain ⟨_, _, rfl, ⟨a0_1, rfl, w0_1⟩, e0_1⟩ := all2_cons e0_0
  obtain ⟨_, _, rfl, ⟨a0_2, rfl, w0_2⟩, e0_2⟩ := all2_cons e0_1
  obtain ⟨_, _, rfl, ⟨a0_3, rfl, w0_3⟩, e0_3⟩ := all2_cons e0_2
  obtain ⟨_, _, rfl, ⟨a0_4, rfl, w0_4⟩, e0_4⟩ := all2_cons e0_3
  obtain ⟨_, _, rfl, ⟨a0_5, rfl⟩, e0_5⟩ := all2_cons e0_4
  obtain ⟨_, _, rfl, ⟨a0_6, l0_6, c0_6, rfl, w0_6⟩, e0_6⟩ := all2_cons e0_5
  obtain ⟨_, _, rfl, ⟨a0_7, l0_7, c0_7, rfl, w0_7⟩, e0_7⟩ := all2_cons e0_6
  obtain ⟨_, _, rfl, ⟨a0_8, l0_8, c0_8, rfl, w0_8⟩, e0_8⟩ := all2_cons e0_7
  obtain ⟨_, _, rfl, ⟨a0_9, rfl, w0_9⟩, e0_9⟩ := all2_cons e0_8
  obtain rfl := all2_nil e0_9
  obtain ⟨a1, l1, c1, rfl⟩ := okWide_slice Tryz.underlying29 (hval 1 29 v1 rfl rfl)
  have e1 := open_leaf (n := 9) (k := .inr (.inr 29)) (by kernel_rfl) rfl h1
  obtain ⟨_, _, _, f1, w1⟩ := e1
  injection f1 with fa1 fb1 fc1
  subst fa1
  subst fb1
  subst fc1
  clear hA0 hval0
  refine (walk_FlushesPlay a0_0 a0_1 a0_2 a0_3 a0_4 a0_5 a0_6 l0_6 c0_6 a0_7 l0_7 c0_7 a0_8 l0_8 c0_8 a0_9 a1 l1 c1 W w0_0 w0_1 w0_2 w0_3 w0_4 w0_6 w0_7 w0_8 w0_9 w1).mono fun e W' ⟨he, bel⟩ => ?_
  subst he
  exact ⟨_, rfl, _, _, _, [], _, [], hW', trodAll_mk1 (shut_bool Tryz.underlying4 _), (trodAll_cons_mk (Below.trod laidOut (by kernel_rfl) (of_decide_eq_true (by kernel_rfl)) k0 bel lt0) (trodAll_cons_mk (Below.trod laidOut (by kernel_rfl) (of_decide_eq_true (by kernel_rfl)) k1 bel lt1) trodAll_mk0)), rfl, bel.frame _, fun h => by cases h⟩

theorem over : Rows.flushesPlayRow.holds Tryz.pinned (OpenSpec.ofChange Rows.flushesPlaySpec) :=
  OpenClaim.holds_of_wide 3 Tryz.f3 rfl rfl rfl rfl rfl rfl rfl ⟨rfl, rfl, rfl, rfl, rfl⟩ rfl rfl rfl rfl rfl (by kernel_rfl) Tryz.func3 (by kernel_rfl)
    (of_decide_eq_true (by kernel_rfl)) (by unfold Func.isWrapper; first | (rw [if_pos (by decide +kernel)]; kernel_rfl) | (rw [if_neg (by decide +kernel)]; exact ⟨rfl, rfl⟩))
    (fun os started H enc _ => lifted os started H enc)

theorem proved : Rows.FlushesPlaySaid := over
end Go.Proofs.YtaipbagnkjmddaaGreat.flushesPlayDone
