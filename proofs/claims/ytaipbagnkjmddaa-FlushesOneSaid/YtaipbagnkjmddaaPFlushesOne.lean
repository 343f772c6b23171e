/-
  'Rows.FlushesOneSaid': the law 'nestbox/nestboxlaw27.FlushesOne' returns true for every input, and leaves what was there as it was. No condition.
-/
import Derived.Test.YtaipbagnkjmddaaRows
import Derived.Test.YtaipbagnkjmddaaOpen
import Derived.Test.YtaipbagnkjmddaaWFlushesOne
import Derived.Carry
namespace Go.Proofs.Ytaipbagnkjmddaa.flushesOneDone
open Go.ChangeShapes Go.WideShapes Go.ChangeAt Go.RowKit
open Go.ChangeMaps (open_string shut_string)
set_option linter.unusedVariables false

theorem own : ownKnob Try.prog.godebug = none := by kernel_rfl
theorem laidOut : laidOutB Try.prog = true := by kernel_rfl

set_option maxRecDepth 100000 in
theorem lifted (os : Os) (started : os.Started) (H : Type) (enc : TypeId × Value → H) :
    ReturnsInHanded {} Try.checked os 4 .any (Rows.flushesOneSpec.pre6 enc Try.prog Try.f4 Rows.flushesOneRow.domain false) (Rows.flushesOneSpec.post enc Try.prog Try.f4 false true false false) := by
  refine returnsInHanded_of_change (C := Try.checked) own started (by kernel_rfl) Try.func4
    (ChangeSpec.witness6 (enc := enc) (C := Try.checked) false ⟨#[], #[.int .u64 0, .int .i64 0, .agg #[.int .u8 0, .int .u8 0, .int .u8 0, .int .u8 0]], []⟩ 8 (by kernel_rfl) (by kernel_rfl) (by kernel_rfl) (by kernel_rfl)) ?_
  intro W base args ds gs before hval0 hW hcnd _
  have hval : ∀ (j : Nat) t v, Try.f4.params[j]? = some t → args[j]? = some v → Value.okWide Try.prog W .any base t v := hval0
  have hW' := hW
  obtain ⟨p, q, hA0, hV, rfl, hfz, hnd⟩ := hW
  have hA : DataW.TrodAll enc Try.prog W 0 (fun _ => true) true Try.f4.params.toList args.toList ds p := hA0
  rw [Try.params4] at hA hval
  obtain ⟨v0, vs0, d0, ds0, p0, q0, hargs, rfl, rfl, h0, r0⟩ := trodAll_cons hA
  obtain ⟨v1, vs1, d1, ds1, p1, q1, rfl, rfl, rfl, h1, r1⟩ := trodAll_cons r0
  obtain ⟨v2, vs2, d2, ds2, p2, q2, rfl, rfl, rfl, h2, r2⟩ := trodAll_cons r1
  obtain ⟨rfl, rfl, rfl⟩ := trodAll_nil r2
  obtain rfl : args = #[v0, v1, v2] := by cases args; simp_all
  obtain ⟨rfl, rfl⟩ := trodVars_none hV
  have k0 := h0
  have lt0 : ∀ x ∈ p0, x.block < W.heap.size := by obtain ⟨m, hm⟩ := k0; exact DataW.trod_lt m _ _ _ hm
  have k1 := h1
  have lt1 : ∀ x ∈ p1, x.block < W.heap.size := by obtain ⟨m, hm⟩ := k1; exact DataW.trod_lt m _ _ _ hm
  have k2 := h2
  have lt2 : ∀ x ∈ p2, x.block < W.heap.size := by obtain ⟨m, hm⟩ := k2; exact DataW.trod_lt m _ _ _ hm
  obtain ⟨a0, rfl⟩ := okWide_int Try.underlying27 (hval 0 27 v0 rfl rfl)
  have e0 := open_leaf (n := 9) (k := .inl .u64) (by kernel_rfl) rfl h0
  obtain ⟨_, f0, w0⟩ := e0
  injection f0 with _ f0
  subst f0
  obtain ⟨a1, rfl⟩ := okWide_int Try.underlying2 (hval 1 2 v1 rfl rfl)
  have e1 := open_leaf (n := 9) (k := .inl .i64) (by kernel_rfl) rfl h1
  obtain ⟨_, f1, w1⟩ := e1
  injection f1 with _ f1
  subst f1
  obtain ⟨q2, rfl⟩ := okWide_agg (t := 50) rfl (hval 2 50 v2 rfl rfl)
  have e2 := open_list (n := 9) (ks := [.inl .u8, .inl .u8, .inl .u8, .inl .u8]) (by kernel_rfl) h2
  obtain ⟨_, _, rfl, ⟨a2_0, rfl, w2_0⟩, e2_0⟩ := all2_cons e2
  obtain ⟨_, _, rfl, ⟨a2_1, rfl, w2_1⟩, e2_1⟩ := all2_cons e2_0
  obtain ⟨_, _, rfl, ⟨a2_2, rfl, w2_2⟩, e2_2⟩ := all2_cons e2_1
  obtain ⟨_, _, rfl, ⟨a2_3, rfl, w2_3⟩, e2_3⟩ := all2_cons e2_2
  obtain rfl := all2_nil e2_3
  clear hA0 hval0
  refine (walk_FlushesOne a0 a1 a2_0 a2_1 a2_2 a2_3 W w0 w1 w2_0 w2_1 w2_2 w2_3).mono fun e W' ⟨he, bel⟩ => ?_
  subst he
  exact ⟨_, rfl, _, _, _, [], _, [], hW', trodAll_mk1 (shut_bool Try.underlying4 _), (trodAll_cons_mk (Below.trod laidOut (by kernel_rfl) (of_decide_eq_true (by kernel_rfl)) k0 bel lt0) (trodAll_cons_mk (Below.trod laidOut (by kernel_rfl) (of_decide_eq_true (by kernel_rfl)) k1 bel lt1) (trodAll_cons_mk (Below.trod laidOut (by kernel_rfl) (of_decide_eq_true (by kernel_rfl)) k2 bel lt2) trodAll_mk0))), rfl, bel.frame _, fun h => by cases h⟩

theorem over : Rows.flushesOneRow.holds Try.pinned (OpenSpec.ofChange Rows.flushesOneSpec) :=
  OpenClaim.holds_of_wide 4 Try.f4 rfl rfl rfl rfl rfl rfl rfl ⟨rfl, rfl, rfl, rfl, rfl⟩ rfl rfl rfl rfl rfl (by kernel_rfl) Try.func4 (by kernel_rfl)
    (of_decide_eq_true (by kernel_rfl)) (by unfold Func.isWrapper; first | (rw [if_pos (by decide +kernel)]; kernel_rfl) | (rw [if_neg (by decide +kernel)]; exact ⟨rfl, rfl⟩))
    (fun os started H enc _ => lifted os started H enc)

theorem proved : Rows.FlushesOneSaid := over
end Go.Proofs.Ytaipbagnkjmddaa.flushesOneDone
