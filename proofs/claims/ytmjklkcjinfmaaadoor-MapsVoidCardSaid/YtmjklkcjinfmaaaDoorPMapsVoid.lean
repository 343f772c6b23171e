/-
  'Rows.MapsVoidCardSaid': the law 'nestbox/nestboxlaw36.MapsVoid' returns true for every input, and leaves what was there as it was. No condition.
-/
import Derived.Test.YtmjklkcjinfmaaaDoorCards
import Derived.Test.YtmjklkcjinfmaaaDoorTie
import Derived.Test.YtmjklkcjinfmaaaDoorOpen
import Derived.Test.YtmjklkcjinfmaaaDoorWMapsVoid
import Derived.Carry
import Derived.Deep.DeepHandedRow
import Derived.Lib.LaidTab
namespace Go.Proofs.YtmjklkcjinfmaaaDoor.mapsVoidDone
open Go.ChangeShapes Go.WideShapes Go.ChangeAt Go.RowKit
open Go.ChangeMaps (open_string shut_string)
set_option linter.unusedVariables false

theorem own : ownKnob Tryd.prog.godebug = none := by kernel_rfl
theorem laidOut : laidOutB Tryd.prog = true := by kernel_rfl

theorem tabstrconv_uint64pow10 {W : World} (h : laidMetH Tryd.prog Rows.mapsVoidRow.laid W) : Lib.TabIs Tryd.prog W "internal/strconv.uint64pow10" .u64 Lib.pow10Tab :=
  Lib.tabIs_of_head (rest := []) (show Tryd.prog.globalNamed "internal/strconv.uint64pow10" = some 0 by kernel_rfl) (show (Tryd.prog.globals[0]?).map (·.type) = some 136 by kernel_rfl) Tryd.underlying136 Tryd.underlying29 (by kernel_rfl) (by kernel_rfl) (h.filter fun x => x.1 == "internal/strconv.uint64pow10")

/-- The cells of a table that is plain data. -/
def tabCells : DataW Unit → Array Value
  | .agg l => (l.flatMap fun d => match d with | .lit (.int k z) => [Value.int k z] | .agg l' => l'.map (fun d => match d with | .lit (.int k z) => Value.int k z | _ => Value.bool false) | _ => [Value.bool false]).toArray
  | _ => #[]
def lay (g : Nat) (d : DataW Unit) (h : Array Obj) : Array Obj := h.modify g fun
  | .cells _ t frozen => .cells (tabCells d) t frozen
  | o => o
/-- A world for the witness: the settled one, each listed table laid. -/
noncomputable def laidWorld (os : Os) : World :=
  { World.holding Tryd.prog os ⟨#[], #[], []⟩ with heap := lay 1 Rows.laid_math_bits_deBruijn32tab (lay 2 Rows.laid_math_bits_deBruijn64tab (lay 0 Rows.laid_internal_strconv_uint64pow10 ((World.holding Tryd.prog os ⟨#[], #[], []⟩).heap))) }
theorem laid_met (os : Os) : laidMet Tryd.prog Rows.mapsVoidRow.laid ((laidWorld os).forCall (fun _ _ => 0) ⟨#[], #[.agg #[.int .i64 0, .int .u8 0, .string ByteArray.empty, .string ByteArray.empty, .int .u32 0, .int .i64 0, .int .u64 0, .int .u64 0, .int .i64 0, .int .i64 0, .int .u8 0, .int .u64 0, .string ByteArray.empty, .string ByteArray.empty, .int .u32 0, .int .u64 0, .int .i64 0, .int .i64 0, .int .u64 0, .int .i64 0], .agg #[.string ByteArray.empty, .string ByteArray.empty, .int .u32 0, .int .u64 0, .int .i64 0, .int .i64 0]], []⟩).memory :=
  laidMet_of_run' 8 (by kernel_rfl) (by kernel_rfl)
theorem reads (os : Os) {H : Type} (enc : TypeId × Value → H) : ∃ places, DataW.whole enc Tryd.prog ((laidWorld os).forCall (fun _ _ => 0) ⟨#[], #[.agg #[.int .i64 0, .int .u8 0, .string ByteArray.empty, .string ByteArray.empty, .int .u32 0, .int .i64 0, .int .u64 0, .int .u64 0, .int .i64 0, .int .i64 0, .int .u8 0, .int .u64 0, .string ByteArray.empty, .string ByteArray.empty, .int .u32 0, .int .u64 0, .int .i64 0, .int .i64 0, .int .u64 0, .int .i64 0], .agg #[.string ByteArray.empty, .string ByteArray.empty, .int .u32 0, .int .u64 0, .int .i64 0, .int .i64 0]], []⟩).memory Tryd.f4.params.toList Rows.mapsVoidSpec.vars false #[.agg #[.int .i64 0, .int .u8 0, .string ByteArray.empty, .string ByteArray.empty, .int .u32 0, .int .i64 0, .int .u64 0, .int .u64 0, .int .i64 0, .int .i64 0, .int .u8 0, .int .u64 0, .string ByteArray.empty, .string ByteArray.empty, .int .u32 0, .int .u64 0, .int .i64 0, .int .i64 0, .int .u64 0, .int .i64 0], .agg #[.string ByteArray.empty, .string ByteArray.empty, .int .u32 0, .int .u64 0, .int .i64 0, .int .i64 0]].toList 8 = some ([.agg [.lit (.int .i64 0), .agg [.lit (.int .u8 0), .lit (.string []), .lit (.string []), .lit (.int .u32 0), .lit (.int .i64 0), .lit (.int .u64 0), .lit (.int .u64 0)], .lit (.int .i64 0), .lit (.int .i64 0), .agg [.lit (.int .u8 0), .lit (.int .u64 0), .agg [.lit (.string []), .lit (.string []), .lit (.int .u32 0), .lit (.int .u64 0), .lit (.int .i64 0), .lit (.int .i64 0)]], .lit (.int .u64 0), .lit (.int .i64 0)], .agg [.lit (.string []), .lit (.string []), .lit (.int .u32 0), .lit (.int .u64 0), .lit (.int .i64 0), .lit (.int .i64 0)]], [], places) :=
  ⟨[], by kernel_rfl⟩

set_option maxRecDepth 100000 in
theorem contract (H : Type) (enc : TypeId × Value → H) (W : World) (base : Nat) (args : Array Value) (ds gs : List (DataW H)) (before : List MemPlace)
    (hval0 : ∀ (j : Nat) t v, Tryd.f4.params[j]? = some t → args[j]? = some v → Value.okWide Tryd.prog W .any base t v)
    (hW : DataW.Whole enc Tryd.prog Tryd.f4.params.toList Rows.mapsVoidSpec.vars false W args.toList ds gs before) (hL : laidMetH Tryd.prog Rows.mapsVoidRow.laid W) :
    Calls Tryd.prog 4 args W fun e W' => ∃ v, e = .returned v ∧ Rows.mapsVoidSpec.post enc Tryd.prog Tryd.f4 false true false false W args v W' := by
  have hval : ∀ (j : Nat) t v, Tryd.f4.params[j]? = some t → args[j]? = some v → Value.okWide Tryd.prog W .any base t v := hval0
  have hW' := hW
  obtain ⟨p, q, hA0, hV, rfl, hfz, hnd⟩ := hW
  have hA : DataW.TrodAll enc Tryd.prog W 0 (fun _ => true) true Tryd.f4.params.toList args.toList ds p := hA0
  rw [Tryd.params4] at hA hval
  obtain ⟨v0, vs0, d0, ds0, p0, q0, hargs, rfl, rfl, h0, r0⟩ := trodAll_cons hA
  obtain ⟨v1, vs1, d1, ds1, p1, q1, rfl, rfl, rfl, h1, r1⟩ := trodAll_cons r0
  obtain ⟨rfl, rfl, rfl⟩ := trodAll_nil r1
  obtain rfl : args = #[v0, v1] := by cases args; simp_all
  obtain ⟨rfl, rfl⟩ := trodVars_none hV
  have k0 := h0
  have lt0 : ∀ x ∈ p0, x.block < W.heap.size := by obtain ⟨m, hm⟩ := k0; exact DataW.trod_lt m _ _ _ hm
  have k1 := h1
  have lt1 : ∀ x ∈ p1, x.block < W.heap.size := by obtain ⟨m, hm⟩ := k1; exact DataW.trod_lt m _ _ _ hm
  obtain ⟨q0, rfl⟩ := okWide_agg (t := 42) rfl (hval 0 42 v0 rfl rfl)
  have e0 := open_list (n := 9) (ks := [.inl .i64, .inl .u8, .inr (.inl true), .inr (.inl true), .inl .u32, .inl .i64, .inl .u64, .inl .u64, .inl .i64, .inl .i64, .inl .u8, .inl .u64, .inr (.inl true), .inr (.inl true), .inl .u32, .inl .u64, .inl .i64, .inl .i64, .inl .u64, .inl .i64]) (by kernel_rfl) h0
  obtain ⟨_, _, rfl, ⟨a0_0, rfl, w0_0⟩, e0_0⟩ := all2_cons e0
  obtain ⟨_, _, rfl, ⟨a0_1, rfl, w0_1⟩, e0_1⟩ := all2_cons e0_0
  obtain ⟨_, _, rfl, ⟨a0_2, rfl, w0_2⟩, e0_2⟩ := all2_cons e0_1
  obtain ⟨_, _, rfl, ⟨a0_3, rfl, w0_3⟩, e0_3⟩ := all2_cons e0_2
  obtain ⟨_, _, rfl, ⟨a0_4, rfl, w0_4⟩, e0_4⟩ := all2_cons e0_3
  obtain ⟨_, _, rfl, ⟨a0_5, rfl, w0_5⟩, e0_5⟩ := all2_cons e0_4
  obtain ⟨_, _, rfl, ⟨a0_6, rfl, w0_6⟩, e0_6⟩ := all2_cons e0_5
  obtain ⟨_, _, rfl, ⟨a0_7, rfl, w0_7⟩, e0_7⟩ := all2_cons e0_6
  obtain ⟨_, _, rfl, ⟨a0_8, rfl, w0_8⟩, e0_8⟩ := all2_cons e0_7
  obtain ⟨_, _, rfl, ⟨a0_9, rfl, w0_9⟩, e0_9⟩ := all2_cons e0_8
  obtain ⟨_, _, rfl, ⟨a0_10, rfl, w0_10⟩, e0_10⟩ := all2_cons e0_9
  obtain ⟨_, _, rfl, ⟨a0_11, rfl, w0_11⟩, e0_11⟩ := all2_cons e0_10
  obtain ⟨_, _, rfl, ⟨a0_12, rfl, w0_12⟩, e0_12⟩ := all2_cons e0_11
  obtain ⟨_, _, rfl, ⟨a0_13, rfl, w0_13⟩, e0_13⟩ := all2_cons e0_12
  obtain ⟨_, _, rfl, ⟨a0_14, rfl, w0_14⟩, e0_14⟩ := all2_cons e0_13
  obtain ⟨_, _, rfl, ⟨a0_15, rfl, w0_15⟩, e0_15⟩ := all2_cons e0_14
  obtain ⟨_, _, rfl, ⟨a0_16, rfl, w0_16⟩, e0_16⟩ := all2_cons e0_15
  obtain ⟨_, _, rfl, ⟨a0_17, rfl, w0_17⟩, e0_17⟩ := all2_cons e0_16
  obtain ⟨_, _, rfl, ⟨a0_18, rfl, w0_18⟩, e0_18⟩ := all2_cons e0_17
  obtain ⟨_, _, rfl, ⟨a0_19, rfl, w0_19⟩, e0_19⟩ := all2_cons e0_18
  obtain rfl := all2_nil e0_19
  obtain ⟨q1, rfl⟩ := okWide_agg (t := 38) rfl (hval 1 38 v1 rfl rfl)
  have e1 := open_list (n := 9) (ks := [.inr (.inl true), .inr (.inl true), .inl .u32, .inl .u64, .inl .i64, .inl .i64]) (by kernel_rfl) h1
  obtain ⟨_, _, rfl, ⟨a1_0, rfl, w1_0⟩, e1_0⟩ := all2_cons e1
  obtain ⟨_, _, rfl, ⟨a1_1, rfl, w1_1⟩, e1_1⟩ := all2_cons e1_0
  obtain ⟨_, _, rfl, ⟨a1_2, rfl, w1_2⟩, e1_2⟩ := all2_cons e1_1
  obtain ⟨_, _, rfl, ⟨a1_3, rfl, w1_3⟩, e1_3⟩ := all2_cons e1_2
  obtain ⟨_, _, rfl, ⟨a1_4, rfl, w1_4⟩, e1_4⟩ := all2_cons e1_3
  obtain ⟨_, _, rfl, ⟨a1_5, rfl, w1_5⟩, e1_5⟩ := all2_cons e1_4
  obtain rfl := all2_nil e1_5
  clear hA0 hval0
  refine (walk_MapsVoid a0_0 a0_1 a0_2 a0_3 a0_4 a0_5 a0_6 a0_7 a0_8 a0_9 a0_10 a0_11 a0_12 a0_13 a0_14 a0_15 a0_16 a0_17 a0_18 a0_19 a1_0 a1_1 a1_2 a1_3 a1_4 a1_5 W w0_0 w0_1 w0_2 w0_3 w0_4 w0_5 w0_6 w0_7 w0_8 w0_9 w0_10 w0_11 w0_12 w0_13 w0_14 w0_15 w0_16 w0_17 w0_18 w0_19 w1_0 w1_1 w1_2 w1_3 w1_4 w1_5 (tabstrconv_uint64pow10 hL)).mono fun e W' ⟨he, bel⟩ => ?_
  subst he
  exact ⟨_, rfl, _, _, _, [], _, [], hW', trodAll_mk1 (shut_bool Tryd.underlying4 _), (trodAll_cons_mk (Below.trod laidOut (by kernel_rfl) (of_decide_eq_true (by kernel_rfl)) k0 bel lt0) (trodAll_cons_mk (Below.trod laidOut (by kernel_rfl) (of_decide_eq_true (by kernel_rfl)) k1 bel lt1) trodAll_mk0)), rfl, bel.frame _, fun h => by cases h⟩


set_option maxRecDepth 100000 in
theorem lifted (os : Os) (started : os.Started) (H : Type) (enc : TypeId × Value → H) (F : Stop.Interp) :
    ReturnsInHanded {} Tryd.checked os 4 .any ((OpenSpec.ofChange Rows.mapsVoidSpec).preRow enc Tryd.prog Tryd.f4 Rows.mapsVoidRow.domain false Rows.mapsVoidRow.laid) (((OpenSpec.ofChange Rows.mapsVoidSpec).at F).post enc Tryd.prog Tryd.f4 false true false false) := by
  obtain ⟨places, hx⟩ := reads os enc
  refine returnsInHanded_of_row (C := Tryd.checked) (s := OpenSpec.ofChange Rows.mapsVoidSpec) own started (by kernel_rfl) Tryd.func4
    (witness_row_at (enc := enc) (C := Tryd.checked) false (laidWorld os) #[.agg #[.int .i64 0, .int .u8 0, .string ByteArray.empty, .string ByteArray.empty, .int .u32 0, .int .i64 0, .int .u64 0, .int .u64 0, .int .i64 0, .int .i64 0, .int .u8 0, .int .u64 0, .string ByteArray.empty, .string ByteArray.empty, .int .u32 0, .int .u64 0, .int .i64 0, .int .i64 0, .int .u64 0, .int .i64 0], .agg #[.string ByteArray.empty, .string ByteArray.empty, .int .u32 0, .int .u64 0, .int .i64 0, .int .i64 0]] rfl (by kernel_rfl) (by kernel_rfl) (by kernel_rfl)
      (OpenSpec.preRow_of_cond 8 hx (by kernel_rfl) (fun k hk => by cases hk) (by kernel_rfl) (laid_met os))) ?_
  intro W base args ds gs before hval hW _ _ _ hL _ _
  exact contract H enc W base args ds gs before hval hW hL

theorem over : Rows.mapsVoidRow.holds Tryd.pinned (OpenSpec.ofChange Rows.mapsVoidSpec) :=
  OpenClaim.holds_of_cond 4 Tryd.f4 rfl rfl rfl rfl rfl rfl rfl ⟨rfl, rfl, rfl, rfl, rfl⟩ rfl rfl rfl rfl rfl (by kernel_rfl) Tryd.func4 (by kernel_rfl)
    (of_decide_eq_true (by kernel_rfl)) (by unfold Func.isWrapper; first | (rw [if_pos (by decide +kernel)]; kernel_rfl) | (rw [if_neg (by decide +kernel)]; exact ⟨rfl, rfl⟩))
    (fun os started H enc _ F => by rw [OpenClaim.pre_eq_preRow]; exact lifted os started H enc F)

theorem plain (f : FuncId) (fn : Func) (hf : Tryd.pinned.checked.prog.funcNamed "nestbox/nestboxlaw36.MapsVoid" = some f) (hfn : Tryd.pinned.checked.prog.funcs[f]? = some fn) :
    false = Tryd.pinned.checked.prog.looks [] ∧ ∀ (j : Nat) t, fn.params[j]? = some t → Tryd.pinned.checked.prog.wantsStandIn t = false := by
  obtain rfl : f = 4 := Option.some.inj ((show Tryd.prog.funcNamed "nestbox/nestboxlaw36.MapsVoid" = some 4 by kernel_rfl).symm.trans hf) |>.symm
  obtain rfl : fn = Tryd.f4 := (Option.some.inj (Tryd.func4.symm.trans hfn)).symm
  refine ⟨by kernel_rfl, fun j t ht => ?_⟩
  have hall : (Tryd.f4.params.all fun t => !Tryd.prog.wantsStandIn t) = true := by kernel_rfl
  have hmem := Array.mem_of_getElem? ht
  have := Array.all_eq_true_iff_forall_mem.mp hall t hmem
  have e : Tryd.prog.wantsStandIn t = false := by simpa using this
  exact e

theorem proved : Rows.MapsVoidCardSaid :=
  Claim7.holds_tied_plain_at .later [] _ _ _ _ over (fun _ h => by cases h) (by kernel_rfl) (fun _ h => by cases h) mapsVoid_row_tie rfl ⟨rfl, rfl⟩ (by kernel_rfl) rfl plain (by kernel_rfl)
end Go.Proofs.YtmjklkcjinfmaaaDoor.mapsVoidDone
