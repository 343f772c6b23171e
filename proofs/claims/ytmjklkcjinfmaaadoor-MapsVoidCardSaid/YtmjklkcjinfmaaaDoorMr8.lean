/- Maps: no map at all. -/
import Derived.Test.YtmjklkcjinfmaaaDoorGMt
namespace Go.Proofs.YtmjklkcjinfmaaaDoor
open Go.RowKit Go.Maps
set_option linter.unusedVariables false
set_option linter.unusedSimpArgs false
section
variable {c : Cal} {x : Int} {k : ByteArray} {d : Cld} {it : Itm} {w : World}
set_option maxHeartbeats 8000000 in
set_option maxRecDepth 100000 in
theorem nlGives : Calls Tryd.prog 12 #[.pointer none, .agg (calC c).toArray, .int .u64 x] w fun e w' => e = .returned (.tuple #[.agg (ansC Ans.none).toArray, .bool false]) ∧ Below w.heap.size w w' := by
  go_enter Tryd.func12, Tryd.ntmps12
  go_wp2_with (first
    | ((with_reducible refine at_wq ?_); refine wpList_box_bk rfl 35 (.tmp 1) rfl (calC c) rfl ?_; intro W1 q4 h1)
    | ((with_reducible refine at_wq ?_); refine wpList_alloc_bk rfl 40 (ansC Ans.none) alloc_an rfl ?_; intro W2 q6 h2)
    | ((with_reducible refine at_wq ?_); refine wpList_store_bk rfl 40 (.tmp 6) (.tmp 11) rfl q6 0 (ansC Ans.none) (ansC Ans.none) (ansC Ans.none) h2.bk (Nat.le_refl 8) rfl info_an (ansC_one _) rfl rfl ?_; intro W3 h3 k3))
  exact bodyPost_ret (results_two rfl _ h3 rfl rfl _ Tryd.underlying40 rfl info_an) rfl ⟨rfl, fr_set (fr_new h1.below h2.below) k3 (h2.at h1.below)⟩
set_option maxHeartbeats 8000000 in
set_option maxRecDepth 100000 in
theorem nlAt : Calls Tryd.prog 20 #[.pointer none, .string k] w fun e w' => e = .returned (.tuple #[itV Itm.none, .bool false]) ∧ Below w.heap.size w w' := by
  go_enter Tryd.func20, Tryd.ntmps20
  go_wp2_with (first
    | ((with_reducible refine at_wq ?_); refine wpList_alloc_bk rfl 38 (itC Itm.none) alloc_it rfl ?_; intro W2 q4 h2)
    | ((with_reducible refine at_wq ?_); refine wpList_store_bk rfl 38 (.tmp 4) (.tmp 10) rfl q4 0 (itC Itm.none) (itC Itm.none) (itC Itm.none) h2.bk (Nat.le_refl 6) rfl info_it (itC_one _) rfl rfl ?_; intro W3 h3 k3))
  exact bodyPost_ret (results_two rfl _ h3 rfl rfl _ Tryd.underlying38 rfl info_it) rfl ⟨rfl, fr_set h2.below k3 (by rw [h2.eq]; exact Nat.le_refl _)⟩
set_option maxHeartbeats 8000000 in
set_option maxRecDepth 100000 in
theorem nlFits : Calls Tryd.prog 17 #[.pointer none, .agg (cldC d).toArray] w fun e w' => e = .returned (.bool false) ∧ Below w.heap.size w w' := by
  go_enter Tryd.func17, Tryd.ntmps17
  go_wp2_with (((with_reducible refine at_wq ?_); refine wpList_box_bk rfl 42 (.tmp 1) rfl (cldC d) rfl ?_; intro W1 q3 h1))
  go_ret
  exact ⟨rfl, h1.below⟩
set_option maxHeartbeats 8000000 in
set_option maxRecDepth 100000 in
theorem nlDrop : Calls Tryd.prog 15 #[.pointer none, .agg (itC it).toArray] w fun e w' => e = .returned (.bool false) ∧ Below w.heap.size w w' := by
  go_enter Tryd.func15, Tryd.ntmps15
  go_wp2_with (first
    | ((with_reducible refine at_wq ?_); refine wpList_box_bk rfl 38 (.tmp 1) rfl (itC it) rfl ?_; intro W1 q1 h1; have c0 := h1.bk.at_ 0 _ rfl)
    | (go_at_call 20; refine (nlAt (k := it.k)).mono ?_; rintro e W2 ⟨rfl, b2⟩)
    | ((with_reducible refine at_wq ?_); refine wpList_alloc_bk rfl 38 (itC Itm.none) alloc_it rfl ?_; intro W3 q3 h3)
    | ((with_reducible refine at_wq ?_); refine wpList_store_bk rfl 38 (.tmp 5) (.tmp 12) rfl q3 0 (itC Itm.none) (itC Itm.none) (itC Itm.none) h3.bk (Nat.le_refl 6) rfl info_it (itC_one _) rfl rfl ?_; intro W4 h4 k4))
  go_ret
  have e0 := fr_new h1.below b2
  exact ⟨rfl, fr_set (fr_new e0 h3.below) k4 (h3.at e0)⟩
set_option maxHeartbeats 8000000 in
set_option maxRecDepth 100000 in
theorem nlCount : Calls Tryd.prog 22 #[.pointer none] w fun e w' => e = .returned (.int .i64 0) ∧ w = w' := by
  go_enter Tryd.func22, Tryd.ntmps22
  go_wp2_with fail
  go_ret
  exact ⟨rfl, rfl⟩
set_option maxHeartbeats 8000000 in
set_option maxRecDepth 100000 in
theorem nlEpoch : Calls Tryd.prog 23 #[.pointer none] w fun e w' => e = .returned (.int .u64 0) ∧ w = w' := by
  go_enter Tryd.func23, Tryd.ntmps23
  go_wp2_with fail
  go_ret
  exact ⟨rfl, rfl⟩
set_option maxHeartbeats 8000000 in
set_option maxRecDepth 100000 in
theorem nlIds : Calls Tryd.prog 24 #[.pointer none] w fun e w' => e = .returned (.int .u64 0) ∧ w = w' := by
  go_enter Tryd.func24, Tryd.ntmps24
  go_wp2_with fail
  go_ret
  exact ⟨rfl, rfl⟩
end
theorem rd_ac (V : World) (d : Cld) (it : Itm) (T : TypeId) : RdA (V.alloc (.cells #[.int .u8 0, .int .i64 d.th, .int .u8 d.c.verb, .string d.c.key, .string d.c.val, .int .u32 d.c.fl, .int .i64 d.c.exp, .int .u64 d.c.id, .int .u64 d.c.by_, .int .i64 d.fr, .int .i64 d.to, .int .u8 d.a.kind, .int .u64 d.a.num, .string d.a.item.k, .string d.a.item.v, .int .u32 d.a.item.fl, .int .u64 d.a.item.id, .int .i64 d.a.item.dies, .int .i64 d.a.item.gen, .int .u64 d.e, .int .i64 d.pt, .string it.k, .string it.v, .int .u32 it.fl, .int .u64 it.id, .int .i64 it.dies, .int .i64 it.gen] T)) (some ⟨V.heap.size, 0, none⟩) [⟨0, d, it⟩] :=
  .inr ⟨_, _, rfl, by simp, fun i x hi j v hj => by
    have hb := bk_new (W := V) (C := #[.int .u8 0, .int .i64 d.th, .int .u8 d.c.verb, .string d.c.key, .string d.c.val, .int .u32 d.c.fl, .int .i64 d.c.exp, .int .u64 d.c.id, .int .u64 d.c.by_, .int .i64 d.fr, .int .i64 d.to, .int .u8 d.a.kind, .int .u64 d.a.num, .string d.a.item.k, .string d.a.item.v, .int .u32 d.a.item.fl, .int .u64 d.a.item.id, .int .i64 d.a.item.dies, .int .i64 d.a.item.gen, .int .u64 d.e, .int .i64 d.pt, .string it.k, .string it.v, .int .u32 it.fl, .int .u64 it.id, .int .i64 it.dies, .int .i64 it.gen]) (T := T) rfl
    match i, hi with
    | 0, hi =>
      simp at hi
      subst hi
      have := hb.at_ j v hj
      simpa using this
    | i + 1, hi => simp at hi⟩
theorem exec_binv {P : Program} {ρ : Operand → Value} {op : Oper} {k : BinOp} {t u : TypeId} {a b : Operand} {va vb r : Value} {w : World} (ho : op.op = .binOp k t a b u) (ha : ρ a = va) (hb : ρ b = vb) (hg : (eqGuard k t a b va vb).run P w = .ok () w) (hr : (binOp k t va vb).run P w = .ok r w) : (execOp ρ op).run P w = .ok (.value r) w := by
  unfold execOp
  rw [ho]
  simp only [ha, hb]
  simp only [Sem.run_bind, hg, hr, Sem.run_pure, Result.andThen_ok]
theorem at_wqg {P : Program} {ops : Array Oper} {rest : List Oper} {d : Option Tmp} {o : Op} {ty : TypeId} {ps : String} {af : Array Edge} {g : Nat × Bool} {a : Act} {w : World} {Q : Exit → Act → World → Prop} (h : wpList P ops Q (⟨d, o, ty, ps, af, some g⟩ :: rest) a w) : wpList P ops Q (⟨d, o, ty, ps, af, some g⟩ :: rest) a w := h
/-- A struct's read behind a guard that lets it. -/
theorem wpList_load_gd {P : Program} {ops : Array Oper} {rest : List Oper} {op : Oper} {a : Act} {w : World} {Q : Exit → Act → World → Prop} (hw : Region.wanted op (yielded ops a.tmps) = true) (ty : TypeId) (x : Operand) (ho : op.op = .load ty x)
    (q : Nat) (C : List Value) (h : Bk w q C) (d : TypeDesc) (hu : P.underlying ty = some d) (hd : d.isRow = true) (hi : (P.info? ty).map (·.size) = some C.length) (hx : a.eval x = .pointer (some ⟨q, 0, none⟩))
    (hK : wpList P ops Q rest (a.put op.dst (.agg C.toArray)) w) : wpList P ops Q (op :: rest) a w :=
  wpList_step fun K hK' => by
    simp only [hw, if_true]
    exact wp_load_mid ty x ho q 0 hx C d (h.range 0 C (by simp)) hu hd hi (hK' _ _ hK)
theorem info_mm : (Tryd.prog.info? 57).map (·.size) = some 3 := by kernel_rfl
set_option maxRecDepth 100000 in
theorem alloc_mm (w : World) : (Instr.alloc 57 true (.tuple #[])).run Tryd.prog w = .ok (.pointer (some ⟨w.heap.size, 0, none⟩)) (w.alloc (.cells (mapC none Mst.new).toArray 57)) := by kernel_rfl
end Go.Proofs.YtmjklkcjinfmaaaDoor
