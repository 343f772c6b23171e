/- Maps: what a call would give. -/
import Derived.Test.YtmjklkcjinfmaaaDoorMa8
namespace Go.Proofs.YtmjklkcjinfmaaaDoor
open Go.RowKit Go.Maps
set_option linter.unusedVariables false
def askOf (S : Mst) (c : Cal) (x : Int) : Ask := ⟨c, x, (mlook S.L c.key).getD Itm.none, (mlook S.L c.key).isSome, (mlook S.L c.key).isSome && aliveI ((mlook S.L c.key).getD Itm.none) x, S.i⟩
def mgives (S : Mst) (c : Cal) (x : Int) : Option Giv := if comes S.e x = true ∧ (c.verb = 11 ∨ okB c.key = true) then gvOf (askOf S c x) else .none
/-- What the program's own gives hands back. -/
def GivP (w : World) (o : Option Giv) (e : Ending) (w' : World) : Prop := e = .returned (.tuple #[.agg (givC (o.getD Giv.none)).toArray, .bool o.isSome]) ∧ Below w.heap.size w w'
theorem exec_lookup {P : Program} {ρ : Operand → Value} {op : Oper} {t : TypeId} {m k : Operand} {vm vk u : Value} {w : World} (ho : op.op = .lookup t m k true) (hm : ρ m = vm) (hk : ρ k = vk) (hr : (Instr.lookup t vm vk true).run P w = .ok u w) : (execOp ρ op).run P w = .ok (.value u) w := by
  unfold execOp
  simp only [ho, hm, hk, Sem.run_bind, hr, Sem.run_pure, Result.andThen_ok]
theorem exec_index {P : Program} {ρ : Operand → Value} {op : Oper} {t : TypeId} {m k : Operand} {vm vk u : Value} {w : World} (ho : op.op = .index t m k) (hm : ρ m = vm) (hk : ρ k = vk) (hr : (Instr.index t vm vk).run P w = .ok u w) : (execOp ρ op).run P w = .ok (.value u) w := by
  unfold execOp
  simp only [ho, hm, hk, Sem.run_bind, hr, Sem.run_pure, Result.andThen_ok]
theorem step_alloc_bk {P : Program} {ops : Array Oper} {op : Oper} {a : Act} {w : World} {K : Act → World → Prop} {Q : Exit → Act → World → Prop} {E : Prop} (hgd : op.guard = none) (ty : TypeId) (C : List Value) (hr : ∀ w : World, (Instr.alloc ty true (.tuple #[])).run P w = .ok (.pointer (some ⟨w.heap.size, 0, none⟩)) (w.alloc (.cells C.toArray ty))) (ho : op.op = .alloc ty)
    (hK : ∀ W g, Nb w W g C → K (a.put op.dst (.pointer (some ⟨g, 0, none⟩))) W) : if Region.wanted op (yielded ops a.tmps) = true then Oper.wp P op a w K Q else E := by
  refine step_of hgd ?_
  unfold Oper.wp execOp
  simp only [ho, Sem.run_bind, hr, Sem.run_pure, Result.andThen_ok]
  exact hK _ _ ⟨bk_new (by simp), rfl, by simp, (Below.refl _ _).alloc (Nat.le_refl _) _⟩
theorem step_giv {ops : Array Oper} {op : Oper} {a : Act} {w : World} {K : Act → World → Prop} {Q : Exit → Act → World → Prop} {E : Prop} (hgd : op.guard = none) (x y : Operand) (ho : op.op = .store 83 x y) (q : Nat) (g g' : Giv) (h : Bk w q (givC g)) (hx : a.eval x = .pointer (some ⟨q, 0, none⟩)) (hy : a.eval y = .agg (givC g').toArray)
    (hK : ∀ W, Bk W q (givC g') → Keeps (fun k => k = q) w W → K (a.put op.dst undef) W) : if Region.wanted op (yielded ops a.tmps) = true then Oper.wp Tryd.prog op a w K Q else E :=
  step_store_bk hgd 83 x y ho q 0 (givC g) (givC g') (givC g') h (Nat.le_refl 18) rfl info_giv (givC_one _) hx hy hK
theorem alloc_it (w : World) : (Instr.alloc 38 true (.tuple #[])).run Tryd.prog w = .ok (.pointer (some ⟨w.heap.size, 0, none⟩)) (w.alloc (.cells (itC Itm.none).toArray 38)) := by kernel_rfl
theorem results_giv {fn : Func} {p u : Tmp} (h : fn.results = #[.cell p 83, .tmp u]) (tmps : Array Value) {w : World} {q : Nat} {g : Giv} {v : Value} (hC : Bk w q (givC g)) (hp : tmps.getD p undef = .pointer (some ⟨q, 0, none⟩)) (hu : tmps.getD u undef = v) : (results fn tmps).run Tryd.prog w = .ok (.tuple #[.agg (givC g).toArray, v]) w := by
  have hp' : tmps[p]?.getD undef = .pointer (some ⟨q, 0, none⟩) := by simpa using hp
  have hu' : tmps[u]?.getD undef = v := by simpa using hu
  rw [results_cell_tmp h]
  simp [hp', hu', asAddr, run_loadVar_mid w q 0 83 (givC g) _ (hC.range 0 (givC g) (by simp)) Tryd.underlying83 rfl info_giv]
theorem idx_run (L : List Value) (hl : L.length = 14) (v : Int) (n : Nat) (hv : v = n) (u : Value) (hu : L[n]? = some u) (h1 : n ≤ 13) (w : World) : (Instr.index 107 (.agg L.toArray) (.int .u8 v)).run Tryd.prog w = .ok u w := by
  subst hv
  have hlt : n < L.length := by omega
  have hg : L[n] = u := by
    rw [List.getElem?_eq_getElem hlt] at hu
    injection hu
  have e15 : n < 14 := by omega
  have hp : (part 106 L.toArray n).run Tryd.prog w = .ok u w := by
    simp [part, isAgg, run_underlying Tryd.underlying106, hu]
  simp [Instr.index, asIntOf, run_underlying Tryd.underlying107, e15, hp]
theorem func_nil (f : FuncId) (C : Array Value) (W : World) : (binOp .eql 106 (.func (.func f) #[] C) .nilFunc).run Tryd.prog W = .ok (.bool false) W := by kernel_rfl
theorem nil_nil (W : World) : (binOp .eql 106 .nilFunc .nilFunc).run Tryd.prog W = .ok (.bool true) W := by kernel_rfl
theorem call_cells {w : World} {q : Nat} {c : Cal} (h : Bk w q (calC c)) : w.cell? ⟨q, 0, none⟩ = some (.int .u8 c.verb) ∧ w.cell? ⟨q, 1, none⟩ = some (.string c.key) ∧ w.cell? ⟨q, 2, none⟩ = some (.string c.val) ∧ w.cell? ⟨q, 3, none⟩ = some (.int .u32 c.fl) ∧ w.cell? ⟨q, 4, none⟩ = some (.int .i64 c.exp) ∧ w.cell? ⟨q, 5, none⟩ = some (.int .u64 c.id) ∧ w.cell? ⟨q, 6, none⟩ = some (.int .u64 c.by_) :=
  ⟨h.at_ 0 _ rfl, h.at_ 1 _ rfl, h.at_ 2 _ rfl, h.at_ 3 _ rfl, h.at_ 4 _ rfl, h.at_ 5 _ rfl, h.at_ 6 _ rfl⟩
theorem it_cells {w : World} {q : Nat} {x : Itm} (h : Bk w q (itC x)) : w.cell? ⟨q, 0, none⟩ = some (.string x.k) ∧ w.cell? ⟨q, 1, none⟩ = some (.string x.v) ∧ w.cell? ⟨q, 2, none⟩ = some (.int .u32 x.fl) ∧ w.cell? ⟨q, 3, none⟩ = some (.int .u64 x.id) ∧ w.cell? ⟨q, 4, none⟩ = some (.int .i64 x.dies) ∧ w.cell? ⟨q, 5, none⟩ = some (.int .i64 x.gen) :=
  ⟨h.at_ 0 _ rfl, h.at_ 1 _ rfl, h.at_ 2 _ rfl, h.at_ 3 _ rfl, h.at_ 4 _ rfl, h.at_ 5 _ rfl⟩
theorem okcw (k : ByteArray) (w : World) (hs : k.size ≤ maxLen) : Calls Tryd.prog 27 #[.string k] w fun e w' => e = .returned (.bool (okB k)) ∧ w = w' := okw k w hs
theorem at_wp {P : Program} {ops : Array Oper} {rest : List Oper} {op : Oper} {a : Act} {w : World} {Q : Exit → Act → World → Prop} (h : wpList P ops Q (op :: rest) a w) : wpList P ops Q (op :: rest) a w := h
theorem VfOk.nil {w : World} {x : Ask} {vf : Value} {og : Option Giv} (h : VfOk w x vf og) (hn : og = .none) : vf = .nilFunc := by
  rcases h with ⟨_, h⟩ | ⟨g, f, C, h, _⟩
  · exact h
  · rw [hn] at h; cases h
theorem VfOk.some {w : World} {x : Ask} {vf : Value} {og : Option Giv} {g : Giv} (h : VfOk w x vf og) (hn : og = Option.some g) : ∃ f C, vf = .func (.func f) #[] C ∧ Fnc f ∧ ∀ W, Below w.heap.size w W → Calls Tryd.prog f (#[.agg (askC x).toArray] ++ C) W fun e w' => e = .returned (.agg (givC g).toArray) ∧ Below W.heap.size W w' := by
  rcases h with ⟨h, _⟩ | ⟨g', f, C, h, h2⟩
  · rw [hn] at h; cases h
  · rw [hn] at h
    injection h with h
    subst h
    exact ⟨f, C, h2⟩
theorem VsAt.len {w : World} {L : List Value} (h : VsAt w L) : L.length = 14 := by
  obtain ⟨_, _, _, _, _, _, _, _, _, _, _, rfl, _⟩ := h.ex
  rfl
theorem kq {q : Nat} {w W : World} (h : Below w.heap.size w W) : Keeps (fun k => k = q ∨ w.heap.size ≤ k) w W := (Keeps.of_below h).mono fun _ _ s => .inr s
theorem Mp.lts {w : World} {m : Nat} {mv : Option Nat} {S : Mst} (h : Mp w m mv S) : ∀ k, MpB m mv k → k < w.heap.size := by
  rintro k (rfl | hk)
  · exact h.bk.lt
  · rcases h.recs with ⟨e, _⟩ | ⟨b, e, _, hq⟩
    · rw [e] at hk; cases hk
    · rw [e] at hk
      injection hk with hk
      subst hk
      exact hq.lt
section
variable {m : Nat} {mv : Option Nat} {S : Mst} {c : Cal} {x : Int} {w : World}
set_option maxHeartbeats 4000000 in
set_option maxRecDepth 100000 in
theorem gv_far (h : Mp w m mv S) (hS : MOk S) (hc : CalOk c) (hx : 0 ≤ x ∧ x < 18446744073709551616) (hv : 13 < c.verb) : Calls Tryd.prog 36 #[.pointer (some ⟨m, 0, none⟩), .agg (calC c).toArray, .int .u64 x] w (GivP w .none) := by
  have H := Lib.hid h
  have HS := Lib.hid hS
  have HC := Lib.hid hc
  have HX := Lib.hid hx
  have v0 := hc.verb.1
  clear h hS hc hx
  have hv1 : (c.verb != 11) = true := bne_iff_ne.mpr (by omega)
  go_enter Tryd.func36, Tryd.ntmps36
  go_wp2_with (first
    | (with_reducible refine at_wp ?_; refine wpList_box_bk rfl 35 (.tmp 1) rfl (calC c) rfl ?_; intro W1 q1 h1)
    | (with_reducible refine at_wp ?_; refine wpList_alloc_bk rfl 83 (givC Giv.none) alloc_giv rfl ?_; intro W2 q2 h2; obtain ⟨c0, c1, c2, c3, c4, c5, c6⟩ := call_cells (h1.bk.new h2.below))
    | (go_at_call 27; refine (okcw _ _ HC.out.key).mono ?_; rintro e W3 ⟨rfl, rfl⟩; rw [ok])
    | (go_at_call 47; refine (maycw m mv S x _ (H.out.new (fr_new h1.below h2.below)).bk HS.out.e HX.out).mono ?_; rintro e W3 ⟨rfl, b3⟩; rw [cm])
    | (with_reducible refine at_wp ?_; refine wpList_giv rfl (.tmp 6) (.tmp 31) rfl q2 Giv.none Giv.none (h2.bk) rfl rfl ?_; intro W9 h9 k9))
  refine bodyPost_ret (results_giv rfl _ h9 rfl rfl) rfl ⟨rfl, ?_⟩
  exact fr_set (fr_new h1.below h2.below) k9 (h2.at h1.below)
set_option maxHeartbeats 4000000 in
set_option maxRecDepth 100000 in
theorem gv_key (h : Mp w m mv S) (hS : MOk S) (hc : CalOk c) (hx : 0 ≤ x ∧ x < 18446744073709551616) (hv : ¬ 13 < c.verb) (hv1 : (c.verb != 11) = true) (ok : okB c.key = false) : Calls Tryd.prog 36 #[.pointer (some ⟨m, 0, none⟩), .agg (calC c).toArray, .int .u64 x] w (GivP w .none) := by
  have H := Lib.hid h
  have HS := Lib.hid hS
  have HC := Lib.hid hc
  have HX := Lib.hid hx
  have v0 := hc.verb.1
  clear h hS hc hx
  go_enter Tryd.func36, Tryd.ntmps36
  go_wp2_with (first
    | (with_reducible refine at_wp ?_; refine wpList_box_bk rfl 35 (.tmp 1) rfl (calC c) rfl ?_; intro W1 q1 h1)
    | (with_reducible refine at_wp ?_; refine wpList_alloc_bk rfl 83 (givC Giv.none) alloc_giv rfl ?_; intro W2 q2 h2; obtain ⟨c0, c1, c2, c3, c4, c5, c6⟩ := call_cells (h1.bk.new h2.below))
    | (go_at_call 27; refine (okcw _ _ HC.out.key).mono ?_; rintro e W3 ⟨rfl, rfl⟩; rw [ok])
    | (go_at_call 47; refine (maycw m mv S x _ (H.out.new (fr_new h1.below h2.below)).bk HS.out.e HX.out).mono ?_; rintro e W3 ⟨rfl, b3⟩; rw [cm])
    | (with_reducible refine at_wp ?_; refine wpList_giv rfl (.tmp 6) (.tmp 31) rfl q2 Giv.none Giv.none (h2.bk) rfl rfl ?_; intro W9 h9 k9))
  refine bodyPost_ret (results_giv rfl _ h9 rfl rfl) rfl ⟨rfl, ?_⟩
  exact fr_set (fr_new h1.below h2.below) k9 (h2.at h1.below)
set_option maxHeartbeats 4000000 in
set_option maxRecDepth 100000 in
theorem gv_epk (h : Mp w m mv S) (hS : MOk S) (hc : CalOk c) (hx : 0 ≤ x ∧ x < 18446744073709551616) (hv : ¬ 13 < c.verb) (hv1 : (c.verb != 11) = true) (ok : okB c.key = true) (cm : comes S.e x = false) : Calls Tryd.prog 36 #[.pointer (some ⟨m, 0, none⟩), .agg (calC c).toArray, .int .u64 x] w (GivP w .none) := by
  have H := Lib.hid h
  have HS := Lib.hid hS
  have HC := Lib.hid hc
  have HX := Lib.hid hx
  have v0 := hc.verb.1
  clear h hS hc hx
  go_enter Tryd.func36, Tryd.ntmps36
  go_wp2_with (first
    | (with_reducible refine at_wp ?_; refine wpList_box_bk rfl 35 (.tmp 1) rfl (calC c) rfl ?_; intro W1 q1 h1)
    | (with_reducible refine at_wp ?_; refine wpList_alloc_bk rfl 83 (givC Giv.none) alloc_giv rfl ?_; intro W2 q2 h2; obtain ⟨c0, c1, c2, c3, c4, c5, c6⟩ := call_cells (h1.bk.new h2.below))
    | (go_at_call 27; refine (okcw _ _ HC.out.key).mono ?_; rintro e W3 ⟨rfl, rfl⟩; rw [ok])
    | (go_at_call 47; refine (maycw m mv S x _ (H.out.new (fr_new h1.below h2.below)).bk HS.out.e HX.out).mono ?_; rintro e W3 ⟨rfl, b3⟩; rw [cm])
    | (with_reducible refine at_wp ?_; refine wpList_giv rfl (.tmp 6) (.tmp 31) rfl q2 Giv.none Giv.none (h2.bk.new b3) rfl rfl ?_; intro W9 h9 k9))
  refine bodyPost_ret (results_giv rfl _ h9 rfl rfl) rfl ⟨rfl, ?_⟩
  exact fr_set (fr_new (fr_new h1.below h2.below) b3) k9 (h2.at h1.below)
set_option maxHeartbeats 4000000 in
set_option maxRecDepth 100000 in
theorem gv_ep11 (h : Mp w m mv S) (hS : MOk S) (hc : CalOk c) (hx : 0 ≤ x ∧ x < 18446744073709551616) (hv : ¬ 13 < c.verb) (hv1 : (c.verb != 11) = false) (cm : comes S.e x = false) : Calls Tryd.prog 36 #[.pointer (some ⟨m, 0, none⟩), .agg (calC c).toArray, .int .u64 x] w (GivP w .none) := by
  have H := Lib.hid h
  have HS := Lib.hid hS
  have HC := Lib.hid hc
  have HX := Lib.hid hx
  have v0 := hc.verb.1
  clear h hS hc hx
  go_enter Tryd.func36, Tryd.ntmps36
  go_wp2_with (first
    | (with_reducible refine at_wp ?_; refine wpList_box_bk rfl 35 (.tmp 1) rfl (calC c) rfl ?_; intro W1 q1 h1)
    | (with_reducible refine at_wp ?_; refine wpList_alloc_bk rfl 83 (givC Giv.none) alloc_giv rfl ?_; intro W2 q2 h2; obtain ⟨c0, c1, c2, c3, c4, c5, c6⟩ := call_cells (h1.bk.new h2.below))
    | (go_at_call 27; refine (okcw _ _ HC.out.key).mono ?_; rintro e W3 ⟨rfl, rfl⟩; rw [ok])
    | (go_at_call 47; refine (maycw m mv S x _ (H.out.new (fr_new h1.below h2.below)).bk HS.out.e HX.out).mono ?_; rintro e W3 ⟨rfl, b3⟩; rw [cm])
    | (with_reducible refine at_wp ?_; refine wpList_giv rfl (.tmp 6) (.tmp 31) rfl q2 Giv.none Giv.none (h2.bk.new b3) rfl rfl ?_; intro W9 h9 k9))
  refine bodyPost_ret (results_giv rfl _ h9 rfl rfl) rfl ⟨rfl, ?_⟩
  exact fr_set (fr_new (fr_new h1.below h2.below) b3) k9 (h2.at h1.below)
set_option maxHeartbeats 4000000 in
set_option maxRecDepth 100000 in
theorem gv_nil (h : Mp w m mv S) (hS : MOk S) (hc : CalOk c) (hx : 0 ≤ x ∧ x < 18446744073709551616) (hv : ¬ 13 < c.verb) (hv1 : (c.verb != 11) = true) (ok : okB c.key = true) (cm : comes S.e x = true) (htab : Lib.TabIs Tryd.prog w "internal/strconv.uint64pow10" .u64 Lib.pow10Tab) (HA : Hid (AskOk (askOf S c x))) (nv : Nat) (hnv : c.verb = nv) (hn13 : nv ≤ 13) (hn : gvOf (askOf S c x) = .none) : Calls Tryd.prog 36 #[.pointer (some ⟨m, 0, none⟩), .agg (calC c).toArray, .int .u64 x] w (GivP w .none) := by
  have H := Lib.hid h
  have HS := Lib.hid hS
  have HC := Lib.hid hc
  have HX := Lib.hid hx
  have v0 := hc.verb.1
  have HT := Lib.hid htab
  have HNV := Lib.hid hnv
  clear h hS hc hx htab hnv
  go_enter Tryd.func36, Tryd.ntmps36
  go_wp2_with (first
    | (with_reducible refine at_wp ?_; refine wpList_box_bk rfl 35 (.tmp 1) rfl (calC c) rfl ?_; intro W1 q1 h1)
    | (with_reducible refine at_wp ?_; refine wpList_alloc_bk rfl 83 (givC Giv.none) alloc_giv rfl ?_; intro W2 q2 h2; obtain ⟨c0, c1, c2, c3, c4, c5, c6⟩ := call_cells (h1.bk.new h2.below))
    | (go_at_call 27; refine (okcw _ _ HC.out.key).mono ?_; rintro e W3 ⟨rfl, rfl⟩; rw [ok])
    | (go_at_call 47; refine (maycw m mv S x _ (H.out.new (fr_new h1.below h2.below)).bk HS.out.e HX.out).mono ?_; rintro e W3 ⟨rfl, b3⟩; rw [cm]))
  have HB1 := Lib.hid (h1.bk.new (fr_new h2.below b3))
  have HF3 := Lib.hid (fr_new (fr_new h1.below h2.below) b3)
  have HM1 := Lib.hid (H.out.new HF3.out)
  have HG2 := Lib.hid (h2.bk.new b3)
  have HQ := Lib.hid (show w.heap.size ≤ q2 ∧ q1 ≠ q2 ∧ q2 < W3.heap.size by have e0 := h1.bk.lt; have e1 := h2.at h1.below; have e2 := h2.eq; have e3 := h2.bk.lt; have e4 := b3.size; omega)
  have hd3 : Below W3.heap.size W3 W3.drew := (Below.refl _ _).drew
  have KEEP : Hid (∀ X, Keeps (fun k => k = q2 ∨ W3.heap.size ≤ k) W3 X → Mp X m mv S ∧ X.cell? ⟨m, 0, none⟩ = some (.map mv) ∧ X.cell? ⟨m, 2, none⟩ = some (.int .u64 S.i) ∧ X.cell? ⟨q1, 0, none⟩ = some (.int .u8 c.verb) ∧ X.cell? ⟨q1, 1, none⟩ = some (.string c.key) ∧ X.cell? ⟨q1, 2, none⟩ = some (.string c.val) ∧ X.cell? ⟨q1, 3, none⟩ = some (.int .u32 c.fl) ∧ X.cell? ⟨q1, 4, none⟩ = some (.int .i64 c.exp) ∧ X.cell? ⟨q1, 5, none⟩ = some (.int .u64 c.id) ∧ X.cell? ⟨q1, 6, none⟩ = some (.int .u64 c.by_)) := Lib.hid fun X hb => by
    have hm := HM1.out.keep hb (fun k hk => by have e1 := H.out.lts k hk; have e2 := HF3.out.size; have e3 := HQ.out; omega)
    exact ⟨hm, hm.bk.at_ 0 _ rfl, hm.bk.at_ 2 _ rfl, call_cells (HB1.out.keep hb (by have e1 := HB1.out.lt; have e3 := HQ.out; omega))⟩
  clear c0 c1 c2 c3 c4 c5 c6
  refine wp_region_held_drew (S := fun X => Mp X m mv S ∧ X.cell? ⟨m, 0, none⟩ = some (.map mv) ∧ X.cell? ⟨m, 2, none⟩ = some (.int .u64 S.i) ∧ X.cell? ⟨q1, 0, none⟩ = some (.int .u8 c.verb) ∧ X.cell? ⟨q1, 1, none⟩ = some (.string c.key) ∧ X.cell? ⟨q1, 2, none⟩ = some (.string c.val) ∧ X.cell? ⟨q1, 3, none⟩ = some (.int .u32 c.fl) ∧ X.cell? ⟨q1, 4, none⟩ = some (.int .i64 c.exp) ∧ X.cell? ⟨q1, 5, none⟩ = some (.int .u64 c.id) ∧ X.cell? ⟨q1, 6, none⟩ = some (.int .u64 c.by_)) (by kernel_rfl) (KEEP.out _ (kq hd3)) (fun hHeld => ?_)
  refine wpAnyH_take (i := 1) (oi := ({ dst := some 33, op := Op.fieldAddr 35 (Operand.tmp 4) 0, type := 0, pos := "maps.go:185", after := #[], guard := none })) (v := ?_) rfl (by kernel_rfl) (by kernel_rfl) (by kernel_rfl) (fun _ _ _ h => h) (Or.inl ⟨by rfl, ?_⟩) (by assumption) ?_
  rotate_left 1
  · (intro w9 hSw; (try dsimp only at hSw); go_simp; try with_reducible rfl)
  try simp only [Act.put, List.setIfInBounds_toArray, List.set_cons_zero, List.set_cons_succ]
  refine wpAnyH_take (i := 2) (oi := ({ dst := some 34, op := Op.load 32 (Operand.tmp 33), type := 32, pos := "maps.go:185", after := #[{ on := 1, ground := Ground.data }], guard := none })) (v := ?_) rfl (by kernel_rfl) (by kernel_rfl) (by kernel_rfl) (fun _ _ _ h => h) (Or.inl ⟨by rfl, ?_⟩) (by assumption) ?_
  rotate_left 1
  · (intro w9 hSw; (try dsimp only at hSw); go_simp; try with_reducible rfl)
  try simp only [Act.put, List.setIfInBounds_toArray, List.set_cons_zero, List.set_cons_succ]
  refine wpAnyH_ready (rs := [0]) (by kernel_rfl) (by simp) ?_
  refine AllReadyH.cons (o := ({ dst := some 32, op := Op.call { callee := Callee.value (Operand.func 48), args := #[], argTypes := #[] }, type := 107, pos := "maps.go:185", after := #[], guard := none })) rfl (fun K hK => ?_) AllReadyH.nil
  go_simp
  refine (verbsw _).mono ?_
  rintro e W4 ⟨L, rfl, hV, b4⟩
  have hb4 := fr_new hd3 b4
  obtain ⟨vf, hvf, hok⟩ := vs_at hV (askOf S c x) HA.out (tab_below HT.out (fr_new HF3.out hb4)) nv HNV.out hn13
  have HVL := Lib.hid (And.intro hV.len hvf)
  clear hvf hV
  have hnil := hok.nil hn
  subst hnil
  clear hok
  refine hK.out _ _ (KEEP.out _ (kq hb4)) (fun hHeld => ?_)
  clear hK K
  try simp only [Act.put, List.setIfInBounds_toArray, List.set_cons_zero, List.set_cons_succ]
  refine wpAnyH_take (i := 3) (oi := ({ dst := some 35, op := Op.index 107 (Operand.tmp 32) (Operand.tmp 34), type := 106, pos := "maps.go:185", after := #[{ on := 0, ground := Ground.data }, { on := 2, ground := Ground.data }], guard := none })) (v := .nilFunc) rfl (by kernel_rfl) (by kernel_rfl) (by kernel_rfl) (fun _ _ _ h => h) (Or.inl ⟨by rfl, ?_⟩) (by assumption) ?_
  · (intro w9 hSw; (try dsimp only at hSw); exact exec_index rfl rfl rfl (idx_run L HVL.out.1 c.verb nv HNV.out _ HVL.out.2 hn13 w9))
  try simp only [Act.put, List.setIfInBounds_toArray, List.set_cons_zero, List.set_cons_succ]
  refine wpAnyH_take (i := 4) (oi := ({ dst := some 8, op := Op.assign (Operand.tmp 35), type := 106, pos := "maps.go:185", after := #[{ on := 3, ground := Ground.data }, { on := 0, ground := Ground.chain }, { on := 0, ground := Ground.phase }, { on := 1, ground := Ground.phase }, { on := 2, ground := Ground.phase }, { on := 3, ground := Ground.phase }], guard := none })) (v := ?_) rfl (by kernel_rfl) (by kernel_rfl) (by kernel_rfl) (fun _ _ _ h => h) (Or.inl ⟨by rfl, ?_⟩) (by assumption) ?_
  rotate_left 1
  · (intro w9 hSw; (try dsimp only at hSw); go_simp; try with_reducible rfl)
  try simp only [Act.put, List.setIfInBounds_toArray, List.set_cons_zero, List.set_cons_succ]
  refine wpAnyH_done (by kernel_rfl) ?_ _
  have hq := nil_nil
  go_wp2_with (with_reducible refine at_wp ?_; refine wpList_giv rfl (.tmp 6) (.tmp 38) rfl q2 Giv.none Giv.none (HG2.out.new hb4) rfl rfl ?_; intro W9 h9 k9)
  refine bodyPost_ret (results_giv rfl _ h9 rfl rfl) rfl ⟨rfl, ?_⟩
  exact fr_set (fr_new HF3.out hb4) k9 HQ.out.1
set_option maxHeartbeats 4000000 in
set_option maxRecDepth 100000 in
theorem gv_f11_true (h : Mp w m mv S) (hS : MOk S) (hc : CalOk c) (hx : 0 ≤ x ∧ x < 18446744073709551616) (hv : ¬ 13 < c.verb) (hv1 : (c.verb != 11) = false) (cm : comes S.e x = true) (htab : Lib.TabIs Tryd.prog w "internal/strconv.uint64pow10" .u64 Lib.pow10Tab) (HA : Hid (AskOk (askOf S c x))) (nv : Nat) (hnv : c.verb = nv) (hn13 : nv ≤ 13) {g : Giv} (hg : gvOf (askOf S c x) = some g) (hs : (mlook S.L c.key).isSome = true) : Calls Tryd.prog 36 #[.pointer (some ⟨m, 0, none⟩), .agg (calC c).toArray, .int .u64 x] w (GivP w (some g)) := by
  obtain ⟨y, hy⟩ : ∃ y, (mlook S.L c.key).getD Itm.none = y := ⟨_, rfl⟩
  have hask : askOf S c x = ⟨c, x, y, true, aliveI y x, S.i⟩ := by simp [askOf, hy, hs]
  have HL : Hid (∀ X, Mp X m mv S → (Instr.lookup 55 (.map mv) (.string c.key) true).run Tryd.prog X = .ok (.tuple #[.agg #[.string y.k, .string y.v, .int .u32 y.fl, .int .u64 y.id, .int .i64 y.dies, .int .i64 y.gen], .bool true]) X) := Lib.hid fun X hX => by
    have := hX.look hc.key
    unfold lkV itV at this
    rw [hy, hs] at this
    exact this
  have HASK := Lib.hid hask
  have HG := Lib.hid hg
  have x0 := hx.1
  have x1 := hx.2
  clear hs hy hask hg
  have H := Lib.hid h
  have HS := Lib.hid hS
  have HC := Lib.hid hc
  have HX := Lib.hid hx
  have v0 := hc.verb.1
  have HT := Lib.hid htab
  have HNV := Lib.hid hnv
  clear h hS hc hx htab hnv
  go_enter Tryd.func36, Tryd.ntmps36
  go_wp2_with (first
    | (with_reducible refine at_wp ?_; refine wpList_box_bk rfl 35 (.tmp 1) rfl (calC c) rfl ?_; intro W1 q1 h1)
    | (with_reducible refine at_wp ?_; refine wpList_alloc_bk rfl 83 (givC Giv.none) alloc_giv rfl ?_; intro W2 q2 h2; obtain ⟨c0, c1, c2, c3, c4, c5, c6⟩ := call_cells (h1.bk.new h2.below))
    | (go_at_call 27; refine (okcw _ _ HC.out.key).mono ?_; rintro e W3 ⟨rfl, rfl⟩; rw [ok])
    | (go_at_call 47; refine (maycw m mv S x _ (H.out.new (fr_new h1.below h2.below)).bk HS.out.e HX.out).mono ?_; rintro e W3 ⟨rfl, b3⟩; rw [cm]))
  have HB1 := Lib.hid (h1.bk.new (fr_new h2.below b3))
  have HF3 := Lib.hid (fr_new (fr_new h1.below h2.below) b3)
  have HM1 := Lib.hid (H.out.new HF3.out)
  have HG2 := Lib.hid (h2.bk.new b3)
  have HQ := Lib.hid (show w.heap.size ≤ q2 ∧ q1 ≠ q2 ∧ q2 < W3.heap.size by have e0 := h1.bk.lt; have e1 := h2.at h1.below; have e2 := h2.eq; have e3 := h2.bk.lt; have e4 := b3.size; omega)
  have hd3 : Below W3.heap.size W3 W3.drew := (Below.refl _ _).drew
  have KEEP : Hid (∀ X, Keeps (fun k => k = q2 ∨ W3.heap.size ≤ k) W3 X → Mp X m mv S ∧ X.cell? ⟨m, 0, none⟩ = some (.map mv) ∧ X.cell? ⟨m, 2, none⟩ = some (.int .u64 S.i) ∧ X.cell? ⟨q1, 0, none⟩ = some (.int .u8 c.verb) ∧ X.cell? ⟨q1, 1, none⟩ = some (.string c.key) ∧ X.cell? ⟨q1, 2, none⟩ = some (.string c.val) ∧ X.cell? ⟨q1, 3, none⟩ = some (.int .u32 c.fl) ∧ X.cell? ⟨q1, 4, none⟩ = some (.int .i64 c.exp) ∧ X.cell? ⟨q1, 5, none⟩ = some (.int .u64 c.id) ∧ X.cell? ⟨q1, 6, none⟩ = some (.int .u64 c.by_)) := Lib.hid fun X hb => by
    have hm := HM1.out.keep hb (fun k hk => by have e1 := H.out.lts k hk; have e2 := HF3.out.size; have e3 := HQ.out; omega)
    exact ⟨hm, hm.bk.at_ 0 _ rfl, hm.bk.at_ 2 _ rfl, call_cells (HB1.out.keep hb (by have e1 := HB1.out.lt; have e3 := HQ.out; omega))⟩
  clear c0 c1 c2 c3 c4 c5 c6
  refine wp_region_held_drew (S := fun X => Mp X m mv S ∧ X.cell? ⟨m, 0, none⟩ = some (.map mv) ∧ X.cell? ⟨m, 2, none⟩ = some (.int .u64 S.i) ∧ X.cell? ⟨q1, 0, none⟩ = some (.int .u8 c.verb) ∧ X.cell? ⟨q1, 1, none⟩ = some (.string c.key) ∧ X.cell? ⟨q1, 2, none⟩ = some (.string c.val) ∧ X.cell? ⟨q1, 3, none⟩ = some (.int .u32 c.fl) ∧ X.cell? ⟨q1, 4, none⟩ = some (.int .i64 c.exp) ∧ X.cell? ⟨q1, 5, none⟩ = some (.int .u64 c.id) ∧ X.cell? ⟨q1, 6, none⟩ = some (.int .u64 c.by_)) (by kernel_rfl) (KEEP.out _ (kq hd3)) (fun hHeld => ?_)
  refine wpAnyH_take (i := 1) (oi := ({ dst := some 33, op := Op.fieldAddr 35 (Operand.tmp 4) 0, type := 0, pos := "maps.go:185", after := #[], guard := none })) (v := ?_) rfl (by kernel_rfl) (by kernel_rfl) (by kernel_rfl) (fun _ _ _ h => h) (Or.inl ⟨by rfl, ?_⟩) (by assumption) ?_
  rotate_left 1
  · (intro w9 hSw; (try dsimp only at hSw); go_simp; try with_reducible rfl)
  try simp only [Act.put, List.setIfInBounds_toArray, List.set_cons_zero, List.set_cons_succ]
  refine wpAnyH_take (i := 2) (oi := ({ dst := some 34, op := Op.load 32 (Operand.tmp 33), type := 32, pos := "maps.go:185", after := #[{ on := 1, ground := Ground.data }], guard := none })) (v := ?_) rfl (by kernel_rfl) (by kernel_rfl) (by kernel_rfl) (fun _ _ _ h => h) (Or.inl ⟨by rfl, ?_⟩) (by assumption) ?_
  rotate_left 1
  · (intro w9 hSw; (try dsimp only at hSw); go_simp; try with_reducible rfl)
  try simp only [Act.put, List.setIfInBounds_toArray, List.set_cons_zero, List.set_cons_succ]
  refine wpAnyH_ready (rs := [0]) (by kernel_rfl) (by simp) ?_
  refine AllReadyH.cons (o := ({ dst := some 32, op := Op.call { callee := Callee.value (Operand.func 48), args := #[], argTypes := #[] }, type := 107, pos := "maps.go:185", after := #[], guard := none })) rfl (fun K hK => ?_) AllReadyH.nil
  go_simp
  refine (verbsw _).mono ?_
  rintro e W4 ⟨L, rfl, hV, b4⟩
  have hb4 := fr_new hd3 b4
  obtain ⟨vf, hvf, hok⟩ := vs_at hV (askOf S c x) HA.out (tab_below HT.out (fr_new HF3.out hb4)) nv HNV.out hn13
  have HVL := Lib.hid (And.intro hV.len hvf)
  clear hvf hV
  obtain ⟨f, C, rfl, hcf, hcl⟩ := hok.some HG.out
  rw [HASK.out] at hcl
  have HCL := Lib.hid hcl
  have HCF := Lib.hid hcf
  clear hcl hcf hok
  refine hK.out _ _ (KEEP.out _ (kq hb4)) (fun hHeld => ?_)
  clear hK K
  try simp only [Act.put, List.setIfInBounds_toArray, List.set_cons_zero, List.set_cons_succ]
  refine wpAnyH_take (i := 3) (oi := ({ dst := some 35, op := Op.index 107 (Operand.tmp 32) (Operand.tmp 34), type := 106, pos := "maps.go:185", after := #[{ on := 0, ground := Ground.data }, { on := 2, ground := Ground.data }], guard := none })) (v := (.func (.func f) #[] C)) rfl (by kernel_rfl) (by kernel_rfl) (by kernel_rfl) (fun _ _ _ h => h) (Or.inl ⟨by rfl, ?_⟩) (by assumption) ?_
  · (intro w9 hSw; (try dsimp only at hSw); exact exec_index rfl rfl rfl (idx_run L HVL.out.1 c.verb nv HNV.out _ HVL.out.2 hn13 w9))
  try simp only [Act.put, List.setIfInBounds_toArray, List.set_cons_zero, List.set_cons_succ]
  refine wpAnyH_take (i := 4) (oi := ({ dst := some 8, op := Op.assign (Operand.tmp 35), type := 106, pos := "maps.go:185", after := #[{ on := 3, ground := Ground.data }, { on := 0, ground := Ground.chain }, { on := 0, ground := Ground.phase }, { on := 1, ground := Ground.phase }, { on := 2, ground := Ground.phase }, { on := 3, ground := Ground.phase }], guard := none })) (v := ?_) rfl (by kernel_rfl) (by kernel_rfl) (by kernel_rfl) (fun _ _ _ h => h) (Or.inl ⟨by rfl, ?_⟩) (by assumption) ?_
  rotate_left 1
  · (intro w9 hSw; (try dsimp only at hSw); go_simp; try with_reducible rfl)
  try simp only [Act.put, List.setIfInBounds_toArray, List.set_cons_zero, List.set_cons_succ]
  refine wpAnyH_done (by kernel_rfl) ?_ _
  have hq := func_nil f C
  go_wp2_with fail
  have hb5 : Below W3.heap.size W3 W4.drew := fr_new hb4 (Below.refl _ _).drew
  refine wp_region_held_drew (S := fun X => Mp X m mv S ∧ X.cell? ⟨m, 0, none⟩ = some (.map mv) ∧ X.cell? ⟨m, 2, none⟩ = some (.int .u64 S.i) ∧ X.cell? ⟨q1, 0, none⟩ = some (.int .u8 c.verb) ∧ X.cell? ⟨q1, 1, none⟩ = some (.string c.key) ∧ X.cell? ⟨q1, 2, none⟩ = some (.string c.val) ∧ X.cell? ⟨q1, 3, none⟩ = some (.int .u32 c.fl) ∧ X.cell? ⟨q1, 4, none⟩ = some (.int .i64 c.exp) ∧ X.cell? ⟨q1, 5, none⟩ = some (.int .u64 c.id) ∧ X.cell? ⟨q1, 6, none⟩ = some (.int .u64 c.by_)) (by kernel_rfl) (KEEP.out _ (kq hb5)) (fun hHeld => ?_)
  refine wpAnyH_take (i := 0) (oi := ({ dst := some 40, op := Op.move (Operand.tmp 0), type := 25, pos := "maps.go:189", after := #[], guard := none })) (v := ?_) rfl (by kernel_rfl) (by kernel_rfl) (by kernel_rfl) (fun _ _ _ h => h) (Or.inl ⟨by rfl, ?_⟩) (by assumption) ?_
  rotate_left 1
  · (intro w9 hSw; (try dsimp only at hSw); go_simp; try with_reducible rfl)
  try simp only [Act.put, List.setIfInBounds_toArray, List.set_cons_zero, List.set_cons_succ]
  refine wpAnyH_take (i := 1) (oi := ({ dst := some 41, op := Op.nilCheck (Operand.tmp 40), type := 0, pos := "maps.go:189", after := #[{ on := 0, ground := Ground.data }], guard := none })) (v := ?_) rfl (by kernel_rfl) (by kernel_rfl) (by kernel_rfl) (fun _ _ _ h => h) (Or.inl ⟨by rfl, ?_⟩) (by assumption) ?_
  rotate_left 1
  · (intro w9 hSw; (try dsimp only at hSw); go_simp; try with_reducible rfl)
  try simp only [Act.put, List.setIfInBounds_toArray, List.set_cons_zero, List.set_cons_succ]
  refine wpAnyH_take (i := 2) (oi := ({ dst := some 42, op := Op.fieldAddr 57 (Operand.tmp 41) 0, type := 0, pos := "maps.go:189", after := #[{ on := 1, ground := Ground.data }], guard := none })) (v := ?_) rfl (by kernel_rfl) (by kernel_rfl) (by kernel_rfl) (fun _ _ _ h => h) (Or.inl ⟨by rfl, ?_⟩) (by assumption) ?_
  rotate_left 1
  · (intro w9 hSw; (try dsimp only at hSw); go_simp; try with_reducible rfl)
  try simp only [Act.put, List.setIfInBounds_toArray, List.set_cons_zero, List.set_cons_succ]
  refine wpAnyH_take (i := 3) (oi := ({ dst := some 43, op := Op.load 55 (Operand.tmp 42), type := 55, pos := "maps.go:189", after := #[{ on := 2, ground := Ground.data }], guard := none })) (v := ?_) rfl (by kernel_rfl) (by kernel_rfl) (by kernel_rfl) (fun _ _ _ h => h) (Or.inl ⟨by rfl, ?_⟩) (by assumption) ?_
  rotate_left 1
  · (intro w9 hSw; (try dsimp only at hSw); go_simp; try with_reducible rfl)
  try simp only [Act.put, List.setIfInBounds_toArray, List.set_cons_zero, List.set_cons_succ]
  refine wpAnyH_take (i := 4) (oi := ({ dst := some 44, op := Op.fieldAddr 35 (Operand.tmp 4) 1, type := 0, pos := "maps.go:189", after := #[], guard := none })) (v := ?_) rfl (by kernel_rfl) (by kernel_rfl) (by kernel_rfl) (fun _ _ _ h => h) (Or.inl ⟨by rfl, ?_⟩) (by assumption) ?_
  rotate_left 1
  · (intro w9 hSw; (try dsimp only at hSw); go_simp; try with_reducible rfl)
  try simp only [Act.put, List.setIfInBounds_toArray, List.set_cons_zero, List.set_cons_succ]
  refine wpAnyH_take (i := 5) (oi := ({ dst := some 45, op := Op.load 9 (Operand.tmp 44), type := 9, pos := "maps.go:189", after := #[{ on := 4, ground := Ground.data }], guard := none })) (v := ?_) rfl (by kernel_rfl) (by kernel_rfl) (by kernel_rfl) (fun _ _ _ h => h) (Or.inl ⟨by rfl, ?_⟩) (by assumption) ?_
  rotate_left 1
  · (intro w9 hSw; (try dsimp only at hSw); go_simp; try with_reducible rfl)
  try simp only [Act.put, List.setIfInBounds_toArray, List.set_cons_zero, List.set_cons_succ]
  refine wpAnyH_take (i := 6) (oi := ({ dst := some 46, op := Op.lookup 55 (Operand.tmp 43) (Operand.tmp 45) true, type := 47, pos := "maps.go:189", after := #[{ on := 3, ground := Ground.data }, { on := 5, ground := Ground.data }], guard := none })) (v := (.tuple #[.agg #[.string y.k, .string y.v, .int .u32 y.fl, .int .u64 y.id, .int .i64 y.dies, .int .i64 y.gen], .bool true])) rfl (by kernel_rfl) (by kernel_rfl) (by kernel_rfl) (fun _ _ _ h => h) (Or.inl ⟨by rfl, ?_⟩) (by assumption) ?_
  · (intro w9 hSw; (try dsimp only at hSw); exact exec_lookup rfl rfl rfl (HL.out _ hSw.1))
  try simp only [Act.put, List.setIfInBounds_toArray, List.set_cons_zero, List.set_cons_succ]
  refine wpAnyH_take (i := 7) (oi := ({ dst := some 39, op := Op.move (Operand.tmp 46), type := 47, pos := "maps.go:189", after := #[{ on := 6, ground := Ground.data }], guard := none })) (v := ?_) rfl (by kernel_rfl) (by kernel_rfl) (by kernel_rfl) (fun _ _ _ h => h) (Or.inl ⟨by rfl, ?_⟩) (by assumption) ?_
  rotate_left 1
  · (intro w9 hSw; (try dsimp only at hSw); go_simp; try with_reducible rfl)
  try simp only [Act.put, List.setIfInBounds_toArray, List.set_cons_zero, List.set_cons_succ]
  refine wpAnyH_take (i := 8) (oi := ({ dst := some 47, op := Op.extract (Operand.tmp 39) 0, type := 38, pos := "maps.go:189", after := #[{ on := 7, ground := Ground.data }], guard := none })) (v := ?_) rfl (by kernel_rfl) (by kernel_rfl) (by kernel_rfl) (fun _ _ _ h => h) (Or.inl ⟨by rfl, ?_⟩) (by assumption) ?_
  rotate_left 1
  · (intro w9 hSw; (try dsimp only at hSw); go_simp; try with_reducible rfl)
  try simp only [Act.put, List.setIfInBounds_toArray, List.set_cons_zero, List.set_cons_succ]
  refine wpAnyH_take (i := 9) (oi := ({ dst := some 48, op := Op.extract (Operand.tmp 39) 1, type := 4, pos := "maps.go:189", after := #[{ on := 7, ground := Ground.data }, { on := 11, ground := Ground.gcOnly Departure.lateStores }], guard := none })) (v := ?_) rfl (by kernel_rfl) (by kernel_rfl) (by kernel_rfl) (fun _ _ _ h => h) (Or.inl ⟨by rfl, ?_⟩) (by assumption) ?_
  rotate_left 1
  · (intro w9 hSw; (try dsimp only at hSw); go_simp; try with_reducible rfl)
  try simp only [Act.put, List.setIfInBounds_toArray, List.set_cons_zero, List.set_cons_succ]
  refine wpAnyH_ready (rs := [10]) (by kernel_rfl) (by simp) ?_
  refine AllReadyH.cons (o := ({ dst := some 9, op := Op.alloc 38, type := 0, pos := "maps.go:189", after := #[], guard := none })) rfl (fun K hK => ?_) AllReadyH.nil
  refine step_alloc_bk rfl 38 (itC Itm.none) alloc_it rfl ?_
  intro W5 q5 h5
  have hb6 := fr_new hb5 h5.below
  refine hK.out _ _ (KEEP.out _ (kq hb6)) (fun hHeld => ?_)
  clear hK K
  try simp only [Act.put, List.setIfInBounds_toArray, List.set_cons_zero, List.set_cons_succ]
  refine wpAnyH_ready (rs := [11]) (by kernel_rfl) (by simp) ?_
  refine AllReadyH.cons (o := ({ dst := none, op := Op.store 38 (Operand.tmp 9) (Operand.tmp 47), type := 0, pos := "maps.go:189", after := #[{ on := 10, ground := Ground.data }, { on := 8, ground := Ground.data }, { on := 0, ground := Ground.phase }, { on := 1, ground := Ground.phase }, { on := 2, ground := Ground.phase }, { on := 3, ground := Ground.phase }, { on := 4, ground := Ground.phase }, { on := 5, ground := Ground.phase }, { on := 6, ground := Ground.phase }, { on := 7, ground := Ground.phase }, { on := 8, ground := Ground.phase }, { on := 9, ground := Ground.textOnly Departure.lateStores }, { on := 10, ground := Ground.phase }], guard := none })) rfl (fun K hK => ?_) AllReadyH.nil
  refine step_store_bk rfl 38 (.tmp 9) (.tmp 47) rfl q5 0 (itC Itm.none) (itC y) (itC y) h5.bk (Nat.le_refl 6) rfl info_it (itC_one _) rfl rfl ?_
  intro W6 h6 k6
  have hb7 := fr_set hb6 k6 (h5.at hb5)
  refine hK.out _ _ (KEEP.out _ (kq hb7)) (fun hHeld => ?_)
  clear hK K
  try simp only [Act.put]
  refine wpAnyH_take (i := 12) (oi := ({ dst := some 10, op := Op.assign (Operand.tmp 48), type := 4, pos := "maps.go:189", after := #[{ on := 9, ground := Ground.data }, { on := 11, ground := Ground.chain }, { on := 0, ground := Ground.phase }, { on := 1, ground := Ground.phase }, { on := 2, ground := Ground.phase }, { on := 3, ground := Ground.phase }, { on := 4, ground := Ground.phase }, { on := 5, ground := Ground.phase }, { on := 6, ground := Ground.phase }, { on := 7, ground := Ground.phase }, { on := 8, ground := Ground.phase }, { on := 9, ground := Ground.phase }, { on := 10, ground := Ground.phase }, { on := 11, ground := Ground.phase }], guard := none })) (v := ?_) rfl (by kernel_rfl) (by kernel_rfl) (by kernel_rfl) (fun _ _ _ h => h) (Or.inl ⟨by rfl, ?_⟩) (by assumption) ?_
  rotate_left 1
  · (intro w9 hSw; (try dsimp only at hSw); go_simp; try with_reducible rfl)
  try simp only [Act.put, List.setIfInBounds_toArray, List.set_cons_zero, List.set_cons_succ]
  refine wpAnyH_done (by kernel_rfl) ?_ _
  have HQ5 := Lib.hid (show q5 ≠ q2 ∧ q5 < W6.heap.size by have e1 := h5.at hb5; have e2 := HQ.out; exact ⟨by omega, h6.lt⟩)
  have H6 := Lib.hid h6
  have KEEP7 : Hid (∀ X, Keeps (fun k => k = q2 ∨ W6.heap.size ≤ k) W6 X → Mp X m mv S ∧ X.cell? ⟨m, 0, none⟩ = some (.map mv) ∧ X.cell? ⟨m, 2, none⟩ = some (.int .u64 S.i) ∧ (X.cell? ⟨q1, 0, none⟩ = some (.int .u8 c.verb) ∧ X.cell? ⟨q1, 1, none⟩ = some (.string c.key) ∧ X.cell? ⟨q1, 2, none⟩ = some (.string c.val) ∧ X.cell? ⟨q1, 3, none⟩ = some (.int .u32 c.fl) ∧ X.cell? ⟨q1, 4, none⟩ = some (.int .i64 c.exp) ∧ X.cell? ⟨q1, 5, none⟩ = some (.int .u64 c.id) ∧ X.cell? ⟨q1, 6, none⟩ = some (.int .u64 c.by_)) ∧ X.cell? ⟨q5, 0, none⟩ = some (.string y.k) ∧ X.cell? ⟨q5, 1, none⟩ = some (.string y.v) ∧ X.cell? ⟨q5, 2, none⟩ = some (.int .u32 y.fl) ∧ X.cell? ⟨q5, 3, none⟩ = some (.int .u64 y.id) ∧ X.cell? ⟨q5, 4, none⟩ = some (.int .i64 y.dies) ∧ X.cell? ⟨q5, 5, none⟩ = some (.int .i64 y.gen)) := Lib.hid fun X hb => by
    have e0 := hb7.size
    have hk := (kq (q := q2) hb7).trans hb (fun i hi s => by rcases s with s | s; exact .inl s; omega)
    obtain ⟨a1, a2, a3, a4⟩ := KEEP.out X hk
    exact ⟨a1, a2, a3, a4, it_cells (H6.out.keep hb (by have e3 := HQ5.out; omega))⟩
  clear h6
  have hd6 : Below W6.heap.size W6 W6.drew := (Below.refl _ _).drew
  go_wp2_with fail
  have hfnc := HCF.out
  unfold Fnc at hfnc
  refine wp_region_held_drew (S := fun X => Mp X m mv S ∧ X.cell? ⟨m, 0, none⟩ = some (.map mv) ∧ X.cell? ⟨m, 2, none⟩ = some (.int .u64 S.i) ∧ (X.cell? ⟨q1, 0, none⟩ = some (.int .u8 c.verb) ∧ X.cell? ⟨q1, 1, none⟩ = some (.string c.key) ∧ X.cell? ⟨q1, 2, none⟩ = some (.string c.val) ∧ X.cell? ⟨q1, 3, none⟩ = some (.int .u32 c.fl) ∧ X.cell? ⟨q1, 4, none⟩ = some (.int .i64 c.exp) ∧ X.cell? ⟨q1, 5, none⟩ = some (.int .u64 c.id) ∧ X.cell? ⟨q1, 6, none⟩ = some (.int .u64 c.by_)) ∧ X.cell? ⟨q5, 0, none⟩ = some (.string y.k) ∧ X.cell? ⟨q5, 1, none⟩ = some (.string y.v) ∧ X.cell? ⟨q5, 2, none⟩ = some (.int .u32 y.fl) ∧ X.cell? ⟨q5, 3, none⟩ = some (.int .u64 y.id) ∧ X.cell? ⟨q5, 4, none⟩ = some (.int .i64 y.dies) ∧ X.cell? ⟨q5, 5, none⟩ = some (.int .i64 y.gen)) (by kernel_rfl) (KEEP7.out _ (kq hd6)) (fun hHeld => ?_)
  refine wpAnyH_take (i := 0) (oi := ({ dst := some 49, op := Op.move (Operand.tmp 8), type := 106, pos := "maps.go:190", after := #[], guard := none })) (v := ?_) rfl (by kernel_rfl) (by kernel_rfl) (by kernel_rfl) (fun _ _ _ h => h) (Or.inl ⟨by rfl, ?_⟩) (by assumption) ?_
  rotate_left 1
  · (intro w9 hSw; (try dsimp only at hSw); go_simp; try with_reducible rfl)
  try simp only [Act.put, List.setIfInBounds_toArray, List.set_cons_zero, List.set_cons_succ]
  refine wpAnyH_take (i := 1) (oi := ({ dst := some 50, op := Op.load 35 (Operand.tmp 4), type := 35, pos := "maps.go:190", after := #[], guard := none })) (v := ?_) rfl (by kernel_rfl) (by kernel_rfl) (by kernel_rfl) (fun _ _ _ h => h) (Or.inl ⟨by rfl, ?_⟩) (by assumption) ?_
  rotate_left 1
  · (intro w9 hSw; (try dsimp only at hSw); go_simp; try with_reducible rfl)
  try simp only [Act.put, List.setIfInBounds_toArray, List.set_cons_zero, List.set_cons_succ]
  refine wpAnyH_take (i := 2) (oi := ({ dst := some 51, op := Op.move (Operand.tmp 2), type := 29, pos := "maps.go:190", after := #[], guard := none })) (v := ?_) rfl (by kernel_rfl) (by kernel_rfl) (by kernel_rfl) (fun _ _ _ h => h) (Or.inl ⟨by rfl, ?_⟩) (by assumption) ?_
  rotate_left 1
  · (intro w9 hSw; (try dsimp only at hSw); go_simp; try with_reducible rfl)
  try simp only [Act.put, List.setIfInBounds_toArray, List.set_cons_zero, List.set_cons_succ]
  refine wpAnyH_take (i := 3) (oi := ({ dst := some 52, op := Op.load 38 (Operand.tmp 9), type := 38, pos := "maps.go:190", after := #[], guard := none })) (v := ?_) rfl (by kernel_rfl) (by kernel_rfl) (by kernel_rfl) (fun _ _ _ h => h) (Or.inl ⟨by rfl, ?_⟩) (by assumption) ?_
  rotate_left 1
  · (intro w9 hSw; (try dsimp only at hSw); go_simp; try with_reducible rfl)
  try simp only [Act.put, List.setIfInBounds_toArray, List.set_cons_zero, List.set_cons_succ]
  refine wpAnyH_take (i := 4) (oi := ({ dst := some 53, op := Op.move (Operand.tmp 10), type := 4, pos := "maps.go:190", after := #[], guard := none })) (v := ?_) rfl (by kernel_rfl) (by kernel_rfl) (by kernel_rfl) (fun _ _ _ h => h) (Or.inl ⟨by rfl, ?_⟩) (by assumption) ?_
  rotate_left 1
  · (intro w9 hSw; (try dsimp only at hSw); go_simp; try with_reducible rfl)
  try simp only [Act.put, List.setIfInBounds_toArray, List.set_cons_zero, List.set_cons_succ]
  refine wpAnyH_take (i := 5) (oi := ({ dst := some 54, op := Op.move (Operand.tmp 10), type := 4, pos := "maps.go:190", after := #[], guard := none })) (v := ?_) rfl (by kernel_rfl) (by kernel_rfl) (by kernel_rfl) (fun _ _ _ h => h) (Or.inl ⟨by rfl, ?_⟩) (by assumption) ?_
  rotate_left 1
  · (intro w9 hSw; (try dsimp only at hSw); go_simp; try with_reducible rfl)
  try simp only [Act.put, List.setIfInBounds_toArray, List.set_cons_zero, List.set_cons_succ]
  refine wpAnyH_take (i := 6) (oi := ({ dst := some 55, op := Op.move (Operand.tmp 54), type := 4, pos := "maps.go:190", after := #[{ on := 5, ground := Ground.data }], guard := none })) (v := ?_) rfl (by kernel_rfl) (by kernel_rfl) (by kernel_rfl) (fun _ _ _ h => h) (Or.inl ⟨by rfl, ?_⟩) (by assumption) ?_
  rotate_left 1
  · (intro w9 hSw; (try dsimp only at hSw); go_simp; try with_reducible rfl)
  try simp only [Act.put, List.setIfInBounds_toArray, List.set_cons_zero, List.set_cons_succ]
  refine wpAnyH_take (i := 7) (oi := ({ dst := some 56, op := Op.load 38 (Operand.tmp 9), type := 38, pos := "maps.go:190", after := #[{ on := 6, ground := Ground.guard }], guard := some (6, true) })) (v := ?_) rfl (by kernel_rfl) (by kernel_rfl) (by kernel_rfl) (fun _ _ _ h => h) (Or.inl ⟨by rfl, ?_⟩) (by assumption) ?_
  rotate_left 1
  · (intro w9 hSw; (try dsimp only at hSw); go_simp; try with_reducible rfl)
  try simp only [Act.put, List.setIfInBounds_toArray, List.set_cons_zero, List.set_cons_succ]
  refine wpAnyH_take (i := 8) (oi := ({ dst := some 57, op := Op.move (Operand.tmp 2), type := 29, pos := "maps.go:190", after := #[{ on := 6, ground := Ground.guard }], guard := some (6, true) })) (v := ?_) rfl (by kernel_rfl) (by kernel_rfl) (by kernel_rfl) (fun _ _ _ h => h) (Or.inl ⟨by rfl, ?_⟩) (by assumption) ?_
  rotate_left 1
  · (intro w9 hSw; (try dsimp only at hSw); go_simp; try with_reducible rfl)
  try simp only [Act.put, List.setIfInBounds_toArray, List.set_cons_zero, List.set_cons_succ]
  refine wpAnyH_take (i := 11) (oi := ({ dst := some 60, op := Op.move (Operand.tmp 0), type := 25, pos := "maps.go:190", after := #[], guard := none })) (v := ?_) rfl (by kernel_rfl) (by kernel_rfl) (by kernel_rfl) (fun _ _ _ h => h) (Or.inl ⟨by rfl, ?_⟩) (by assumption) ?_
  rotate_left 1
  · (intro w9 hSw; (try dsimp only at hSw); go_simp; try with_reducible rfl)
  try simp only [Act.put, List.setIfInBounds_toArray, List.set_cons_zero, List.set_cons_succ]
  refine wpAnyH_take (i := 12) (oi := ({ dst := some 61, op := Op.nilCheck (Operand.tmp 60), type := 0, pos := "maps.go:190", after := #[{ on := 11, ground := Ground.data }], guard := none })) (v := ?_) rfl (by kernel_rfl) (by kernel_rfl) (by kernel_rfl) (fun _ _ _ h => h) (Or.inl ⟨by rfl, ?_⟩) (by assumption) ?_
  rotate_left 1
  · (intro w9 hSw; (try dsimp only at hSw); go_simp; try with_reducible rfl)
  try simp only [Act.put, List.setIfInBounds_toArray, List.set_cons_zero, List.set_cons_succ]
  refine wpAnyH_take (i := 13) (oi := ({ dst := some 62, op := Op.fieldAddr 57 (Operand.tmp 61) 2, type := 0, pos := "maps.go:190", after := #[{ on := 12, ground := Ground.data }], guard := none })) (v := ?_) rfl (by kernel_rfl) (by kernel_rfl) (by kernel_rfl) (fun _ _ _ h => h) (Or.inl ⟨by rfl, ?_⟩) (by assumption) ?_
  rotate_left 1
  · (intro w9 hSw; (try dsimp only at hSw); go_simp; try with_reducible rfl)
  try simp only [Act.put, List.setIfInBounds_toArray, List.set_cons_zero, List.set_cons_succ]
  refine wpAnyH_take (i := 14) (oi := ({ dst := some 63, op := Op.load 29 (Operand.tmp 62), type := 29, pos := "maps.go:190", after := #[{ on := 13, ground := Ground.data }], guard := none })) (v := ?_) rfl (by kernel_rfl) (by kernel_rfl) (by kernel_rfl) (fun _ _ _ h => h) (Or.inl ⟨by rfl, ?_⟩) (by assumption) ?_
  rotate_left 1
  · (intro w9 hSw; (try dsimp only at hSw); go_simp; try with_reducible rfl)
  try simp only [Act.put, List.setIfInBounds_toArray, List.set_cons_zero, List.set_cons_succ]
  refine wpAnyH_ready (rs := [9]) (by kernel_rfl) (by simp) ?_
  refine AllReadyH.cons (o := ({ dst := some 58, op := Op.call { callee := Callee.value (Operand.func 30), args := #[Operand.tmp 56, Operand.tmp 57], argTypes := #[38, 29] }, type := 4, pos := "maps.go:190", after := #[{ on := 7, ground := Ground.data }, { on := 8, ground := Ground.data }, { on := 6, ground := Ground.chain }, { on := 6, ground := Ground.guard }], guard := some (6, true) })) rfl (fun K hK => ?_) AllReadyH.nil
  go_simp
  refine (alivew y.k y.v y.fl y.id y.dies y.gen x _ x0 x1).mono ?_
  rintro e W7 ⟨rfl, b7⟩
  have hb8 := fr_new hd6 b7
  refine hK.out _ _ (KEEP7.out _ (kq hb8)) (fun hHeld => ?_)
  clear hK K
  try simp only [Act.put, List.setIfInBounds_toArray, List.set_cons_zero, List.set_cons_succ]
  refine wpAnyH_take (i := 10) (oi := ({ dst := some 59, op := Op.pick (Operand.tmp 55) (Operand.tmp 58) (Operand.const (Value.bool false)), type := 4, pos := "maps.go:190", after := #[{ on := 6, ground := Ground.data }, { on := 9, ground := Ground.data }], guard := none })) (v := ?_) rfl (by kernel_rfl) (by kernel_rfl) (by kernel_rfl) (fun _ _ _ h => h) (Or.inl ⟨by rfl, ?_⟩) (by assumption) ?_
  rotate_left 1
  · (intro w9 hSw; (try dsimp only at hSw); go_simp; try with_reducible rfl)
  try simp only [Act.put, List.setIfInBounds_toArray, List.set_cons_zero, List.set_cons_succ]
  refine wpAnyH_take (i := 15) (oi := ({ dst := some 64, op := Op.build 110 #[(0, Operand.tmp 50), (1, Operand.tmp 51), (2, Operand.tmp 52), (3, Operand.tmp 53), (4, Operand.tmp 59), (5, Operand.tmp 63)], type := 110, pos := "maps.go:190", after := #[{ on := 1, ground := Ground.data }, { on := 2, ground := Ground.data }, { on := 3, ground := Ground.data }, { on := 4, ground := Ground.data }, { on := 10, ground := Ground.data }, { on := 14, ground := Ground.data }], guard := none })) (v := ?_) rfl (by kernel_rfl) (by kernel_rfl) (by kernel_rfl) (fun _ _ _ h => h) (Or.inl ⟨by rfl, ?_⟩) (by assumption) ?_
  rotate_left 1
  · (intro w9 hSw; (try dsimp only at hSw); go_simp; try with_reducible rfl)
  try simp only [Act.put, List.setIfInBounds_toArray, List.set_cons_zero, List.set_cons_succ]
  refine wpAnyH_ready (rs := [16]) (by kernel_rfl) (by simp) ?_
  refine AllReadyH.cons (o := ({ dst := some 65, op := Op.call { callee := Callee.value (Operand.tmp 49), args := #[Operand.tmp 64], argTypes := #[110] }, type := 83, pos := "maps.go:190", after := #[{ on := 0, ground := Ground.data }, { on := 15, ground := Ground.data }, { on := 9, ground := Ground.chain }], guard := none })) rfl (fun K hK => ?_) AllReadyH.nil
  go_simp
  refine (HCL.out _ (fr_new (fr_new (fr_set (fr_new (Below.refl _ _).drew h5.below) k6 (by have e1 := h5.eq; have e2 : W4.drew.heap.size = W4.heap.size := rfl; omega)) hd6) b7)).mono ?_
  rintro e W8 ⟨rfl, b8⟩
  have hb9 := fr_new hb8 b8
  refine hK.out _ _ (KEEP7.out _ (kq hb9)) (fun hHeld => ?_)
  clear hK K
  try simp only [Act.put, List.setIfInBounds_toArray, List.set_cons_zero, List.set_cons_succ]
  refine wpAnyH_ready (rs := [17]) (by kernel_rfl) (by simp) ?_
  refine AllReadyH.cons (o := ({ dst := none, op := Op.store 83 (Operand.tmp 6) (Operand.tmp 65), type := 0, pos := "maps.go:190", after := #[{ on := 16, ground := Ground.data }, { on := 16, ground := Ground.chain }, { on := 0, ground := Ground.phase }, { on := 1, ground := Ground.phase }, { on := 2, ground := Ground.phase }, { on := 3, ground := Ground.phase }, { on := 4, ground := Ground.phase }, { on := 5, ground := Ground.phase }, { on := 6, ground := Ground.phase }, { on := 7, ground := Ground.phase }, { on := 8, ground := Ground.phase }, { on := 9, ground := Ground.phase }, { on := 10, ground := Ground.phase }, { on := 11, ground := Ground.phase }, { on := 12, ground := Ground.phase }, { on := 13, ground := Ground.phase }, { on := 14, ground := Ground.phase }, { on := 15, ground := Ground.phase }, { on := 16, ground := Ground.phase }], guard := none })) rfl (fun K hK => ?_) AllReadyH.nil
  refine step_giv rfl (.tmp 6) (.tmp 65) rfl q2 Giv.none g (HG2.out.new (fr_new hb7 hb9)) rfl rfl ?_
  intro W9 h9 k9
  refine hK.out _ _ (KEEP7.out _ ((kq hb9).trans k9 (fun i hi s => .inl s))) (fun hHeld => ?_)
  clear hK K
  try simp only [Act.put]
  refine wpAnyH_take (i := 18) (oi := ({ dst := some 7, op := Op.assign (Operand.const (Value.bool true)), type := 4, pos := "maps.go:190", after := #[{ on := 17, ground := Ground.chain }, { on := 0, ground := Ground.phase }, { on := 1, ground := Ground.phase }, { on := 2, ground := Ground.phase }, { on := 3, ground := Ground.phase }, { on := 4, ground := Ground.phase }, { on := 5, ground := Ground.phase }, { on := 6, ground := Ground.phase }, { on := 7, ground := Ground.phase }, { on := 8, ground := Ground.phase }, { on := 9, ground := Ground.phase }, { on := 10, ground := Ground.phase }, { on := 11, ground := Ground.phase }, { on := 12, ground := Ground.phase }, { on := 13, ground := Ground.phase }, { on := 14, ground := Ground.phase }, { on := 15, ground := Ground.phase }, { on := 16, ground := Ground.phase }, { on := 17, ground := Ground.phase }], guard := none })) (v := ?_) rfl (by kernel_rfl) (by kernel_rfl) (by kernel_rfl) (fun _ _ _ h => h) (Or.inl ⟨by rfl, ?_⟩) (by assumption) ?_
  rotate_left 1
  · (intro w9 hSw; (try dsimp only at hSw); go_simp; try with_reducible rfl)
  try simp only [Act.put, List.setIfInBounds_toArray, List.set_cons_zero, List.set_cons_succ]
  refine wpAnyH_done (by kernel_rfl) ?_ _
  go_wp2_with fail
  refine bodyPost_ret (results_giv rfl _ h9 rfl rfl) rfl ⟨rfl, ?_⟩
  exact fr_set (fr_new HF3.out (fr_new hb7 hb9)) k9 HQ.out.1
set_option maxHeartbeats 4000000 in
set_option maxRecDepth 100000 in
theorem gv_f11_false (h : Mp w m mv S) (hS : MOk S) (hc : CalOk c) (hx : 0 ≤ x ∧ x < 18446744073709551616) (hv : ¬ 13 < c.verb) (hv1 : (c.verb != 11) = false) (cm : comes S.e x = true) (htab : Lib.TabIs Tryd.prog w "internal/strconv.uint64pow10" .u64 Lib.pow10Tab) (HA : Hid (AskOk (askOf S c x))) (nv : Nat) (hnv : c.verb = nv) (hn13 : nv ≤ 13) {g : Giv} (hg : gvOf (askOf S c x) = some g) (hs : (mlook S.L c.key).isSome = false) : Calls Tryd.prog 36 #[.pointer (some ⟨m, 0, none⟩), .agg (calC c).toArray, .int .u64 x] w (GivP w (some g)) := by
  obtain ⟨y, hy⟩ : ∃ y, (mlook S.L c.key).getD Itm.none = y := ⟨_, rfl⟩
  have hask : askOf S c x = ⟨c, x, y, false, false, S.i⟩ := by simp [askOf, hy, hs]
  have HL : Hid (∀ X, Mp X m mv S → (Instr.lookup 55 (.map mv) (.string c.key) true).run Tryd.prog X = .ok (.tuple #[.agg #[.string y.k, .string y.v, .int .u32 y.fl, .int .u64 y.id, .int .i64 y.dies, .int .i64 y.gen], .bool false]) X) := Lib.hid fun X hX => by
    have := hX.look hc.key
    unfold lkV itV at this
    rw [hy, hs] at this
    exact this
  have HASK := Lib.hid hask
  have HG := Lib.hid hg
  have x0 := hx.1
  have x1 := hx.2
  clear hs hy hask hg
  have H := Lib.hid h
  have HS := Lib.hid hS
  have HC := Lib.hid hc
  have HX := Lib.hid hx
  have v0 := hc.verb.1
  have HT := Lib.hid htab
  have HNV := Lib.hid hnv
  clear h hS hc hx htab hnv
  go_enter Tryd.func36, Tryd.ntmps36
  go_wp2_with (first
    | (with_reducible refine at_wp ?_; refine wpList_box_bk rfl 35 (.tmp 1) rfl (calC c) rfl ?_; intro W1 q1 h1)
    | (with_reducible refine at_wp ?_; refine wpList_alloc_bk rfl 83 (givC Giv.none) alloc_giv rfl ?_; intro W2 q2 h2; obtain ⟨c0, c1, c2, c3, c4, c5, c6⟩ := call_cells (h1.bk.new h2.below))
    | (go_at_call 27; refine (okcw _ _ HC.out.key).mono ?_; rintro e W3 ⟨rfl, rfl⟩; rw [ok])
    | (go_at_call 47; refine (maycw m mv S x _ (H.out.new (fr_new h1.below h2.below)).bk HS.out.e HX.out).mono ?_; rintro e W3 ⟨rfl, b3⟩; rw [cm]))
  have HB1 := Lib.hid (h1.bk.new (fr_new h2.below b3))
  have HF3 := Lib.hid (fr_new (fr_new h1.below h2.below) b3)
  have HM1 := Lib.hid (H.out.new HF3.out)
  have HG2 := Lib.hid (h2.bk.new b3)
  have HQ := Lib.hid (show w.heap.size ≤ q2 ∧ q1 ≠ q2 ∧ q2 < W3.heap.size by have e0 := h1.bk.lt; have e1 := h2.at h1.below; have e2 := h2.eq; have e3 := h2.bk.lt; have e4 := b3.size; omega)
  have hd3 : Below W3.heap.size W3 W3.drew := (Below.refl _ _).drew
  have KEEP : Hid (∀ X, Keeps (fun k => k = q2 ∨ W3.heap.size ≤ k) W3 X → Mp X m mv S ∧ X.cell? ⟨m, 0, none⟩ = some (.map mv) ∧ X.cell? ⟨m, 2, none⟩ = some (.int .u64 S.i) ∧ X.cell? ⟨q1, 0, none⟩ = some (.int .u8 c.verb) ∧ X.cell? ⟨q1, 1, none⟩ = some (.string c.key) ∧ X.cell? ⟨q1, 2, none⟩ = some (.string c.val) ∧ X.cell? ⟨q1, 3, none⟩ = some (.int .u32 c.fl) ∧ X.cell? ⟨q1, 4, none⟩ = some (.int .i64 c.exp) ∧ X.cell? ⟨q1, 5, none⟩ = some (.int .u64 c.id) ∧ X.cell? ⟨q1, 6, none⟩ = some (.int .u64 c.by_)) := Lib.hid fun X hb => by
    have hm := HM1.out.keep hb (fun k hk => by have e1 := H.out.lts k hk; have e2 := HF3.out.size; have e3 := HQ.out; omega)
    exact ⟨hm, hm.bk.at_ 0 _ rfl, hm.bk.at_ 2 _ rfl, call_cells (HB1.out.keep hb (by have e1 := HB1.out.lt; have e3 := HQ.out; omega))⟩
  clear c0 c1 c2 c3 c4 c5 c6
  refine wp_region_held_drew (S := fun X => Mp X m mv S ∧ X.cell? ⟨m, 0, none⟩ = some (.map mv) ∧ X.cell? ⟨m, 2, none⟩ = some (.int .u64 S.i) ∧ X.cell? ⟨q1, 0, none⟩ = some (.int .u8 c.verb) ∧ X.cell? ⟨q1, 1, none⟩ = some (.string c.key) ∧ X.cell? ⟨q1, 2, none⟩ = some (.string c.val) ∧ X.cell? ⟨q1, 3, none⟩ = some (.int .u32 c.fl) ∧ X.cell? ⟨q1, 4, none⟩ = some (.int .i64 c.exp) ∧ X.cell? ⟨q1, 5, none⟩ = some (.int .u64 c.id) ∧ X.cell? ⟨q1, 6, none⟩ = some (.int .u64 c.by_)) (by kernel_rfl) (KEEP.out _ (kq hd3)) (fun hHeld => ?_)
  refine wpAnyH_take (i := 1) (oi := ({ dst := some 33, op := Op.fieldAddr 35 (Operand.tmp 4) 0, type := 0, pos := "maps.go:185", after := #[], guard := none })) (v := ?_) rfl (by kernel_rfl) (by kernel_rfl) (by kernel_rfl) (fun _ _ _ h => h) (Or.inl ⟨by rfl, ?_⟩) (by assumption) ?_
  rotate_left 1
  · (intro w9 hSw; (try dsimp only at hSw); go_simp; try with_reducible rfl)
  try simp only [Act.put, List.setIfInBounds_toArray, List.set_cons_zero, List.set_cons_succ]
  refine wpAnyH_take (i := 2) (oi := ({ dst := some 34, op := Op.load 32 (Operand.tmp 33), type := 32, pos := "maps.go:185", after := #[{ on := 1, ground := Ground.data }], guard := none })) (v := ?_) rfl (by kernel_rfl) (by kernel_rfl) (by kernel_rfl) (fun _ _ _ h => h) (Or.inl ⟨by rfl, ?_⟩) (by assumption) ?_
  rotate_left 1
  · (intro w9 hSw; (try dsimp only at hSw); go_simp; try with_reducible rfl)
  try simp only [Act.put, List.setIfInBounds_toArray, List.set_cons_zero, List.set_cons_succ]
  refine wpAnyH_ready (rs := [0]) (by kernel_rfl) (by simp) ?_
  refine AllReadyH.cons (o := ({ dst := some 32, op := Op.call { callee := Callee.value (Operand.func 48), args := #[], argTypes := #[] }, type := 107, pos := "maps.go:185", after := #[], guard := none })) rfl (fun K hK => ?_) AllReadyH.nil
  go_simp
  refine (verbsw _).mono ?_
  rintro e W4 ⟨L, rfl, hV, b4⟩
  have hb4 := fr_new hd3 b4
  obtain ⟨vf, hvf, hok⟩ := vs_at hV (askOf S c x) HA.out (tab_below HT.out (fr_new HF3.out hb4)) nv HNV.out hn13
  have HVL := Lib.hid (And.intro hV.len hvf)
  clear hvf hV
  obtain ⟨f, C, rfl, hcf, hcl⟩ := hok.some HG.out
  rw [HASK.out] at hcl
  have HCL := Lib.hid hcl
  have HCF := Lib.hid hcf
  clear hcl hcf hok
  refine hK.out _ _ (KEEP.out _ (kq hb4)) (fun hHeld => ?_)
  clear hK K
  try simp only [Act.put, List.setIfInBounds_toArray, List.set_cons_zero, List.set_cons_succ]
  refine wpAnyH_take (i := 3) (oi := ({ dst := some 35, op := Op.index 107 (Operand.tmp 32) (Operand.tmp 34), type := 106, pos := "maps.go:185", after := #[{ on := 0, ground := Ground.data }, { on := 2, ground := Ground.data }], guard := none })) (v := (.func (.func f) #[] C)) rfl (by kernel_rfl) (by kernel_rfl) (by kernel_rfl) (fun _ _ _ h => h) (Or.inl ⟨by rfl, ?_⟩) (by assumption) ?_
  · (intro w9 hSw; (try dsimp only at hSw); exact exec_index rfl rfl rfl (idx_run L HVL.out.1 c.verb nv HNV.out _ HVL.out.2 hn13 w9))
  try simp only [Act.put, List.setIfInBounds_toArray, List.set_cons_zero, List.set_cons_succ]
  refine wpAnyH_take (i := 4) (oi := ({ dst := some 8, op := Op.assign (Operand.tmp 35), type := 106, pos := "maps.go:185", after := #[{ on := 3, ground := Ground.data }, { on := 0, ground := Ground.chain }, { on := 0, ground := Ground.phase }, { on := 1, ground := Ground.phase }, { on := 2, ground := Ground.phase }, { on := 3, ground := Ground.phase }], guard := none })) (v := ?_) rfl (by kernel_rfl) (by kernel_rfl) (by kernel_rfl) (fun _ _ _ h => h) (Or.inl ⟨by rfl, ?_⟩) (by assumption) ?_
  rotate_left 1
  · (intro w9 hSw; (try dsimp only at hSw); go_simp; try with_reducible rfl)
  try simp only [Act.put, List.setIfInBounds_toArray, List.set_cons_zero, List.set_cons_succ]
  refine wpAnyH_done (by kernel_rfl) ?_ _
  have hq := func_nil f C
  go_wp2_with fail
  have hb5 : Below W3.heap.size W3 W4.drew := fr_new hb4 (Below.refl _ _).drew
  refine wp_region_held_drew (S := fun X => Mp X m mv S ∧ X.cell? ⟨m, 0, none⟩ = some (.map mv) ∧ X.cell? ⟨m, 2, none⟩ = some (.int .u64 S.i) ∧ X.cell? ⟨q1, 0, none⟩ = some (.int .u8 c.verb) ∧ X.cell? ⟨q1, 1, none⟩ = some (.string c.key) ∧ X.cell? ⟨q1, 2, none⟩ = some (.string c.val) ∧ X.cell? ⟨q1, 3, none⟩ = some (.int .u32 c.fl) ∧ X.cell? ⟨q1, 4, none⟩ = some (.int .i64 c.exp) ∧ X.cell? ⟨q1, 5, none⟩ = some (.int .u64 c.id) ∧ X.cell? ⟨q1, 6, none⟩ = some (.int .u64 c.by_)) (by kernel_rfl) (KEEP.out _ (kq hb5)) (fun hHeld => ?_)
  refine wpAnyH_take (i := 0) (oi := ({ dst := some 40, op := Op.move (Operand.tmp 0), type := 25, pos := "maps.go:189", after := #[], guard := none })) (v := ?_) rfl (by kernel_rfl) (by kernel_rfl) (by kernel_rfl) (fun _ _ _ h => h) (Or.inl ⟨by rfl, ?_⟩) (by assumption) ?_
  rotate_left 1
  · (intro w9 hSw; (try dsimp only at hSw); go_simp; try with_reducible rfl)
  try simp only [Act.put, List.setIfInBounds_toArray, List.set_cons_zero, List.set_cons_succ]
  refine wpAnyH_take (i := 1) (oi := ({ dst := some 41, op := Op.nilCheck (Operand.tmp 40), type := 0, pos := "maps.go:189", after := #[{ on := 0, ground := Ground.data }], guard := none })) (v := ?_) rfl (by kernel_rfl) (by kernel_rfl) (by kernel_rfl) (fun _ _ _ h => h) (Or.inl ⟨by rfl, ?_⟩) (by assumption) ?_
  rotate_left 1
  · (intro w9 hSw; (try dsimp only at hSw); go_simp; try with_reducible rfl)
  try simp only [Act.put, List.setIfInBounds_toArray, List.set_cons_zero, List.set_cons_succ]
  refine wpAnyH_take (i := 2) (oi := ({ dst := some 42, op := Op.fieldAddr 57 (Operand.tmp 41) 0, type := 0, pos := "maps.go:189", after := #[{ on := 1, ground := Ground.data }], guard := none })) (v := ?_) rfl (by kernel_rfl) (by kernel_rfl) (by kernel_rfl) (fun _ _ _ h => h) (Or.inl ⟨by rfl, ?_⟩) (by assumption) ?_
  rotate_left 1
  · (intro w9 hSw; (try dsimp only at hSw); go_simp; try with_reducible rfl)
  try simp only [Act.put, List.setIfInBounds_toArray, List.set_cons_zero, List.set_cons_succ]
  refine wpAnyH_take (i := 3) (oi := ({ dst := some 43, op := Op.load 55 (Operand.tmp 42), type := 55, pos := "maps.go:189", after := #[{ on := 2, ground := Ground.data }], guard := none })) (v := ?_) rfl (by kernel_rfl) (by kernel_rfl) (by kernel_rfl) (fun _ _ _ h => h) (Or.inl ⟨by rfl, ?_⟩) (by assumption) ?_
  rotate_left 1
  · (intro w9 hSw; (try dsimp only at hSw); go_simp; try with_reducible rfl)
  try simp only [Act.put, List.setIfInBounds_toArray, List.set_cons_zero, List.set_cons_succ]
  refine wpAnyH_take (i := 4) (oi := ({ dst := some 44, op := Op.fieldAddr 35 (Operand.tmp 4) 1, type := 0, pos := "maps.go:189", after := #[], guard := none })) (v := ?_) rfl (by kernel_rfl) (by kernel_rfl) (by kernel_rfl) (fun _ _ _ h => h) (Or.inl ⟨by rfl, ?_⟩) (by assumption) ?_
  rotate_left 1
  · (intro w9 hSw; (try dsimp only at hSw); go_simp; try with_reducible rfl)
  try simp only [Act.put, List.setIfInBounds_toArray, List.set_cons_zero, List.set_cons_succ]
  refine wpAnyH_take (i := 5) (oi := ({ dst := some 45, op := Op.load 9 (Operand.tmp 44), type := 9, pos := "maps.go:189", after := #[{ on := 4, ground := Ground.data }], guard := none })) (v := ?_) rfl (by kernel_rfl) (by kernel_rfl) (by kernel_rfl) (fun _ _ _ h => h) (Or.inl ⟨by rfl, ?_⟩) (by assumption) ?_
  rotate_left 1
  · (intro w9 hSw; (try dsimp only at hSw); go_simp; try with_reducible rfl)
  try simp only [Act.put, List.setIfInBounds_toArray, List.set_cons_zero, List.set_cons_succ]
  refine wpAnyH_take (i := 6) (oi := ({ dst := some 46, op := Op.lookup 55 (Operand.tmp 43) (Operand.tmp 45) true, type := 47, pos := "maps.go:189", after := #[{ on := 3, ground := Ground.data }, { on := 5, ground := Ground.data }], guard := none })) (v := (.tuple #[.agg #[.string y.k, .string y.v, .int .u32 y.fl, .int .u64 y.id, .int .i64 y.dies, .int .i64 y.gen], .bool false])) rfl (by kernel_rfl) (by kernel_rfl) (by kernel_rfl) (fun _ _ _ h => h) (Or.inl ⟨by rfl, ?_⟩) (by assumption) ?_
  · (intro w9 hSw; (try dsimp only at hSw); exact exec_lookup rfl rfl rfl (HL.out _ hSw.1))
  try simp only [Act.put, List.setIfInBounds_toArray, List.set_cons_zero, List.set_cons_succ]
  refine wpAnyH_take (i := 7) (oi := ({ dst := some 39, op := Op.move (Operand.tmp 46), type := 47, pos := "maps.go:189", after := #[{ on := 6, ground := Ground.data }], guard := none })) (v := ?_) rfl (by kernel_rfl) (by kernel_rfl) (by kernel_rfl) (fun _ _ _ h => h) (Or.inl ⟨by rfl, ?_⟩) (by assumption) ?_
  rotate_left 1
  · (intro w9 hSw; (try dsimp only at hSw); go_simp; try with_reducible rfl)
  try simp only [Act.put, List.setIfInBounds_toArray, List.set_cons_zero, List.set_cons_succ]
  refine wpAnyH_take (i := 8) (oi := ({ dst := some 47, op := Op.extract (Operand.tmp 39) 0, type := 38, pos := "maps.go:189", after := #[{ on := 7, ground := Ground.data }], guard := none })) (v := ?_) rfl (by kernel_rfl) (by kernel_rfl) (by kernel_rfl) (fun _ _ _ h => h) (Or.inl ⟨by rfl, ?_⟩) (by assumption) ?_
  rotate_left 1
  · (intro w9 hSw; (try dsimp only at hSw); go_simp; try with_reducible rfl)
  try simp only [Act.put, List.setIfInBounds_toArray, List.set_cons_zero, List.set_cons_succ]
  refine wpAnyH_take (i := 9) (oi := ({ dst := some 48, op := Op.extract (Operand.tmp 39) 1, type := 4, pos := "maps.go:189", after := #[{ on := 7, ground := Ground.data }, { on := 11, ground := Ground.gcOnly Departure.lateStores }], guard := none })) (v := ?_) rfl (by kernel_rfl) (by kernel_rfl) (by kernel_rfl) (fun _ _ _ h => h) (Or.inl ⟨by rfl, ?_⟩) (by assumption) ?_
  rotate_left 1
  · (intro w9 hSw; (try dsimp only at hSw); go_simp; try with_reducible rfl)
  try simp only [Act.put, List.setIfInBounds_toArray, List.set_cons_zero, List.set_cons_succ]
  refine wpAnyH_ready (rs := [10]) (by kernel_rfl) (by simp) ?_
  refine AllReadyH.cons (o := ({ dst := some 9, op := Op.alloc 38, type := 0, pos := "maps.go:189", after := #[], guard := none })) rfl (fun K hK => ?_) AllReadyH.nil
  refine step_alloc_bk rfl 38 (itC Itm.none) alloc_it rfl ?_
  intro W5 q5 h5
  have hb6 := fr_new hb5 h5.below
  refine hK.out _ _ (KEEP.out _ (kq hb6)) (fun hHeld => ?_)
  clear hK K
  try simp only [Act.put, List.setIfInBounds_toArray, List.set_cons_zero, List.set_cons_succ]
  refine wpAnyH_ready (rs := [11]) (by kernel_rfl) (by simp) ?_
  refine AllReadyH.cons (o := ({ dst := none, op := Op.store 38 (Operand.tmp 9) (Operand.tmp 47), type := 0, pos := "maps.go:189", after := #[{ on := 10, ground := Ground.data }, { on := 8, ground := Ground.data }, { on := 0, ground := Ground.phase }, { on := 1, ground := Ground.phase }, { on := 2, ground := Ground.phase }, { on := 3, ground := Ground.phase }, { on := 4, ground := Ground.phase }, { on := 5, ground := Ground.phase }, { on := 6, ground := Ground.phase }, { on := 7, ground := Ground.phase }, { on := 8, ground := Ground.phase }, { on := 9, ground := Ground.textOnly Departure.lateStores }, { on := 10, ground := Ground.phase }], guard := none })) rfl (fun K hK => ?_) AllReadyH.nil
  refine step_store_bk rfl 38 (.tmp 9) (.tmp 47) rfl q5 0 (itC Itm.none) (itC y) (itC y) h5.bk (Nat.le_refl 6) rfl info_it (itC_one _) rfl rfl ?_
  intro W6 h6 k6
  have hb7 := fr_set hb6 k6 (h5.at hb5)
  refine hK.out _ _ (KEEP.out _ (kq hb7)) (fun hHeld => ?_)
  clear hK K
  try simp only [Act.put]
  refine wpAnyH_take (i := 12) (oi := ({ dst := some 10, op := Op.assign (Operand.tmp 48), type := 4, pos := "maps.go:189", after := #[{ on := 9, ground := Ground.data }, { on := 11, ground := Ground.chain }, { on := 0, ground := Ground.phase }, { on := 1, ground := Ground.phase }, { on := 2, ground := Ground.phase }, { on := 3, ground := Ground.phase }, { on := 4, ground := Ground.phase }, { on := 5, ground := Ground.phase }, { on := 6, ground := Ground.phase }, { on := 7, ground := Ground.phase }, { on := 8, ground := Ground.phase }, { on := 9, ground := Ground.phase }, { on := 10, ground := Ground.phase }, { on := 11, ground := Ground.phase }], guard := none })) (v := ?_) rfl (by kernel_rfl) (by kernel_rfl) (by kernel_rfl) (fun _ _ _ h => h) (Or.inl ⟨by rfl, ?_⟩) (by assumption) ?_
  rotate_left 1
  · (intro w9 hSw; (try dsimp only at hSw); go_simp; try with_reducible rfl)
  try simp only [Act.put, List.setIfInBounds_toArray, List.set_cons_zero, List.set_cons_succ]
  refine wpAnyH_done (by kernel_rfl) ?_ _
  have HQ5 := Lib.hid (show q5 ≠ q2 ∧ q5 < W6.heap.size by have e1 := h5.at hb5; have e2 := HQ.out; exact ⟨by omega, h6.lt⟩)
  have H6 := Lib.hid h6
  have KEEP7 : Hid (∀ X, Keeps (fun k => k = q2 ∨ W6.heap.size ≤ k) W6 X → Mp X m mv S ∧ X.cell? ⟨m, 0, none⟩ = some (.map mv) ∧ X.cell? ⟨m, 2, none⟩ = some (.int .u64 S.i) ∧ (X.cell? ⟨q1, 0, none⟩ = some (.int .u8 c.verb) ∧ X.cell? ⟨q1, 1, none⟩ = some (.string c.key) ∧ X.cell? ⟨q1, 2, none⟩ = some (.string c.val) ∧ X.cell? ⟨q1, 3, none⟩ = some (.int .u32 c.fl) ∧ X.cell? ⟨q1, 4, none⟩ = some (.int .i64 c.exp) ∧ X.cell? ⟨q1, 5, none⟩ = some (.int .u64 c.id) ∧ X.cell? ⟨q1, 6, none⟩ = some (.int .u64 c.by_)) ∧ X.cell? ⟨q5, 0, none⟩ = some (.string y.k) ∧ X.cell? ⟨q5, 1, none⟩ = some (.string y.v) ∧ X.cell? ⟨q5, 2, none⟩ = some (.int .u32 y.fl) ∧ X.cell? ⟨q5, 3, none⟩ = some (.int .u64 y.id) ∧ X.cell? ⟨q5, 4, none⟩ = some (.int .i64 y.dies) ∧ X.cell? ⟨q5, 5, none⟩ = some (.int .i64 y.gen)) := Lib.hid fun X hb => by
    have e0 := hb7.size
    have hk := (kq (q := q2) hb7).trans hb (fun i hi s => by rcases s with s | s; exact .inl s; omega)
    obtain ⟨a1, a2, a3, a4⟩ := KEEP.out X hk
    exact ⟨a1, a2, a3, a4, it_cells (H6.out.keep hb (by have e3 := HQ5.out; omega))⟩
  clear h6
  have hd6 : Below W6.heap.size W6 W6.drew := (Below.refl _ _).drew
  go_wp2_with fail
  have hfnc := HCF.out
  unfold Fnc at hfnc
  refine wp_region_held_drew (S := fun X => Mp X m mv S ∧ X.cell? ⟨m, 0, none⟩ = some (.map mv) ∧ X.cell? ⟨m, 2, none⟩ = some (.int .u64 S.i) ∧ (X.cell? ⟨q1, 0, none⟩ = some (.int .u8 c.verb) ∧ X.cell? ⟨q1, 1, none⟩ = some (.string c.key) ∧ X.cell? ⟨q1, 2, none⟩ = some (.string c.val) ∧ X.cell? ⟨q1, 3, none⟩ = some (.int .u32 c.fl) ∧ X.cell? ⟨q1, 4, none⟩ = some (.int .i64 c.exp) ∧ X.cell? ⟨q1, 5, none⟩ = some (.int .u64 c.id) ∧ X.cell? ⟨q1, 6, none⟩ = some (.int .u64 c.by_)) ∧ X.cell? ⟨q5, 0, none⟩ = some (.string y.k) ∧ X.cell? ⟨q5, 1, none⟩ = some (.string y.v) ∧ X.cell? ⟨q5, 2, none⟩ = some (.int .u32 y.fl) ∧ X.cell? ⟨q5, 3, none⟩ = some (.int .u64 y.id) ∧ X.cell? ⟨q5, 4, none⟩ = some (.int .i64 y.dies) ∧ X.cell? ⟨q5, 5, none⟩ = some (.int .i64 y.gen)) (by kernel_rfl) (KEEP7.out _ (kq hd6)) (fun hHeld => ?_)
  refine wpAnyH_take (i := 0) (oi := ({ dst := some 49, op := Op.move (Operand.tmp 8), type := 106, pos := "maps.go:190", after := #[], guard := none })) (v := ?_) rfl (by kernel_rfl) (by kernel_rfl) (by kernel_rfl) (fun _ _ _ h => h) (Or.inl ⟨by rfl, ?_⟩) (by assumption) ?_
  rotate_left 1
  · (intro w9 hSw; (try dsimp only at hSw); go_simp; try with_reducible rfl)
  try simp only [Act.put, List.setIfInBounds_toArray, List.set_cons_zero, List.set_cons_succ]
  refine wpAnyH_take (i := 1) (oi := ({ dst := some 50, op := Op.load 35 (Operand.tmp 4), type := 35, pos := "maps.go:190", after := #[], guard := none })) (v := ?_) rfl (by kernel_rfl) (by kernel_rfl) (by kernel_rfl) (fun _ _ _ h => h) (Or.inl ⟨by rfl, ?_⟩) (by assumption) ?_
  rotate_left 1
  · (intro w9 hSw; (try dsimp only at hSw); go_simp; try with_reducible rfl)
  try simp only [Act.put, List.setIfInBounds_toArray, List.set_cons_zero, List.set_cons_succ]
  refine wpAnyH_take (i := 2) (oi := ({ dst := some 51, op := Op.move (Operand.tmp 2), type := 29, pos := "maps.go:190", after := #[], guard := none })) (v := ?_) rfl (by kernel_rfl) (by kernel_rfl) (by kernel_rfl) (fun _ _ _ h => h) (Or.inl ⟨by rfl, ?_⟩) (by assumption) ?_
  rotate_left 1
  · (intro w9 hSw; (try dsimp only at hSw); go_simp; try with_reducible rfl)
  try simp only [Act.put, List.setIfInBounds_toArray, List.set_cons_zero, List.set_cons_succ]
  refine wpAnyH_take (i := 3) (oi := ({ dst := some 52, op := Op.load 38 (Operand.tmp 9), type := 38, pos := "maps.go:190", after := #[], guard := none })) (v := ?_) rfl (by kernel_rfl) (by kernel_rfl) (by kernel_rfl) (fun _ _ _ h => h) (Or.inl ⟨by rfl, ?_⟩) (by assumption) ?_
  rotate_left 1
  · (intro w9 hSw; (try dsimp only at hSw); go_simp; try with_reducible rfl)
  try simp only [Act.put, List.setIfInBounds_toArray, List.set_cons_zero, List.set_cons_succ]
  refine wpAnyH_take (i := 4) (oi := ({ dst := some 53, op := Op.move (Operand.tmp 10), type := 4, pos := "maps.go:190", after := #[], guard := none })) (v := ?_) rfl (by kernel_rfl) (by kernel_rfl) (by kernel_rfl) (fun _ _ _ h => h) (Or.inl ⟨by rfl, ?_⟩) (by assumption) ?_
  rotate_left 1
  · (intro w9 hSw; (try dsimp only at hSw); go_simp; try with_reducible rfl)
  try simp only [Act.put, List.setIfInBounds_toArray, List.set_cons_zero, List.set_cons_succ]
  refine wpAnyH_take (i := 5) (oi := ({ dst := some 54, op := Op.move (Operand.tmp 10), type := 4, pos := "maps.go:190", after := #[], guard := none })) (v := ?_) rfl (by kernel_rfl) (by kernel_rfl) (by kernel_rfl) (fun _ _ _ h => h) (Or.inl ⟨by rfl, ?_⟩) (by assumption) ?_
  rotate_left 1
  · (intro w9 hSw; (try dsimp only at hSw); go_simp; try with_reducible rfl)
  try simp only [Act.put, List.setIfInBounds_toArray, List.set_cons_zero, List.set_cons_succ]
  refine wpAnyH_take (i := 6) (oi := ({ dst := some 55, op := Op.move (Operand.tmp 54), type := 4, pos := "maps.go:190", after := #[{ on := 5, ground := Ground.data }], guard := none })) (v := ?_) rfl (by kernel_rfl) (by kernel_rfl) (by kernel_rfl) (fun _ _ _ h => h) (Or.inl ⟨by rfl, ?_⟩) (by assumption) ?_
  rotate_left 1
  · (intro w9 hSw; (try dsimp only at hSw); go_simp; try with_reducible rfl)
  try simp only [Act.put, List.setIfInBounds_toArray, List.set_cons_zero, List.set_cons_succ]
  refine wpAnyH_take (i := 7) (oi := ({ dst := some 56, op := Op.load 38 (Operand.tmp 9), type := 38, pos := "maps.go:190", after := #[{ on := 6, ground := Ground.guard }], guard := some (6, true) })) (v := undef) rfl (by kernel_rfl) (by kernel_rfl) (by kernel_rfl) (fun _ _ _ h => h) (Or.inr ⟨by rfl, rfl⟩) (by assumption) ?_
  try simp only [Act.put, List.setIfInBounds_toArray, List.set_cons_zero, List.set_cons_succ]
  refine wpAnyH_take (i := 8) (oi := ({ dst := some 57, op := Op.move (Operand.tmp 2), type := 29, pos := "maps.go:190", after := #[{ on := 6, ground := Ground.guard }], guard := some (6, true) })) (v := undef) rfl (by kernel_rfl) (by kernel_rfl) (by kernel_rfl) (fun _ _ _ h => h) (Or.inr ⟨by rfl, rfl⟩) (by assumption) ?_
  try simp only [Act.put, List.setIfInBounds_toArray, List.set_cons_zero, List.set_cons_succ]
  refine wpAnyH_take (i := 9) (oi := ({ dst := some 58, op := Op.call { callee := Callee.value (Operand.func 30), args := #[Operand.tmp 56, Operand.tmp 57], argTypes := #[38, 29] }, type := 4, pos := "maps.go:190", after := #[{ on := 7, ground := Ground.data }, { on := 8, ground := Ground.data }, { on := 6, ground := Ground.chain }, { on := 6, ground := Ground.guard }], guard := some (6, true) })) (v := undef) rfl (by kernel_rfl) (by kernel_rfl) (by kernel_rfl) (fun _ _ _ h => h) (Or.inr ⟨by rfl, rfl⟩) (by assumption) ?_
  try simp only [Act.put, List.setIfInBounds_toArray, List.set_cons_zero, List.set_cons_succ]
  refine wpAnyH_take (i := 10) (oi := ({ dst := some 59, op := Op.pick (Operand.tmp 55) (Operand.tmp 58) (Operand.const (Value.bool false)), type := 4, pos := "maps.go:190", after := #[{ on := 6, ground := Ground.data }, { on := 9, ground := Ground.data }], guard := none })) (v := ?_) rfl (by kernel_rfl) (by kernel_rfl) (by kernel_rfl) (fun _ _ _ h => h) (Or.inl ⟨by rfl, ?_⟩) (by assumption) ?_
  rotate_left 1
  · (intro w9 hSw; (try dsimp only at hSw); go_simp; try with_reducible rfl)
  try simp only [Act.put, List.setIfInBounds_toArray, List.set_cons_zero, List.set_cons_succ]
  refine wpAnyH_take (i := 11) (oi := ({ dst := some 60, op := Op.move (Operand.tmp 0), type := 25, pos := "maps.go:190", after := #[], guard := none })) (v := ?_) rfl (by kernel_rfl) (by kernel_rfl) (by kernel_rfl) (fun _ _ _ h => h) (Or.inl ⟨by rfl, ?_⟩) (by assumption) ?_
  rotate_left 1
  · (intro w9 hSw; (try dsimp only at hSw); go_simp; try with_reducible rfl)
  try simp only [Act.put, List.setIfInBounds_toArray, List.set_cons_zero, List.set_cons_succ]
  refine wpAnyH_take (i := 12) (oi := ({ dst := some 61, op := Op.nilCheck (Operand.tmp 60), type := 0, pos := "maps.go:190", after := #[{ on := 11, ground := Ground.data }], guard := none })) (v := ?_) rfl (by kernel_rfl) (by kernel_rfl) (by kernel_rfl) (fun _ _ _ h => h) (Or.inl ⟨by rfl, ?_⟩) (by assumption) ?_
  rotate_left 1
  · (intro w9 hSw; (try dsimp only at hSw); go_simp; try with_reducible rfl)
  try simp only [Act.put, List.setIfInBounds_toArray, List.set_cons_zero, List.set_cons_succ]
  refine wpAnyH_take (i := 13) (oi := ({ dst := some 62, op := Op.fieldAddr 57 (Operand.tmp 61) 2, type := 0, pos := "maps.go:190", after := #[{ on := 12, ground := Ground.data }], guard := none })) (v := ?_) rfl (by kernel_rfl) (by kernel_rfl) (by kernel_rfl) (fun _ _ _ h => h) (Or.inl ⟨by rfl, ?_⟩) (by assumption) ?_
  rotate_left 1
  · (intro w9 hSw; (try dsimp only at hSw); go_simp; try with_reducible rfl)
  try simp only [Act.put, List.setIfInBounds_toArray, List.set_cons_zero, List.set_cons_succ]
  refine wpAnyH_take (i := 14) (oi := ({ dst := some 63, op := Op.load 29 (Operand.tmp 62), type := 29, pos := "maps.go:190", after := #[{ on := 13, ground := Ground.data }], guard := none })) (v := ?_) rfl (by kernel_rfl) (by kernel_rfl) (by kernel_rfl) (fun _ _ _ h => h) (Or.inl ⟨by rfl, ?_⟩) (by assumption) ?_
  rotate_left 1
  · (intro w9 hSw; (try dsimp only at hSw); go_simp; try with_reducible rfl)
  try simp only [Act.put, List.setIfInBounds_toArray, List.set_cons_zero, List.set_cons_succ]
  refine wpAnyH_take (i := 15) (oi := ({ dst := some 64, op := Op.build 110 #[(0, Operand.tmp 50), (1, Operand.tmp 51), (2, Operand.tmp 52), (3, Operand.tmp 53), (4, Operand.tmp 59), (5, Operand.tmp 63)], type := 110, pos := "maps.go:190", after := #[{ on := 1, ground := Ground.data }, { on := 2, ground := Ground.data }, { on := 3, ground := Ground.data }, { on := 4, ground := Ground.data }, { on := 10, ground := Ground.data }, { on := 14, ground := Ground.data }], guard := none })) (v := ?_) rfl (by kernel_rfl) (by kernel_rfl) (by kernel_rfl) (fun _ _ _ h => h) (Or.inl ⟨by rfl, ?_⟩) (by assumption) ?_
  rotate_left 1
  · (intro w9 hSw; (try dsimp only at hSw); go_simp; try with_reducible rfl)
  try simp only [Act.put, List.setIfInBounds_toArray, List.set_cons_zero, List.set_cons_succ]
  refine wpAnyH_ready (rs := [16]) (by kernel_rfl) (by simp) ?_
  refine AllReadyH.cons (o := ({ dst := some 65, op := Op.call { callee := Callee.value (Operand.tmp 49), args := #[Operand.tmp 64], argTypes := #[110] }, type := 83, pos := "maps.go:190", after := #[{ on := 0, ground := Ground.data }, { on := 15, ground := Ground.data }, { on := 9, ground := Ground.chain }], guard := none })) rfl (fun K hK => ?_) AllReadyH.nil
  go_simp
  refine (HCL.out _ (fr_new (fr_set (fr_new (Below.refl _ _).drew h5.below) k6 (by have e1 := h5.eq; have e2 : W4.drew.heap.size = W4.heap.size := rfl; omega)) hd6)).mono ?_
  rintro e W8 ⟨rfl, b8⟩
  have hb9 := fr_new hd6 b8
  refine hK.out _ _ (KEEP7.out _ (kq hb9)) (fun hHeld => ?_)
  clear hK K
  try simp only [Act.put, List.setIfInBounds_toArray, List.set_cons_zero, List.set_cons_succ]
  refine wpAnyH_ready (rs := [17]) (by kernel_rfl) (by simp) ?_
  refine AllReadyH.cons (o := ({ dst := none, op := Op.store 83 (Operand.tmp 6) (Operand.tmp 65), type := 0, pos := "maps.go:190", after := #[{ on := 16, ground := Ground.data }, { on := 16, ground := Ground.chain }, { on := 0, ground := Ground.phase }, { on := 1, ground := Ground.phase }, { on := 2, ground := Ground.phase }, { on := 3, ground := Ground.phase }, { on := 4, ground := Ground.phase }, { on := 5, ground := Ground.phase }, { on := 6, ground := Ground.phase }, { on := 7, ground := Ground.phase }, { on := 8, ground := Ground.phase }, { on := 9, ground := Ground.phase }, { on := 10, ground := Ground.phase }, { on := 11, ground := Ground.phase }, { on := 12, ground := Ground.phase }, { on := 13, ground := Ground.phase }, { on := 14, ground := Ground.phase }, { on := 15, ground := Ground.phase }, { on := 16, ground := Ground.phase }], guard := none })) rfl (fun K hK => ?_) AllReadyH.nil
  refine step_giv rfl (.tmp 6) (.tmp 65) rfl q2 Giv.none g (HG2.out.new (fr_new hb7 hb9)) rfl rfl ?_
  intro W9 h9 k9
  refine hK.out _ _ (KEEP7.out _ ((kq hb9).trans k9 (fun i hi s => .inl s))) (fun hHeld => ?_)
  clear hK K
  try simp only [Act.put]
  refine wpAnyH_take (i := 18) (oi := ({ dst := some 7, op := Op.assign (Operand.const (Value.bool true)), type := 4, pos := "maps.go:190", after := #[{ on := 17, ground := Ground.chain }, { on := 0, ground := Ground.phase }, { on := 1, ground := Ground.phase }, { on := 2, ground := Ground.phase }, { on := 3, ground := Ground.phase }, { on := 4, ground := Ground.phase }, { on := 5, ground := Ground.phase }, { on := 6, ground := Ground.phase }, { on := 7, ground := Ground.phase }, { on := 8, ground := Ground.phase }, { on := 9, ground := Ground.phase }, { on := 10, ground := Ground.phase }, { on := 11, ground := Ground.phase }, { on := 12, ground := Ground.phase }, { on := 13, ground := Ground.phase }, { on := 14, ground := Ground.phase }, { on := 15, ground := Ground.phase }, { on := 16, ground := Ground.phase }, { on := 17, ground := Ground.phase }], guard := none })) (v := ?_) rfl (by kernel_rfl) (by kernel_rfl) (by kernel_rfl) (fun _ _ _ h => h) (Or.inl ⟨by rfl, ?_⟩) (by assumption) ?_
  rotate_left 1
  · (intro w9 hSw; (try dsimp only at hSw); go_simp; try with_reducible rfl)
  try simp only [Act.put, List.setIfInBounds_toArray, List.set_cons_zero, List.set_cons_succ]
  refine wpAnyH_done (by kernel_rfl) ?_ _
  go_wp2_with fail
  refine bodyPost_ret (results_giv rfl _ h9 rfl rfl) rfl ⟨rfl, ?_⟩
  exact fr_set (fr_new HF3.out (fr_new hb7 hb9)) k9 HQ.out.1
set_option maxHeartbeats 4000000 in
set_option maxRecDepth 100000 in
theorem gv_fk_true (h : Mp w m mv S) (hS : MOk S) (hc : CalOk c) (hx : 0 ≤ x ∧ x < 18446744073709551616) (hv : ¬ 13 < c.verb) (hv1 : (c.verb != 11) = true) (ok : okB c.key = true) (cm : comes S.e x = true) (htab : Lib.TabIs Tryd.prog w "internal/strconv.uint64pow10" .u64 Lib.pow10Tab) (HA : Hid (AskOk (askOf S c x))) (nv : Nat) (hnv : c.verb = nv) (hn13 : nv ≤ 13) {g : Giv} (hg : gvOf (askOf S c x) = some g) (hs : (mlook S.L c.key).isSome = true) : Calls Tryd.prog 36 #[.pointer (some ⟨m, 0, none⟩), .agg (calC c).toArray, .int .u64 x] w (GivP w (some g)) := by
  obtain ⟨y, hy⟩ : ∃ y, (mlook S.L c.key).getD Itm.none = y := ⟨_, rfl⟩
  have hask : askOf S c x = ⟨c, x, y, true, aliveI y x, S.i⟩ := by simp [askOf, hy, hs]
  have HL : Hid (∀ X, Mp X m mv S → (Instr.lookup 55 (.map mv) (.string c.key) true).run Tryd.prog X = .ok (.tuple #[.agg #[.string y.k, .string y.v, .int .u32 y.fl, .int .u64 y.id, .int .i64 y.dies, .int .i64 y.gen], .bool true]) X) := Lib.hid fun X hX => by
    have := hX.look hc.key
    unfold lkV itV at this
    rw [hy, hs] at this
    exact this
  have HASK := Lib.hid hask
  have HG := Lib.hid hg
  have x0 := hx.1
  have x1 := hx.2
  clear hs hy hask hg
  have H := Lib.hid h
  have HS := Lib.hid hS
  have HC := Lib.hid hc
  have HX := Lib.hid hx
  have v0 := hc.verb.1
  have HT := Lib.hid htab
  have HNV := Lib.hid hnv
  clear h hS hc hx htab hnv
  go_enter Tryd.func36, Tryd.ntmps36
  go_wp2_with (first
    | (with_reducible refine at_wp ?_; refine wpList_box_bk rfl 35 (.tmp 1) rfl (calC c) rfl ?_; intro W1 q1 h1)
    | (with_reducible refine at_wp ?_; refine wpList_alloc_bk rfl 83 (givC Giv.none) alloc_giv rfl ?_; intro W2 q2 h2; obtain ⟨c0, c1, c2, c3, c4, c5, c6⟩ := call_cells (h1.bk.new h2.below))
    | (go_at_call 27; refine (okcw _ _ HC.out.key).mono ?_; rintro e W3 ⟨rfl, rfl⟩; rw [ok])
    | (go_at_call 47; refine (maycw m mv S x _ (H.out.new (fr_new h1.below h2.below)).bk HS.out.e HX.out).mono ?_; rintro e W3 ⟨rfl, b3⟩; rw [cm]))
  have HB1 := Lib.hid (h1.bk.new (fr_new h2.below b3))
  have HF3 := Lib.hid (fr_new (fr_new h1.below h2.below) b3)
  have HM1 := Lib.hid (H.out.new HF3.out)
  have HG2 := Lib.hid (h2.bk.new b3)
  have HQ := Lib.hid (show w.heap.size ≤ q2 ∧ q1 ≠ q2 ∧ q2 < W3.heap.size by have e0 := h1.bk.lt; have e1 := h2.at h1.below; have e2 := h2.eq; have e3 := h2.bk.lt; have e4 := b3.size; omega)
  have hd3 : Below W3.heap.size W3 W3.drew := (Below.refl _ _).drew
  have KEEP : Hid (∀ X, Keeps (fun k => k = q2 ∨ W3.heap.size ≤ k) W3 X → Mp X m mv S ∧ X.cell? ⟨m, 0, none⟩ = some (.map mv) ∧ X.cell? ⟨m, 2, none⟩ = some (.int .u64 S.i) ∧ X.cell? ⟨q1, 0, none⟩ = some (.int .u8 c.verb) ∧ X.cell? ⟨q1, 1, none⟩ = some (.string c.key) ∧ X.cell? ⟨q1, 2, none⟩ = some (.string c.val) ∧ X.cell? ⟨q1, 3, none⟩ = some (.int .u32 c.fl) ∧ X.cell? ⟨q1, 4, none⟩ = some (.int .i64 c.exp) ∧ X.cell? ⟨q1, 5, none⟩ = some (.int .u64 c.id) ∧ X.cell? ⟨q1, 6, none⟩ = some (.int .u64 c.by_)) := Lib.hid fun X hb => by
    have hm := HM1.out.keep hb (fun k hk => by have e1 := H.out.lts k hk; have e2 := HF3.out.size; have e3 := HQ.out; omega)
    exact ⟨hm, hm.bk.at_ 0 _ rfl, hm.bk.at_ 2 _ rfl, call_cells (HB1.out.keep hb (by have e1 := HB1.out.lt; have e3 := HQ.out; omega))⟩
  clear c0 c1 c2 c3 c4 c5 c6
  refine wp_region_held_drew (S := fun X => Mp X m mv S ∧ X.cell? ⟨m, 0, none⟩ = some (.map mv) ∧ X.cell? ⟨m, 2, none⟩ = some (.int .u64 S.i) ∧ X.cell? ⟨q1, 0, none⟩ = some (.int .u8 c.verb) ∧ X.cell? ⟨q1, 1, none⟩ = some (.string c.key) ∧ X.cell? ⟨q1, 2, none⟩ = some (.string c.val) ∧ X.cell? ⟨q1, 3, none⟩ = some (.int .u32 c.fl) ∧ X.cell? ⟨q1, 4, none⟩ = some (.int .i64 c.exp) ∧ X.cell? ⟨q1, 5, none⟩ = some (.int .u64 c.id) ∧ X.cell? ⟨q1, 6, none⟩ = some (.int .u64 c.by_)) (by kernel_rfl) (KEEP.out _ (kq hd3)) (fun hHeld => ?_)
  refine wpAnyH_take (i := 1) (oi := ({ dst := some 33, op := Op.fieldAddr 35 (Operand.tmp 4) 0, type := 0, pos := "maps.go:185", after := #[], guard := none })) (v := ?_) rfl (by kernel_rfl) (by kernel_rfl) (by kernel_rfl) (fun _ _ _ h => h) (Or.inl ⟨by rfl, ?_⟩) (by assumption) ?_
  rotate_left 1
  · (intro w9 hSw; (try dsimp only at hSw); go_simp; try with_reducible rfl)
  try simp only [Act.put, List.setIfInBounds_toArray, List.set_cons_zero, List.set_cons_succ]
  refine wpAnyH_take (i := 2) (oi := ({ dst := some 34, op := Op.load 32 (Operand.tmp 33), type := 32, pos := "maps.go:185", after := #[{ on := 1, ground := Ground.data }], guard := none })) (v := ?_) rfl (by kernel_rfl) (by kernel_rfl) (by kernel_rfl) (fun _ _ _ h => h) (Or.inl ⟨by rfl, ?_⟩) (by assumption) ?_
  rotate_left 1
  · (intro w9 hSw; (try dsimp only at hSw); go_simp; try with_reducible rfl)
  try simp only [Act.put, List.setIfInBounds_toArray, List.set_cons_zero, List.set_cons_succ]
  refine wpAnyH_ready (rs := [0]) (by kernel_rfl) (by simp) ?_
  refine AllReadyH.cons (o := ({ dst := some 32, op := Op.call { callee := Callee.value (Operand.func 48), args := #[], argTypes := #[] }, type := 107, pos := "maps.go:185", after := #[], guard := none })) rfl (fun K hK => ?_) AllReadyH.nil
  go_simp
  refine (verbsw _).mono ?_
  rintro e W4 ⟨L, rfl, hV, b4⟩
  have hb4 := fr_new hd3 b4
  obtain ⟨vf, hvf, hok⟩ := vs_at hV (askOf S c x) HA.out (tab_below HT.out (fr_new HF3.out hb4)) nv HNV.out hn13
  have HVL := Lib.hid (And.intro hV.len hvf)
  clear hvf hV
  obtain ⟨f, C, rfl, hcf, hcl⟩ := hok.some HG.out
  rw [HASK.out] at hcl
  have HCL := Lib.hid hcl
  have HCF := Lib.hid hcf
  clear hcl hcf hok
  refine hK.out _ _ (KEEP.out _ (kq hb4)) (fun hHeld => ?_)
  clear hK K
  try simp only [Act.put, List.setIfInBounds_toArray, List.set_cons_zero, List.set_cons_succ]
  refine wpAnyH_take (i := 3) (oi := ({ dst := some 35, op := Op.index 107 (Operand.tmp 32) (Operand.tmp 34), type := 106, pos := "maps.go:185", after := #[{ on := 0, ground := Ground.data }, { on := 2, ground := Ground.data }], guard := none })) (v := (.func (.func f) #[] C)) rfl (by kernel_rfl) (by kernel_rfl) (by kernel_rfl) (fun _ _ _ h => h) (Or.inl ⟨by rfl, ?_⟩) (by assumption) ?_
  · (intro w9 hSw; (try dsimp only at hSw); exact exec_index rfl rfl rfl (idx_run L HVL.out.1 c.verb nv HNV.out _ HVL.out.2 hn13 w9))
  try simp only [Act.put, List.setIfInBounds_toArray, List.set_cons_zero, List.set_cons_succ]
  refine wpAnyH_take (i := 4) (oi := ({ dst := some 8, op := Op.assign (Operand.tmp 35), type := 106, pos := "maps.go:185", after := #[{ on := 3, ground := Ground.data }, { on := 0, ground := Ground.chain }, { on := 0, ground := Ground.phase }, { on := 1, ground := Ground.phase }, { on := 2, ground := Ground.phase }, { on := 3, ground := Ground.phase }], guard := none })) (v := ?_) rfl (by kernel_rfl) (by kernel_rfl) (by kernel_rfl) (fun _ _ _ h => h) (Or.inl ⟨by rfl, ?_⟩) (by assumption) ?_
  rotate_left 1
  · (intro w9 hSw; (try dsimp only at hSw); go_simp; try with_reducible rfl)
  try simp only [Act.put, List.setIfInBounds_toArray, List.set_cons_zero, List.set_cons_succ]
  refine wpAnyH_done (by kernel_rfl) ?_ _
  have hq := func_nil f C
  go_wp2_with fail
  have hb5 : Below W3.heap.size W3 W4.drew := fr_new hb4 (Below.refl _ _).drew
  refine wp_region_held_drew (S := fun X => Mp X m mv S ∧ X.cell? ⟨m, 0, none⟩ = some (.map mv) ∧ X.cell? ⟨m, 2, none⟩ = some (.int .u64 S.i) ∧ X.cell? ⟨q1, 0, none⟩ = some (.int .u8 c.verb) ∧ X.cell? ⟨q1, 1, none⟩ = some (.string c.key) ∧ X.cell? ⟨q1, 2, none⟩ = some (.string c.val) ∧ X.cell? ⟨q1, 3, none⟩ = some (.int .u32 c.fl) ∧ X.cell? ⟨q1, 4, none⟩ = some (.int .i64 c.exp) ∧ X.cell? ⟨q1, 5, none⟩ = some (.int .u64 c.id) ∧ X.cell? ⟨q1, 6, none⟩ = some (.int .u64 c.by_)) (by kernel_rfl) (KEEP.out _ (kq hb5)) (fun hHeld => ?_)
  refine wpAnyH_take (i := 0) (oi := ({ dst := some 40, op := Op.move (Operand.tmp 0), type := 25, pos := "maps.go:189", after := #[], guard := none })) (v := ?_) rfl (by kernel_rfl) (by kernel_rfl) (by kernel_rfl) (fun _ _ _ h => h) (Or.inl ⟨by rfl, ?_⟩) (by assumption) ?_
  rotate_left 1
  · (intro w9 hSw; (try dsimp only at hSw); go_simp; try with_reducible rfl)
  try simp only [Act.put, List.setIfInBounds_toArray, List.set_cons_zero, List.set_cons_succ]
  refine wpAnyH_take (i := 1) (oi := ({ dst := some 41, op := Op.nilCheck (Operand.tmp 40), type := 0, pos := "maps.go:189", after := #[{ on := 0, ground := Ground.data }], guard := none })) (v := ?_) rfl (by kernel_rfl) (by kernel_rfl) (by kernel_rfl) (fun _ _ _ h => h) (Or.inl ⟨by rfl, ?_⟩) (by assumption) ?_
  rotate_left 1
  · (intro w9 hSw; (try dsimp only at hSw); go_simp; try with_reducible rfl)
  try simp only [Act.put, List.setIfInBounds_toArray, List.set_cons_zero, List.set_cons_succ]
  refine wpAnyH_take (i := 2) (oi := ({ dst := some 42, op := Op.fieldAddr 57 (Operand.tmp 41) 0, type := 0, pos := "maps.go:189", after := #[{ on := 1, ground := Ground.data }], guard := none })) (v := ?_) rfl (by kernel_rfl) (by kernel_rfl) (by kernel_rfl) (fun _ _ _ h => h) (Or.inl ⟨by rfl, ?_⟩) (by assumption) ?_
  rotate_left 1
  · (intro w9 hSw; (try dsimp only at hSw); go_simp; try with_reducible rfl)
  try simp only [Act.put, List.setIfInBounds_toArray, List.set_cons_zero, List.set_cons_succ]
  refine wpAnyH_take (i := 3) (oi := ({ dst := some 43, op := Op.load 55 (Operand.tmp 42), type := 55, pos := "maps.go:189", after := #[{ on := 2, ground := Ground.data }], guard := none })) (v := ?_) rfl (by kernel_rfl) (by kernel_rfl) (by kernel_rfl) (fun _ _ _ h => h) (Or.inl ⟨by rfl, ?_⟩) (by assumption) ?_
  rotate_left 1
  · (intro w9 hSw; (try dsimp only at hSw); go_simp; try with_reducible rfl)
  try simp only [Act.put, List.setIfInBounds_toArray, List.set_cons_zero, List.set_cons_succ]
  refine wpAnyH_take (i := 4) (oi := ({ dst := some 44, op := Op.fieldAddr 35 (Operand.tmp 4) 1, type := 0, pos := "maps.go:189", after := #[], guard := none })) (v := ?_) rfl (by kernel_rfl) (by kernel_rfl) (by kernel_rfl) (fun _ _ _ h => h) (Or.inl ⟨by rfl, ?_⟩) (by assumption) ?_
  rotate_left 1
  · (intro w9 hSw; (try dsimp only at hSw); go_simp; try with_reducible rfl)
  try simp only [Act.put, List.setIfInBounds_toArray, List.set_cons_zero, List.set_cons_succ]
  refine wpAnyH_take (i := 5) (oi := ({ dst := some 45, op := Op.load 9 (Operand.tmp 44), type := 9, pos := "maps.go:189", after := #[{ on := 4, ground := Ground.data }], guard := none })) (v := ?_) rfl (by kernel_rfl) (by kernel_rfl) (by kernel_rfl) (fun _ _ _ h => h) (Or.inl ⟨by rfl, ?_⟩) (by assumption) ?_
  rotate_left 1
  · (intro w9 hSw; (try dsimp only at hSw); go_simp; try with_reducible rfl)
  try simp only [Act.put, List.setIfInBounds_toArray, List.set_cons_zero, List.set_cons_succ]
  refine wpAnyH_take (i := 6) (oi := ({ dst := some 46, op := Op.lookup 55 (Operand.tmp 43) (Operand.tmp 45) true, type := 47, pos := "maps.go:189", after := #[{ on := 3, ground := Ground.data }, { on := 5, ground := Ground.data }], guard := none })) (v := (.tuple #[.agg #[.string y.k, .string y.v, .int .u32 y.fl, .int .u64 y.id, .int .i64 y.dies, .int .i64 y.gen], .bool true])) rfl (by kernel_rfl) (by kernel_rfl) (by kernel_rfl) (fun _ _ _ h => h) (Or.inl ⟨by rfl, ?_⟩) (by assumption) ?_
  · (intro w9 hSw; (try dsimp only at hSw); exact exec_lookup rfl rfl rfl (HL.out _ hSw.1))
  try simp only [Act.put, List.setIfInBounds_toArray, List.set_cons_zero, List.set_cons_succ]
  refine wpAnyH_take (i := 7) (oi := ({ dst := some 39, op := Op.move (Operand.tmp 46), type := 47, pos := "maps.go:189", after := #[{ on := 6, ground := Ground.data }], guard := none })) (v := ?_) rfl (by kernel_rfl) (by kernel_rfl) (by kernel_rfl) (fun _ _ _ h => h) (Or.inl ⟨by rfl, ?_⟩) (by assumption) ?_
  rotate_left 1
  · (intro w9 hSw; (try dsimp only at hSw); go_simp; try with_reducible rfl)
  try simp only [Act.put, List.setIfInBounds_toArray, List.set_cons_zero, List.set_cons_succ]
  refine wpAnyH_take (i := 8) (oi := ({ dst := some 47, op := Op.extract (Operand.tmp 39) 0, type := 38, pos := "maps.go:189", after := #[{ on := 7, ground := Ground.data }], guard := none })) (v := ?_) rfl (by kernel_rfl) (by kernel_rfl) (by kernel_rfl) (fun _ _ _ h => h) (Or.inl ⟨by rfl, ?_⟩) (by assumption) ?_
  rotate_left 1
  · (intro w9 hSw; (try dsimp only at hSw); go_simp; try with_reducible rfl)
  try simp only [Act.put, List.setIfInBounds_toArray, List.set_cons_zero, List.set_cons_succ]
  refine wpAnyH_take (i := 9) (oi := ({ dst := some 48, op := Op.extract (Operand.tmp 39) 1, type := 4, pos := "maps.go:189", after := #[{ on := 7, ground := Ground.data }, { on := 11, ground := Ground.gcOnly Departure.lateStores }], guard := none })) (v := ?_) rfl (by kernel_rfl) (by kernel_rfl) (by kernel_rfl) (fun _ _ _ h => h) (Or.inl ⟨by rfl, ?_⟩) (by assumption) ?_
  rotate_left 1
  · (intro w9 hSw; (try dsimp only at hSw); go_simp; try with_reducible rfl)
  try simp only [Act.put, List.setIfInBounds_toArray, List.set_cons_zero, List.set_cons_succ]
  refine wpAnyH_ready (rs := [10]) (by kernel_rfl) (by simp) ?_
  refine AllReadyH.cons (o := ({ dst := some 9, op := Op.alloc 38, type := 0, pos := "maps.go:189", after := #[], guard := none })) rfl (fun K hK => ?_) AllReadyH.nil
  refine step_alloc_bk rfl 38 (itC Itm.none) alloc_it rfl ?_
  intro W5 q5 h5
  have hb6 := fr_new hb5 h5.below
  refine hK.out _ _ (KEEP.out _ (kq hb6)) (fun hHeld => ?_)
  clear hK K
  try simp only [Act.put, List.setIfInBounds_toArray, List.set_cons_zero, List.set_cons_succ]
  refine wpAnyH_ready (rs := [11]) (by kernel_rfl) (by simp) ?_
  refine AllReadyH.cons (o := ({ dst := none, op := Op.store 38 (Operand.tmp 9) (Operand.tmp 47), type := 0, pos := "maps.go:189", after := #[{ on := 10, ground := Ground.data }, { on := 8, ground := Ground.data }, { on := 0, ground := Ground.phase }, { on := 1, ground := Ground.phase }, { on := 2, ground := Ground.phase }, { on := 3, ground := Ground.phase }, { on := 4, ground := Ground.phase }, { on := 5, ground := Ground.phase }, { on := 6, ground := Ground.phase }, { on := 7, ground := Ground.phase }, { on := 8, ground := Ground.phase }, { on := 9, ground := Ground.textOnly Departure.lateStores }, { on := 10, ground := Ground.phase }], guard := none })) rfl (fun K hK => ?_) AllReadyH.nil
  refine step_store_bk rfl 38 (.tmp 9) (.tmp 47) rfl q5 0 (itC Itm.none) (itC y) (itC y) h5.bk (Nat.le_refl 6) rfl info_it (itC_one _) rfl rfl ?_
  intro W6 h6 k6
  have hb7 := fr_set hb6 k6 (h5.at hb5)
  refine hK.out _ _ (KEEP.out _ (kq hb7)) (fun hHeld => ?_)
  clear hK K
  try simp only [Act.put]
  refine wpAnyH_take (i := 12) (oi := ({ dst := some 10, op := Op.assign (Operand.tmp 48), type := 4, pos := "maps.go:189", after := #[{ on := 9, ground := Ground.data }, { on := 11, ground := Ground.chain }, { on := 0, ground := Ground.phase }, { on := 1, ground := Ground.phase }, { on := 2, ground := Ground.phase }, { on := 3, ground := Ground.phase }, { on := 4, ground := Ground.phase }, { on := 5, ground := Ground.phase }, { on := 6, ground := Ground.phase }, { on := 7, ground := Ground.phase }, { on := 8, ground := Ground.phase }, { on := 9, ground := Ground.phase }, { on := 10, ground := Ground.phase }, { on := 11, ground := Ground.phase }], guard := none })) (v := ?_) rfl (by kernel_rfl) (by kernel_rfl) (by kernel_rfl) (fun _ _ _ h => h) (Or.inl ⟨by rfl, ?_⟩) (by assumption) ?_
  rotate_left 1
  · (intro w9 hSw; (try dsimp only at hSw); go_simp; try with_reducible rfl)
  try simp only [Act.put, List.setIfInBounds_toArray, List.set_cons_zero, List.set_cons_succ]
  refine wpAnyH_done (by kernel_rfl) ?_ _
  have HQ5 := Lib.hid (show q5 ≠ q2 ∧ q5 < W6.heap.size by have e1 := h5.at hb5; have e2 := HQ.out; exact ⟨by omega, h6.lt⟩)
  have H6 := Lib.hid h6
  have KEEP7 : Hid (∀ X, Keeps (fun k => k = q2 ∨ W6.heap.size ≤ k) W6 X → Mp X m mv S ∧ X.cell? ⟨m, 0, none⟩ = some (.map mv) ∧ X.cell? ⟨m, 2, none⟩ = some (.int .u64 S.i) ∧ (X.cell? ⟨q1, 0, none⟩ = some (.int .u8 c.verb) ∧ X.cell? ⟨q1, 1, none⟩ = some (.string c.key) ∧ X.cell? ⟨q1, 2, none⟩ = some (.string c.val) ∧ X.cell? ⟨q1, 3, none⟩ = some (.int .u32 c.fl) ∧ X.cell? ⟨q1, 4, none⟩ = some (.int .i64 c.exp) ∧ X.cell? ⟨q1, 5, none⟩ = some (.int .u64 c.id) ∧ X.cell? ⟨q1, 6, none⟩ = some (.int .u64 c.by_)) ∧ X.cell? ⟨q5, 0, none⟩ = some (.string y.k) ∧ X.cell? ⟨q5, 1, none⟩ = some (.string y.v) ∧ X.cell? ⟨q5, 2, none⟩ = some (.int .u32 y.fl) ∧ X.cell? ⟨q5, 3, none⟩ = some (.int .u64 y.id) ∧ X.cell? ⟨q5, 4, none⟩ = some (.int .i64 y.dies) ∧ X.cell? ⟨q5, 5, none⟩ = some (.int .i64 y.gen)) := Lib.hid fun X hb => by
    have e0 := hb7.size
    have hk := (kq (q := q2) hb7).trans hb (fun i hi s => by rcases s with s | s; exact .inl s; omega)
    obtain ⟨a1, a2, a3, a4⟩ := KEEP.out X hk
    exact ⟨a1, a2, a3, a4, it_cells (H6.out.keep hb (by have e3 := HQ5.out; omega))⟩
  clear h6
  have hd6 : Below W6.heap.size W6 W6.drew := (Below.refl _ _).drew
  go_wp2_with fail
  have hfnc := HCF.out
  unfold Fnc at hfnc
  refine wp_region_held_drew (S := fun X => Mp X m mv S ∧ X.cell? ⟨m, 0, none⟩ = some (.map mv) ∧ X.cell? ⟨m, 2, none⟩ = some (.int .u64 S.i) ∧ (X.cell? ⟨q1, 0, none⟩ = some (.int .u8 c.verb) ∧ X.cell? ⟨q1, 1, none⟩ = some (.string c.key) ∧ X.cell? ⟨q1, 2, none⟩ = some (.string c.val) ∧ X.cell? ⟨q1, 3, none⟩ = some (.int .u32 c.fl) ∧ X.cell? ⟨q1, 4, none⟩ = some (.int .i64 c.exp) ∧ X.cell? ⟨q1, 5, none⟩ = some (.int .u64 c.id) ∧ X.cell? ⟨q1, 6, none⟩ = some (.int .u64 c.by_)) ∧ X.cell? ⟨q5, 0, none⟩ = some (.string y.k) ∧ X.cell? ⟨q5, 1, none⟩ = some (.string y.v) ∧ X.cell? ⟨q5, 2, none⟩ = some (.int .u32 y.fl) ∧ X.cell? ⟨q5, 3, none⟩ = some (.int .u64 y.id) ∧ X.cell? ⟨q5, 4, none⟩ = some (.int .i64 y.dies) ∧ X.cell? ⟨q5, 5, none⟩ = some (.int .i64 y.gen)) (by kernel_rfl) (KEEP7.out _ (kq hd6)) (fun hHeld => ?_)
  refine wpAnyH_take (i := 0) (oi := ({ dst := some 49, op := Op.move (Operand.tmp 8), type := 106, pos := "maps.go:190", after := #[], guard := none })) (v := ?_) rfl (by kernel_rfl) (by kernel_rfl) (by kernel_rfl) (fun _ _ _ h => h) (Or.inl ⟨by rfl, ?_⟩) (by assumption) ?_
  rotate_left 1
  · (intro w9 hSw; (try dsimp only at hSw); go_simp; try with_reducible rfl)
  try simp only [Act.put, List.setIfInBounds_toArray, List.set_cons_zero, List.set_cons_succ]
  refine wpAnyH_take (i := 1) (oi := ({ dst := some 50, op := Op.load 35 (Operand.tmp 4), type := 35, pos := "maps.go:190", after := #[], guard := none })) (v := ?_) rfl (by kernel_rfl) (by kernel_rfl) (by kernel_rfl) (fun _ _ _ h => h) (Or.inl ⟨by rfl, ?_⟩) (by assumption) ?_
  rotate_left 1
  · (intro w9 hSw; (try dsimp only at hSw); go_simp; try with_reducible rfl)
  try simp only [Act.put, List.setIfInBounds_toArray, List.set_cons_zero, List.set_cons_succ]
  refine wpAnyH_take (i := 2) (oi := ({ dst := some 51, op := Op.move (Operand.tmp 2), type := 29, pos := "maps.go:190", after := #[], guard := none })) (v := ?_) rfl (by kernel_rfl) (by kernel_rfl) (by kernel_rfl) (fun _ _ _ h => h) (Or.inl ⟨by rfl, ?_⟩) (by assumption) ?_
  rotate_left 1
  · (intro w9 hSw; (try dsimp only at hSw); go_simp; try with_reducible rfl)
  try simp only [Act.put, List.setIfInBounds_toArray, List.set_cons_zero, List.set_cons_succ]
  refine wpAnyH_take (i := 3) (oi := ({ dst := some 52, op := Op.load 38 (Operand.tmp 9), type := 38, pos := "maps.go:190", after := #[], guard := none })) (v := ?_) rfl (by kernel_rfl) (by kernel_rfl) (by kernel_rfl) (fun _ _ _ h => h) (Or.inl ⟨by rfl, ?_⟩) (by assumption) ?_
  rotate_left 1
  · (intro w9 hSw; (try dsimp only at hSw); go_simp; try with_reducible rfl)
  try simp only [Act.put, List.setIfInBounds_toArray, List.set_cons_zero, List.set_cons_succ]
  refine wpAnyH_take (i := 4) (oi := ({ dst := some 53, op := Op.move (Operand.tmp 10), type := 4, pos := "maps.go:190", after := #[], guard := none })) (v := ?_) rfl (by kernel_rfl) (by kernel_rfl) (by kernel_rfl) (fun _ _ _ h => h) (Or.inl ⟨by rfl, ?_⟩) (by assumption) ?_
  rotate_left 1
  · (intro w9 hSw; (try dsimp only at hSw); go_simp; try with_reducible rfl)
  try simp only [Act.put, List.setIfInBounds_toArray, List.set_cons_zero, List.set_cons_succ]
  refine wpAnyH_take (i := 5) (oi := ({ dst := some 54, op := Op.move (Operand.tmp 10), type := 4, pos := "maps.go:190", after := #[], guard := none })) (v := ?_) rfl (by kernel_rfl) (by kernel_rfl) (by kernel_rfl) (fun _ _ _ h => h) (Or.inl ⟨by rfl, ?_⟩) (by assumption) ?_
  rotate_left 1
  · (intro w9 hSw; (try dsimp only at hSw); go_simp; try with_reducible rfl)
  try simp only [Act.put, List.setIfInBounds_toArray, List.set_cons_zero, List.set_cons_succ]
  refine wpAnyH_take (i := 6) (oi := ({ dst := some 55, op := Op.move (Operand.tmp 54), type := 4, pos := "maps.go:190", after := #[{ on := 5, ground := Ground.data }], guard := none })) (v := ?_) rfl (by kernel_rfl) (by kernel_rfl) (by kernel_rfl) (fun _ _ _ h => h) (Or.inl ⟨by rfl, ?_⟩) (by assumption) ?_
  rotate_left 1
  · (intro w9 hSw; (try dsimp only at hSw); go_simp; try with_reducible rfl)
  try simp only [Act.put, List.setIfInBounds_toArray, List.set_cons_zero, List.set_cons_succ]
  refine wpAnyH_take (i := 7) (oi := ({ dst := some 56, op := Op.load 38 (Operand.tmp 9), type := 38, pos := "maps.go:190", after := #[{ on := 6, ground := Ground.guard }], guard := some (6, true) })) (v := ?_) rfl (by kernel_rfl) (by kernel_rfl) (by kernel_rfl) (fun _ _ _ h => h) (Or.inl ⟨by rfl, ?_⟩) (by assumption) ?_
  rotate_left 1
  · (intro w9 hSw; (try dsimp only at hSw); go_simp; try with_reducible rfl)
  try simp only [Act.put, List.setIfInBounds_toArray, List.set_cons_zero, List.set_cons_succ]
  refine wpAnyH_take (i := 8) (oi := ({ dst := some 57, op := Op.move (Operand.tmp 2), type := 29, pos := "maps.go:190", after := #[{ on := 6, ground := Ground.guard }], guard := some (6, true) })) (v := ?_) rfl (by kernel_rfl) (by kernel_rfl) (by kernel_rfl) (fun _ _ _ h => h) (Or.inl ⟨by rfl, ?_⟩) (by assumption) ?_
  rotate_left 1
  · (intro w9 hSw; (try dsimp only at hSw); go_simp; try with_reducible rfl)
  try simp only [Act.put, List.setIfInBounds_toArray, List.set_cons_zero, List.set_cons_succ]
  refine wpAnyH_take (i := 11) (oi := ({ dst := some 60, op := Op.move (Operand.tmp 0), type := 25, pos := "maps.go:190", after := #[], guard := none })) (v := ?_) rfl (by kernel_rfl) (by kernel_rfl) (by kernel_rfl) (fun _ _ _ h => h) (Or.inl ⟨by rfl, ?_⟩) (by assumption) ?_
  rotate_left 1
  · (intro w9 hSw; (try dsimp only at hSw); go_simp; try with_reducible rfl)
  try simp only [Act.put, List.setIfInBounds_toArray, List.set_cons_zero, List.set_cons_succ]
  refine wpAnyH_take (i := 12) (oi := ({ dst := some 61, op := Op.nilCheck (Operand.tmp 60), type := 0, pos := "maps.go:190", after := #[{ on := 11, ground := Ground.data }], guard := none })) (v := ?_) rfl (by kernel_rfl) (by kernel_rfl) (by kernel_rfl) (fun _ _ _ h => h) (Or.inl ⟨by rfl, ?_⟩) (by assumption) ?_
  rotate_left 1
  · (intro w9 hSw; (try dsimp only at hSw); go_simp; try with_reducible rfl)
  try simp only [Act.put, List.setIfInBounds_toArray, List.set_cons_zero, List.set_cons_succ]
  refine wpAnyH_take (i := 13) (oi := ({ dst := some 62, op := Op.fieldAddr 57 (Operand.tmp 61) 2, type := 0, pos := "maps.go:190", after := #[{ on := 12, ground := Ground.data }], guard := none })) (v := ?_) rfl (by kernel_rfl) (by kernel_rfl) (by kernel_rfl) (fun _ _ _ h => h) (Or.inl ⟨by rfl, ?_⟩) (by assumption) ?_
  rotate_left 1
  · (intro w9 hSw; (try dsimp only at hSw); go_simp; try with_reducible rfl)
  try simp only [Act.put, List.setIfInBounds_toArray, List.set_cons_zero, List.set_cons_succ]
  refine wpAnyH_take (i := 14) (oi := ({ dst := some 63, op := Op.load 29 (Operand.tmp 62), type := 29, pos := "maps.go:190", after := #[{ on := 13, ground := Ground.data }], guard := none })) (v := ?_) rfl (by kernel_rfl) (by kernel_rfl) (by kernel_rfl) (fun _ _ _ h => h) (Or.inl ⟨by rfl, ?_⟩) (by assumption) ?_
  rotate_left 1
  · (intro w9 hSw; (try dsimp only at hSw); go_simp; try with_reducible rfl)
  try simp only [Act.put, List.setIfInBounds_toArray, List.set_cons_zero, List.set_cons_succ]
  refine wpAnyH_ready (rs := [9]) (by kernel_rfl) (by simp) ?_
  refine AllReadyH.cons (o := ({ dst := some 58, op := Op.call { callee := Callee.value (Operand.func 30), args := #[Operand.tmp 56, Operand.tmp 57], argTypes := #[38, 29] }, type := 4, pos := "maps.go:190", after := #[{ on := 7, ground := Ground.data }, { on := 8, ground := Ground.data }, { on := 6, ground := Ground.chain }, { on := 6, ground := Ground.guard }], guard := some (6, true) })) rfl (fun K hK => ?_) AllReadyH.nil
  go_simp
  refine (alivew y.k y.v y.fl y.id y.dies y.gen x _ x0 x1).mono ?_
  rintro e W7 ⟨rfl, b7⟩
  have hb8 := fr_new hd6 b7
  refine hK.out _ _ (KEEP7.out _ (kq hb8)) (fun hHeld => ?_)
  clear hK K
  try simp only [Act.put, List.setIfInBounds_toArray, List.set_cons_zero, List.set_cons_succ]
  refine wpAnyH_take (i := 10) (oi := ({ dst := some 59, op := Op.pick (Operand.tmp 55) (Operand.tmp 58) (Operand.const (Value.bool false)), type := 4, pos := "maps.go:190", after := #[{ on := 6, ground := Ground.data }, { on := 9, ground := Ground.data }], guard := none })) (v := ?_) rfl (by kernel_rfl) (by kernel_rfl) (by kernel_rfl) (fun _ _ _ h => h) (Or.inl ⟨by rfl, ?_⟩) (by assumption) ?_
  rotate_left 1
  · (intro w9 hSw; (try dsimp only at hSw); go_simp; try with_reducible rfl)
  try simp only [Act.put, List.setIfInBounds_toArray, List.set_cons_zero, List.set_cons_succ]
  refine wpAnyH_take (i := 15) (oi := ({ dst := some 64, op := Op.build 110 #[(0, Operand.tmp 50), (1, Operand.tmp 51), (2, Operand.tmp 52), (3, Operand.tmp 53), (4, Operand.tmp 59), (5, Operand.tmp 63)], type := 110, pos := "maps.go:190", after := #[{ on := 1, ground := Ground.data }, { on := 2, ground := Ground.data }, { on := 3, ground := Ground.data }, { on := 4, ground := Ground.data }, { on := 10, ground := Ground.data }, { on := 14, ground := Ground.data }], guard := none })) (v := ?_) rfl (by kernel_rfl) (by kernel_rfl) (by kernel_rfl) (fun _ _ _ h => h) (Or.inl ⟨by rfl, ?_⟩) (by assumption) ?_
  rotate_left 1
  · (intro w9 hSw; (try dsimp only at hSw); go_simp; try with_reducible rfl)
  try simp only [Act.put, List.setIfInBounds_toArray, List.set_cons_zero, List.set_cons_succ]
  refine wpAnyH_ready (rs := [16]) (by kernel_rfl) (by simp) ?_
  refine AllReadyH.cons (o := ({ dst := some 65, op := Op.call { callee := Callee.value (Operand.tmp 49), args := #[Operand.tmp 64], argTypes := #[110] }, type := 83, pos := "maps.go:190", after := #[{ on := 0, ground := Ground.data }, { on := 15, ground := Ground.data }, { on := 9, ground := Ground.chain }], guard := none })) rfl (fun K hK => ?_) AllReadyH.nil
  go_simp
  refine (HCL.out _ (fr_new (fr_new (fr_set (fr_new (Below.refl _ _).drew h5.below) k6 (by have e1 := h5.eq; have e2 : W4.drew.heap.size = W4.heap.size := rfl; omega)) hd6) b7)).mono ?_
  rintro e W8 ⟨rfl, b8⟩
  have hb9 := fr_new hb8 b8
  refine hK.out _ _ (KEEP7.out _ (kq hb9)) (fun hHeld => ?_)
  clear hK K
  try simp only [Act.put, List.setIfInBounds_toArray, List.set_cons_zero, List.set_cons_succ]
  refine wpAnyH_ready (rs := [17]) (by kernel_rfl) (by simp) ?_
  refine AllReadyH.cons (o := ({ dst := none, op := Op.store 83 (Operand.tmp 6) (Operand.tmp 65), type := 0, pos := "maps.go:190", after := #[{ on := 16, ground := Ground.data }, { on := 16, ground := Ground.chain }, { on := 0, ground := Ground.phase }, { on := 1, ground := Ground.phase }, { on := 2, ground := Ground.phase }, { on := 3, ground := Ground.phase }, { on := 4, ground := Ground.phase }, { on := 5, ground := Ground.phase }, { on := 6, ground := Ground.phase }, { on := 7, ground := Ground.phase }, { on := 8, ground := Ground.phase }, { on := 9, ground := Ground.phase }, { on := 10, ground := Ground.phase }, { on := 11, ground := Ground.phase }, { on := 12, ground := Ground.phase }, { on := 13, ground := Ground.phase }, { on := 14, ground := Ground.phase }, { on := 15, ground := Ground.phase }, { on := 16, ground := Ground.phase }], guard := none })) rfl (fun K hK => ?_) AllReadyH.nil
  refine step_giv rfl (.tmp 6) (.tmp 65) rfl q2 Giv.none g (HG2.out.new (fr_new hb7 hb9)) rfl rfl ?_
  intro W9 h9 k9
  refine hK.out _ _ (KEEP7.out _ ((kq hb9).trans k9 (fun i hi s => .inl s))) (fun hHeld => ?_)
  clear hK K
  try simp only [Act.put]
  refine wpAnyH_take (i := 18) (oi := ({ dst := some 7, op := Op.assign (Operand.const (Value.bool true)), type := 4, pos := "maps.go:190", after := #[{ on := 17, ground := Ground.chain }, { on := 0, ground := Ground.phase }, { on := 1, ground := Ground.phase }, { on := 2, ground := Ground.phase }, { on := 3, ground := Ground.phase }, { on := 4, ground := Ground.phase }, { on := 5, ground := Ground.phase }, { on := 6, ground := Ground.phase }, { on := 7, ground := Ground.phase }, { on := 8, ground := Ground.phase }, { on := 9, ground := Ground.phase }, { on := 10, ground := Ground.phase }, { on := 11, ground := Ground.phase }, { on := 12, ground := Ground.phase }, { on := 13, ground := Ground.phase }, { on := 14, ground := Ground.phase }, { on := 15, ground := Ground.phase }, { on := 16, ground := Ground.phase }, { on := 17, ground := Ground.phase }], guard := none })) (v := ?_) rfl (by kernel_rfl) (by kernel_rfl) (by kernel_rfl) (fun _ _ _ h => h) (Or.inl ⟨by rfl, ?_⟩) (by assumption) ?_
  rotate_left 1
  · (intro w9 hSw; (try dsimp only at hSw); go_simp; try with_reducible rfl)
  try simp only [Act.put, List.setIfInBounds_toArray, List.set_cons_zero, List.set_cons_succ]
  refine wpAnyH_done (by kernel_rfl) ?_ _
  go_wp2_with fail
  refine bodyPost_ret (results_giv rfl _ h9 rfl rfl) rfl ⟨rfl, ?_⟩
  exact fr_set (fr_new HF3.out (fr_new hb7 hb9)) k9 HQ.out.1
set_option maxHeartbeats 4000000 in
set_option maxRecDepth 100000 in
theorem gv_fk_false (h : Mp w m mv S) (hS : MOk S) (hc : CalOk c) (hx : 0 ≤ x ∧ x < 18446744073709551616) (hv : ¬ 13 < c.verb) (hv1 : (c.verb != 11) = true) (ok : okB c.key = true) (cm : comes S.e x = true) (htab : Lib.TabIs Tryd.prog w "internal/strconv.uint64pow10" .u64 Lib.pow10Tab) (HA : Hid (AskOk (askOf S c x))) (nv : Nat) (hnv : c.verb = nv) (hn13 : nv ≤ 13) {g : Giv} (hg : gvOf (askOf S c x) = some g) (hs : (mlook S.L c.key).isSome = false) : Calls Tryd.prog 36 #[.pointer (some ⟨m, 0, none⟩), .agg (calC c).toArray, .int .u64 x] w (GivP w (some g)) := by
  obtain ⟨y, hy⟩ : ∃ y, (mlook S.L c.key).getD Itm.none = y := ⟨_, rfl⟩
  have hask : askOf S c x = ⟨c, x, y, false, false, S.i⟩ := by simp [askOf, hy, hs]
  have HL : Hid (∀ X, Mp X m mv S → (Instr.lookup 55 (.map mv) (.string c.key) true).run Tryd.prog X = .ok (.tuple #[.agg #[.string y.k, .string y.v, .int .u32 y.fl, .int .u64 y.id, .int .i64 y.dies, .int .i64 y.gen], .bool false]) X) := Lib.hid fun X hX => by
    have := hX.look hc.key
    unfold lkV itV at this
    rw [hy, hs] at this
    exact this
  have HASK := Lib.hid hask
  have HG := Lib.hid hg
  have x0 := hx.1
  have x1 := hx.2
  clear hs hy hask hg
  have H := Lib.hid h
  have HS := Lib.hid hS
  have HC := Lib.hid hc
  have HX := Lib.hid hx
  have v0 := hc.verb.1
  have HT := Lib.hid htab
  have HNV := Lib.hid hnv
  clear h hS hc hx htab hnv
  go_enter Tryd.func36, Tryd.ntmps36
  go_wp2_with (first
    | (with_reducible refine at_wp ?_; refine wpList_box_bk rfl 35 (.tmp 1) rfl (calC c) rfl ?_; intro W1 q1 h1)
    | (with_reducible refine at_wp ?_; refine wpList_alloc_bk rfl 83 (givC Giv.none) alloc_giv rfl ?_; intro W2 q2 h2; obtain ⟨c0, c1, c2, c3, c4, c5, c6⟩ := call_cells (h1.bk.new h2.below))
    | (go_at_call 27; refine (okcw _ _ HC.out.key).mono ?_; rintro e W3 ⟨rfl, rfl⟩; rw [ok])
    | (go_at_call 47; refine (maycw m mv S x _ (H.out.new (fr_new h1.below h2.below)).bk HS.out.e HX.out).mono ?_; rintro e W3 ⟨rfl, b3⟩; rw [cm]))
  have HB1 := Lib.hid (h1.bk.new (fr_new h2.below b3))
  have HF3 := Lib.hid (fr_new (fr_new h1.below h2.below) b3)
  have HM1 := Lib.hid (H.out.new HF3.out)
  have HG2 := Lib.hid (h2.bk.new b3)
  have HQ := Lib.hid (show w.heap.size ≤ q2 ∧ q1 ≠ q2 ∧ q2 < W3.heap.size by have e0 := h1.bk.lt; have e1 := h2.at h1.below; have e2 := h2.eq; have e3 := h2.bk.lt; have e4 := b3.size; omega)
  have hd3 : Below W3.heap.size W3 W3.drew := (Below.refl _ _).drew
  have KEEP : Hid (∀ X, Keeps (fun k => k = q2 ∨ W3.heap.size ≤ k) W3 X → Mp X m mv S ∧ X.cell? ⟨m, 0, none⟩ = some (.map mv) ∧ X.cell? ⟨m, 2, none⟩ = some (.int .u64 S.i) ∧ X.cell? ⟨q1, 0, none⟩ = some (.int .u8 c.verb) ∧ X.cell? ⟨q1, 1, none⟩ = some (.string c.key) ∧ X.cell? ⟨q1, 2, none⟩ = some (.string c.val) ∧ X.cell? ⟨q1, 3, none⟩ = some (.int .u32 c.fl) ∧ X.cell? ⟨q1, 4, none⟩ = some (.int .i64 c.exp) ∧ X.cell? ⟨q1, 5, none⟩ = some (.int .u64 c.id) ∧ X.cell? ⟨q1, 6, none⟩ = some (.int .u64 c.by_)) := Lib.hid fun X hb => by
    have hm := HM1.out.keep hb (fun k hk => by have e1 := H.out.lts k hk; have e2 := HF3.out.size; have e3 := HQ.out; omega)
    exact ⟨hm, hm.bk.at_ 0 _ rfl, hm.bk.at_ 2 _ rfl, call_cells (HB1.out.keep hb (by have e1 := HB1.out.lt; have e3 := HQ.out; omega))⟩
  clear c0 c1 c2 c3 c4 c5 c6
  refine wp_region_held_drew (S := fun X => Mp X m mv S ∧ X.cell? ⟨m, 0, none⟩ = some (.map mv) ∧ X.cell? ⟨m, 2, none⟩ = some (.int .u64 S.i) ∧ X.cell? ⟨q1, 0, none⟩ = some (.int .u8 c.verb) ∧ X.cell? ⟨q1, 1, none⟩ = some (.string c.key) ∧ X.cell? ⟨q1, 2, none⟩ = some (.string c.val) ∧ X.cell? ⟨q1, 3, none⟩ = some (.int .u32 c.fl) ∧ X.cell? ⟨q1, 4, none⟩ = some (.int .i64 c.exp) ∧ X.cell? ⟨q1, 5, none⟩ = some (.int .u64 c.id) ∧ X.cell? ⟨q1, 6, none⟩ = some (.int .u64 c.by_)) (by kernel_rfl) (KEEP.out _ (kq hd3)) (fun hHeld => ?_)
  refine wpAnyH_take (i := 1) (oi := ({ dst := some 33, op := Op.fieldAddr 35 (Operand.tmp 4) 0, type := 0, pos := "maps.go:185", after := #[], guard := none })) (v := ?_) rfl (by kernel_rfl) (by kernel_rfl) (by kernel_rfl) (fun _ _ _ h => h) (Or.inl ⟨by rfl, ?_⟩) (by assumption) ?_
  rotate_left 1
  · (intro w9 hSw; (try dsimp only at hSw); go_simp; try with_reducible rfl)
  try simp only [Act.put, List.setIfInBounds_toArray, List.set_cons_zero, List.set_cons_succ]
  refine wpAnyH_take (i := 2) (oi := ({ dst := some 34, op := Op.load 32 (Operand.tmp 33), type := 32, pos := "maps.go:185", after := #[{ on := 1, ground := Ground.data }], guard := none })) (v := ?_) rfl (by kernel_rfl) (by kernel_rfl) (by kernel_rfl) (fun _ _ _ h => h) (Or.inl ⟨by rfl, ?_⟩) (by assumption) ?_
  rotate_left 1
  · (intro w9 hSw; (try dsimp only at hSw); go_simp; try with_reducible rfl)
  try simp only [Act.put, List.setIfInBounds_toArray, List.set_cons_zero, List.set_cons_succ]
  refine wpAnyH_ready (rs := [0]) (by kernel_rfl) (by simp) ?_
  refine AllReadyH.cons (o := ({ dst := some 32, op := Op.call { callee := Callee.value (Operand.func 48), args := #[], argTypes := #[] }, type := 107, pos := "maps.go:185", after := #[], guard := none })) rfl (fun K hK => ?_) AllReadyH.nil
  go_simp
  refine (verbsw _).mono ?_
  rintro e W4 ⟨L, rfl, hV, b4⟩
  have hb4 := fr_new hd3 b4
  obtain ⟨vf, hvf, hok⟩ := vs_at hV (askOf S c x) HA.out (tab_below HT.out (fr_new HF3.out hb4)) nv HNV.out hn13
  have HVL := Lib.hid (And.intro hV.len hvf)
  clear hvf hV
  obtain ⟨f, C, rfl, hcf, hcl⟩ := hok.some HG.out
  rw [HASK.out] at hcl
  have HCL := Lib.hid hcl
  have HCF := Lib.hid hcf
  clear hcl hcf hok
  refine hK.out _ _ (KEEP.out _ (kq hb4)) (fun hHeld => ?_)
  clear hK K
  try simp only [Act.put, List.setIfInBounds_toArray, List.set_cons_zero, List.set_cons_succ]
  refine wpAnyH_take (i := 3) (oi := ({ dst := some 35, op := Op.index 107 (Operand.tmp 32) (Operand.tmp 34), type := 106, pos := "maps.go:185", after := #[{ on := 0, ground := Ground.data }, { on := 2, ground := Ground.data }], guard := none })) (v := (.func (.func f) #[] C)) rfl (by kernel_rfl) (by kernel_rfl) (by kernel_rfl) (fun _ _ _ h => h) (Or.inl ⟨by rfl, ?_⟩) (by assumption) ?_
  · (intro w9 hSw; (try dsimp only at hSw); exact exec_index rfl rfl rfl (idx_run L HVL.out.1 c.verb nv HNV.out _ HVL.out.2 hn13 w9))
  try simp only [Act.put, List.setIfInBounds_toArray, List.set_cons_zero, List.set_cons_succ]
  refine wpAnyH_take (i := 4) (oi := ({ dst := some 8, op := Op.assign (Operand.tmp 35), type := 106, pos := "maps.go:185", after := #[{ on := 3, ground := Ground.data }, { on := 0, ground := Ground.chain }, { on := 0, ground := Ground.phase }, { on := 1, ground := Ground.phase }, { on := 2, ground := Ground.phase }, { on := 3, ground := Ground.phase }], guard := none })) (v := ?_) rfl (by kernel_rfl) (by kernel_rfl) (by kernel_rfl) (fun _ _ _ h => h) (Or.inl ⟨by rfl, ?_⟩) (by assumption) ?_
  rotate_left 1
  · (intro w9 hSw; (try dsimp only at hSw); go_simp; try with_reducible rfl)
  try simp only [Act.put, List.setIfInBounds_toArray, List.set_cons_zero, List.set_cons_succ]
  refine wpAnyH_done (by kernel_rfl) ?_ _
  have hq := func_nil f C
  go_wp2_with fail
  have hb5 : Below W3.heap.size W3 W4.drew := fr_new hb4 (Below.refl _ _).drew
  refine wp_region_held_drew (S := fun X => Mp X m mv S ∧ X.cell? ⟨m, 0, none⟩ = some (.map mv) ∧ X.cell? ⟨m, 2, none⟩ = some (.int .u64 S.i) ∧ X.cell? ⟨q1, 0, none⟩ = some (.int .u8 c.verb) ∧ X.cell? ⟨q1, 1, none⟩ = some (.string c.key) ∧ X.cell? ⟨q1, 2, none⟩ = some (.string c.val) ∧ X.cell? ⟨q1, 3, none⟩ = some (.int .u32 c.fl) ∧ X.cell? ⟨q1, 4, none⟩ = some (.int .i64 c.exp) ∧ X.cell? ⟨q1, 5, none⟩ = some (.int .u64 c.id) ∧ X.cell? ⟨q1, 6, none⟩ = some (.int .u64 c.by_)) (by kernel_rfl) (KEEP.out _ (kq hb5)) (fun hHeld => ?_)
  refine wpAnyH_take (i := 0) (oi := ({ dst := some 40, op := Op.move (Operand.tmp 0), type := 25, pos := "maps.go:189", after := #[], guard := none })) (v := ?_) rfl (by kernel_rfl) (by kernel_rfl) (by kernel_rfl) (fun _ _ _ h => h) (Or.inl ⟨by rfl, ?_⟩) (by assumption) ?_
  rotate_left 1
  · (intro w9 hSw; (try dsimp only at hSw); go_simp; try with_reducible rfl)
  try simp only [Act.put, List.setIfInBounds_toArray, List.set_cons_zero, List.set_cons_succ]
  refine wpAnyH_take (i := 1) (oi := ({ dst := some 41, op := Op.nilCheck (Operand.tmp 40), type := 0, pos := "maps.go:189", after := #[{ on := 0, ground := Ground.data }], guard := none })) (v := ?_) rfl (by kernel_rfl) (by kernel_rfl) (by kernel_rfl) (fun _ _ _ h => h) (Or.inl ⟨by rfl, ?_⟩) (by assumption) ?_
  rotate_left 1
  · (intro w9 hSw; (try dsimp only at hSw); go_simp; try with_reducible rfl)
  try simp only [Act.put, List.setIfInBounds_toArray, List.set_cons_zero, List.set_cons_succ]
  refine wpAnyH_take (i := 2) (oi := ({ dst := some 42, op := Op.fieldAddr 57 (Operand.tmp 41) 0, type := 0, pos := "maps.go:189", after := #[{ on := 1, ground := Ground.data }], guard := none })) (v := ?_) rfl (by kernel_rfl) (by kernel_rfl) (by kernel_rfl) (fun _ _ _ h => h) (Or.inl ⟨by rfl, ?_⟩) (by assumption) ?_
  rotate_left 1
  · (intro w9 hSw; (try dsimp only at hSw); go_simp; try with_reducible rfl)
  try simp only [Act.put, List.setIfInBounds_toArray, List.set_cons_zero, List.set_cons_succ]
  refine wpAnyH_take (i := 3) (oi := ({ dst := some 43, op := Op.load 55 (Operand.tmp 42), type := 55, pos := "maps.go:189", after := #[{ on := 2, ground := Ground.data }], guard := none })) (v := ?_) rfl (by kernel_rfl) (by kernel_rfl) (by kernel_rfl) (fun _ _ _ h => h) (Or.inl ⟨by rfl, ?_⟩) (by assumption) ?_
  rotate_left 1
  · (intro w9 hSw; (try dsimp only at hSw); go_simp; try with_reducible rfl)
  try simp only [Act.put, List.setIfInBounds_toArray, List.set_cons_zero, List.set_cons_succ]
  refine wpAnyH_take (i := 4) (oi := ({ dst := some 44, op := Op.fieldAddr 35 (Operand.tmp 4) 1, type := 0, pos := "maps.go:189", after := #[], guard := none })) (v := ?_) rfl (by kernel_rfl) (by kernel_rfl) (by kernel_rfl) (fun _ _ _ h => h) (Or.inl ⟨by rfl, ?_⟩) (by assumption) ?_
  rotate_left 1
  · (intro w9 hSw; (try dsimp only at hSw); go_simp; try with_reducible rfl)
  try simp only [Act.put, List.setIfInBounds_toArray, List.set_cons_zero, List.set_cons_succ]
  refine wpAnyH_take (i := 5) (oi := ({ dst := some 45, op := Op.load 9 (Operand.tmp 44), type := 9, pos := "maps.go:189", after := #[{ on := 4, ground := Ground.data }], guard := none })) (v := ?_) rfl (by kernel_rfl) (by kernel_rfl) (by kernel_rfl) (fun _ _ _ h => h) (Or.inl ⟨by rfl, ?_⟩) (by assumption) ?_
  rotate_left 1
  · (intro w9 hSw; (try dsimp only at hSw); go_simp; try with_reducible rfl)
  try simp only [Act.put, List.setIfInBounds_toArray, List.set_cons_zero, List.set_cons_succ]
  refine wpAnyH_take (i := 6) (oi := ({ dst := some 46, op := Op.lookup 55 (Operand.tmp 43) (Operand.tmp 45) true, type := 47, pos := "maps.go:189", after := #[{ on := 3, ground := Ground.data }, { on := 5, ground := Ground.data }], guard := none })) (v := (.tuple #[.agg #[.string y.k, .string y.v, .int .u32 y.fl, .int .u64 y.id, .int .i64 y.dies, .int .i64 y.gen], .bool false])) rfl (by kernel_rfl) (by kernel_rfl) (by kernel_rfl) (fun _ _ _ h => h) (Or.inl ⟨by rfl, ?_⟩) (by assumption) ?_
  · (intro w9 hSw; (try dsimp only at hSw); exact exec_lookup rfl rfl rfl (HL.out _ hSw.1))
  try simp only [Act.put, List.setIfInBounds_toArray, List.set_cons_zero, List.set_cons_succ]
  refine wpAnyH_take (i := 7) (oi := ({ dst := some 39, op := Op.move (Operand.tmp 46), type := 47, pos := "maps.go:189", after := #[{ on := 6, ground := Ground.data }], guard := none })) (v := ?_) rfl (by kernel_rfl) (by kernel_rfl) (by kernel_rfl) (fun _ _ _ h => h) (Or.inl ⟨by rfl, ?_⟩) (by assumption) ?_
  rotate_left 1
  · (intro w9 hSw; (try dsimp only at hSw); go_simp; try with_reducible rfl)
  try simp only [Act.put, List.setIfInBounds_toArray, List.set_cons_zero, List.set_cons_succ]
  refine wpAnyH_take (i := 8) (oi := ({ dst := some 47, op := Op.extract (Operand.tmp 39) 0, type := 38, pos := "maps.go:189", after := #[{ on := 7, ground := Ground.data }], guard := none })) (v := ?_) rfl (by kernel_rfl) (by kernel_rfl) (by kernel_rfl) (fun _ _ _ h => h) (Or.inl ⟨by rfl, ?_⟩) (by assumption) ?_
  rotate_left 1
  · (intro w9 hSw; (try dsimp only at hSw); go_simp; try with_reducible rfl)
  try simp only [Act.put, List.setIfInBounds_toArray, List.set_cons_zero, List.set_cons_succ]
  refine wpAnyH_take (i := 9) (oi := ({ dst := some 48, op := Op.extract (Operand.tmp 39) 1, type := 4, pos := "maps.go:189", after := #[{ on := 7, ground := Ground.data }, { on := 11, ground := Ground.gcOnly Departure.lateStores }], guard := none })) (v := ?_) rfl (by kernel_rfl) (by kernel_rfl) (by kernel_rfl) (fun _ _ _ h => h) (Or.inl ⟨by rfl, ?_⟩) (by assumption) ?_
  rotate_left 1
  · (intro w9 hSw; (try dsimp only at hSw); go_simp; try with_reducible rfl)
  try simp only [Act.put, List.setIfInBounds_toArray, List.set_cons_zero, List.set_cons_succ]
  refine wpAnyH_ready (rs := [10]) (by kernel_rfl) (by simp) ?_
  refine AllReadyH.cons (o := ({ dst := some 9, op := Op.alloc 38, type := 0, pos := "maps.go:189", after := #[], guard := none })) rfl (fun K hK => ?_) AllReadyH.nil
  refine step_alloc_bk rfl 38 (itC Itm.none) alloc_it rfl ?_
  intro W5 q5 h5
  have hb6 := fr_new hb5 h5.below
  refine hK.out _ _ (KEEP.out _ (kq hb6)) (fun hHeld => ?_)
  clear hK K
  try simp only [Act.put, List.setIfInBounds_toArray, List.set_cons_zero, List.set_cons_succ]
  refine wpAnyH_ready (rs := [11]) (by kernel_rfl) (by simp) ?_
  refine AllReadyH.cons (o := ({ dst := none, op := Op.store 38 (Operand.tmp 9) (Operand.tmp 47), type := 0, pos := "maps.go:189", after := #[{ on := 10, ground := Ground.data }, { on := 8, ground := Ground.data }, { on := 0, ground := Ground.phase }, { on := 1, ground := Ground.phase }, { on := 2, ground := Ground.phase }, { on := 3, ground := Ground.phase }, { on := 4, ground := Ground.phase }, { on := 5, ground := Ground.phase }, { on := 6, ground := Ground.phase }, { on := 7, ground := Ground.phase }, { on := 8, ground := Ground.phase }, { on := 9, ground := Ground.textOnly Departure.lateStores }, { on := 10, ground := Ground.phase }], guard := none })) rfl (fun K hK => ?_) AllReadyH.nil
  refine step_store_bk rfl 38 (.tmp 9) (.tmp 47) rfl q5 0 (itC Itm.none) (itC y) (itC y) h5.bk (Nat.le_refl 6) rfl info_it (itC_one _) rfl rfl ?_
  intro W6 h6 k6
  have hb7 := fr_set hb6 k6 (h5.at hb5)
  refine hK.out _ _ (KEEP.out _ (kq hb7)) (fun hHeld => ?_)
  clear hK K
  try simp only [Act.put]
  refine wpAnyH_take (i := 12) (oi := ({ dst := some 10, op := Op.assign (Operand.tmp 48), type := 4, pos := "maps.go:189", after := #[{ on := 9, ground := Ground.data }, { on := 11, ground := Ground.chain }, { on := 0, ground := Ground.phase }, { on := 1, ground := Ground.phase }, { on := 2, ground := Ground.phase }, { on := 3, ground := Ground.phase }, { on := 4, ground := Ground.phase }, { on := 5, ground := Ground.phase }, { on := 6, ground := Ground.phase }, { on := 7, ground := Ground.phase }, { on := 8, ground := Ground.phase }, { on := 9, ground := Ground.phase }, { on := 10, ground := Ground.phase }, { on := 11, ground := Ground.phase }], guard := none })) (v := ?_) rfl (by kernel_rfl) (by kernel_rfl) (by kernel_rfl) (fun _ _ _ h => h) (Or.inl ⟨by rfl, ?_⟩) (by assumption) ?_
  rotate_left 1
  · (intro w9 hSw; (try dsimp only at hSw); go_simp; try with_reducible rfl)
  try simp only [Act.put, List.setIfInBounds_toArray, List.set_cons_zero, List.set_cons_succ]
  refine wpAnyH_done (by kernel_rfl) ?_ _
  have HQ5 := Lib.hid (show q5 ≠ q2 ∧ q5 < W6.heap.size by have e1 := h5.at hb5; have e2 := HQ.out; exact ⟨by omega, h6.lt⟩)
  have H6 := Lib.hid h6
  have KEEP7 : Hid (∀ X, Keeps (fun k => k = q2 ∨ W6.heap.size ≤ k) W6 X → Mp X m mv S ∧ X.cell? ⟨m, 0, none⟩ = some (.map mv) ∧ X.cell? ⟨m, 2, none⟩ = some (.int .u64 S.i) ∧ (X.cell? ⟨q1, 0, none⟩ = some (.int .u8 c.verb) ∧ X.cell? ⟨q1, 1, none⟩ = some (.string c.key) ∧ X.cell? ⟨q1, 2, none⟩ = some (.string c.val) ∧ X.cell? ⟨q1, 3, none⟩ = some (.int .u32 c.fl) ∧ X.cell? ⟨q1, 4, none⟩ = some (.int .i64 c.exp) ∧ X.cell? ⟨q1, 5, none⟩ = some (.int .u64 c.id) ∧ X.cell? ⟨q1, 6, none⟩ = some (.int .u64 c.by_)) ∧ X.cell? ⟨q5, 0, none⟩ = some (.string y.k) ∧ X.cell? ⟨q5, 1, none⟩ = some (.string y.v) ∧ X.cell? ⟨q5, 2, none⟩ = some (.int .u32 y.fl) ∧ X.cell? ⟨q5, 3, none⟩ = some (.int .u64 y.id) ∧ X.cell? ⟨q5, 4, none⟩ = some (.int .i64 y.dies) ∧ X.cell? ⟨q5, 5, none⟩ = some (.int .i64 y.gen)) := Lib.hid fun X hb => by
    have e0 := hb7.size
    have hk := (kq (q := q2) hb7).trans hb (fun i hi s => by rcases s with s | s; exact .inl s; omega)
    obtain ⟨a1, a2, a3, a4⟩ := KEEP.out X hk
    exact ⟨a1, a2, a3, a4, it_cells (H6.out.keep hb (by have e3 := HQ5.out; omega))⟩
  clear h6
  have hd6 : Below W6.heap.size W6 W6.drew := (Below.refl _ _).drew
  go_wp2_with fail
  have hfnc := HCF.out
  unfold Fnc at hfnc
  refine wp_region_held_drew (S := fun X => Mp X m mv S ∧ X.cell? ⟨m, 0, none⟩ = some (.map mv) ∧ X.cell? ⟨m, 2, none⟩ = some (.int .u64 S.i) ∧ (X.cell? ⟨q1, 0, none⟩ = some (.int .u8 c.verb) ∧ X.cell? ⟨q1, 1, none⟩ = some (.string c.key) ∧ X.cell? ⟨q1, 2, none⟩ = some (.string c.val) ∧ X.cell? ⟨q1, 3, none⟩ = some (.int .u32 c.fl) ∧ X.cell? ⟨q1, 4, none⟩ = some (.int .i64 c.exp) ∧ X.cell? ⟨q1, 5, none⟩ = some (.int .u64 c.id) ∧ X.cell? ⟨q1, 6, none⟩ = some (.int .u64 c.by_)) ∧ X.cell? ⟨q5, 0, none⟩ = some (.string y.k) ∧ X.cell? ⟨q5, 1, none⟩ = some (.string y.v) ∧ X.cell? ⟨q5, 2, none⟩ = some (.int .u32 y.fl) ∧ X.cell? ⟨q5, 3, none⟩ = some (.int .u64 y.id) ∧ X.cell? ⟨q5, 4, none⟩ = some (.int .i64 y.dies) ∧ X.cell? ⟨q5, 5, none⟩ = some (.int .i64 y.gen)) (by kernel_rfl) (KEEP7.out _ (kq hd6)) (fun hHeld => ?_)
  refine wpAnyH_take (i := 0) (oi := ({ dst := some 49, op := Op.move (Operand.tmp 8), type := 106, pos := "maps.go:190", after := #[], guard := none })) (v := ?_) rfl (by kernel_rfl) (by kernel_rfl) (by kernel_rfl) (fun _ _ _ h => h) (Or.inl ⟨by rfl, ?_⟩) (by assumption) ?_
  rotate_left 1
  · (intro w9 hSw; (try dsimp only at hSw); go_simp; try with_reducible rfl)
  try simp only [Act.put, List.setIfInBounds_toArray, List.set_cons_zero, List.set_cons_succ]
  refine wpAnyH_take (i := 1) (oi := ({ dst := some 50, op := Op.load 35 (Operand.tmp 4), type := 35, pos := "maps.go:190", after := #[], guard := none })) (v := ?_) rfl (by kernel_rfl) (by kernel_rfl) (by kernel_rfl) (fun _ _ _ h => h) (Or.inl ⟨by rfl, ?_⟩) (by assumption) ?_
  rotate_left 1
  · (intro w9 hSw; (try dsimp only at hSw); go_simp; try with_reducible rfl)
  try simp only [Act.put, List.setIfInBounds_toArray, List.set_cons_zero, List.set_cons_succ]
  refine wpAnyH_take (i := 2) (oi := ({ dst := some 51, op := Op.move (Operand.tmp 2), type := 29, pos := "maps.go:190", after := #[], guard := none })) (v := ?_) rfl (by kernel_rfl) (by kernel_rfl) (by kernel_rfl) (fun _ _ _ h => h) (Or.inl ⟨by rfl, ?_⟩) (by assumption) ?_
  rotate_left 1
  · (intro w9 hSw; (try dsimp only at hSw); go_simp; try with_reducible rfl)
  try simp only [Act.put, List.setIfInBounds_toArray, List.set_cons_zero, List.set_cons_succ]
  refine wpAnyH_take (i := 3) (oi := ({ dst := some 52, op := Op.load 38 (Operand.tmp 9), type := 38, pos := "maps.go:190", after := #[], guard := none })) (v := ?_) rfl (by kernel_rfl) (by kernel_rfl) (by kernel_rfl) (fun _ _ _ h => h) (Or.inl ⟨by rfl, ?_⟩) (by assumption) ?_
  rotate_left 1
  · (intro w9 hSw; (try dsimp only at hSw); go_simp; try with_reducible rfl)
  try simp only [Act.put, List.setIfInBounds_toArray, List.set_cons_zero, List.set_cons_succ]
  refine wpAnyH_take (i := 4) (oi := ({ dst := some 53, op := Op.move (Operand.tmp 10), type := 4, pos := "maps.go:190", after := #[], guard := none })) (v := ?_) rfl (by kernel_rfl) (by kernel_rfl) (by kernel_rfl) (fun _ _ _ h => h) (Or.inl ⟨by rfl, ?_⟩) (by assumption) ?_
  rotate_left 1
  · (intro w9 hSw; (try dsimp only at hSw); go_simp; try with_reducible rfl)
  try simp only [Act.put, List.setIfInBounds_toArray, List.set_cons_zero, List.set_cons_succ]
  refine wpAnyH_take (i := 5) (oi := ({ dst := some 54, op := Op.move (Operand.tmp 10), type := 4, pos := "maps.go:190", after := #[], guard := none })) (v := ?_) rfl (by kernel_rfl) (by kernel_rfl) (by kernel_rfl) (fun _ _ _ h => h) (Or.inl ⟨by rfl, ?_⟩) (by assumption) ?_
  rotate_left 1
  · (intro w9 hSw; (try dsimp only at hSw); go_simp; try with_reducible rfl)
  try simp only [Act.put, List.setIfInBounds_toArray, List.set_cons_zero, List.set_cons_succ]
  refine wpAnyH_take (i := 6) (oi := ({ dst := some 55, op := Op.move (Operand.tmp 54), type := 4, pos := "maps.go:190", after := #[{ on := 5, ground := Ground.data }], guard := none })) (v := ?_) rfl (by kernel_rfl) (by kernel_rfl) (by kernel_rfl) (fun _ _ _ h => h) (Or.inl ⟨by rfl, ?_⟩) (by assumption) ?_
  rotate_left 1
  · (intro w9 hSw; (try dsimp only at hSw); go_simp; try with_reducible rfl)
  try simp only [Act.put, List.setIfInBounds_toArray, List.set_cons_zero, List.set_cons_succ]
  refine wpAnyH_take (i := 7) (oi := ({ dst := some 56, op := Op.load 38 (Operand.tmp 9), type := 38, pos := "maps.go:190", after := #[{ on := 6, ground := Ground.guard }], guard := some (6, true) })) (v := undef) rfl (by kernel_rfl) (by kernel_rfl) (by kernel_rfl) (fun _ _ _ h => h) (Or.inr ⟨by rfl, rfl⟩) (by assumption) ?_
  try simp only [Act.put, List.setIfInBounds_toArray, List.set_cons_zero, List.set_cons_succ]
  refine wpAnyH_take (i := 8) (oi := ({ dst := some 57, op := Op.move (Operand.tmp 2), type := 29, pos := "maps.go:190", after := #[{ on := 6, ground := Ground.guard }], guard := some (6, true) })) (v := undef) rfl (by kernel_rfl) (by kernel_rfl) (by kernel_rfl) (fun _ _ _ h => h) (Or.inr ⟨by rfl, rfl⟩) (by assumption) ?_
  try simp only [Act.put, List.setIfInBounds_toArray, List.set_cons_zero, List.set_cons_succ]
  refine wpAnyH_take (i := 9) (oi := ({ dst := some 58, op := Op.call { callee := Callee.value (Operand.func 30), args := #[Operand.tmp 56, Operand.tmp 57], argTypes := #[38, 29] }, type := 4, pos := "maps.go:190", after := #[{ on := 7, ground := Ground.data }, { on := 8, ground := Ground.data }, { on := 6, ground := Ground.chain }, { on := 6, ground := Ground.guard }], guard := some (6, true) })) (v := undef) rfl (by kernel_rfl) (by kernel_rfl) (by kernel_rfl) (fun _ _ _ h => h) (Or.inr ⟨by rfl, rfl⟩) (by assumption) ?_
  try simp only [Act.put, List.setIfInBounds_toArray, List.set_cons_zero, List.set_cons_succ]
  refine wpAnyH_take (i := 10) (oi := ({ dst := some 59, op := Op.pick (Operand.tmp 55) (Operand.tmp 58) (Operand.const (Value.bool false)), type := 4, pos := "maps.go:190", after := #[{ on := 6, ground := Ground.data }, { on := 9, ground := Ground.data }], guard := none })) (v := ?_) rfl (by kernel_rfl) (by kernel_rfl) (by kernel_rfl) (fun _ _ _ h => h) (Or.inl ⟨by rfl, ?_⟩) (by assumption) ?_
  rotate_left 1
  · (intro w9 hSw; (try dsimp only at hSw); go_simp; try with_reducible rfl)
  try simp only [Act.put, List.setIfInBounds_toArray, List.set_cons_zero, List.set_cons_succ]
  refine wpAnyH_take (i := 11) (oi := ({ dst := some 60, op := Op.move (Operand.tmp 0), type := 25, pos := "maps.go:190", after := #[], guard := none })) (v := ?_) rfl (by kernel_rfl) (by kernel_rfl) (by kernel_rfl) (fun _ _ _ h => h) (Or.inl ⟨by rfl, ?_⟩) (by assumption) ?_
  rotate_left 1
  · (intro w9 hSw; (try dsimp only at hSw); go_simp; try with_reducible rfl)
  try simp only [Act.put, List.setIfInBounds_toArray, List.set_cons_zero, List.set_cons_succ]
  refine wpAnyH_take (i := 12) (oi := ({ dst := some 61, op := Op.nilCheck (Operand.tmp 60), type := 0, pos := "maps.go:190", after := #[{ on := 11, ground := Ground.data }], guard := none })) (v := ?_) rfl (by kernel_rfl) (by kernel_rfl) (by kernel_rfl) (fun _ _ _ h => h) (Or.inl ⟨by rfl, ?_⟩) (by assumption) ?_
  rotate_left 1
  · (intro w9 hSw; (try dsimp only at hSw); go_simp; try with_reducible rfl)
  try simp only [Act.put, List.setIfInBounds_toArray, List.set_cons_zero, List.set_cons_succ]
  refine wpAnyH_take (i := 13) (oi := ({ dst := some 62, op := Op.fieldAddr 57 (Operand.tmp 61) 2, type := 0, pos := "maps.go:190", after := #[{ on := 12, ground := Ground.data }], guard := none })) (v := ?_) rfl (by kernel_rfl) (by kernel_rfl) (by kernel_rfl) (fun _ _ _ h => h) (Or.inl ⟨by rfl, ?_⟩) (by assumption) ?_
  rotate_left 1
  · (intro w9 hSw; (try dsimp only at hSw); go_simp; try with_reducible rfl)
  try simp only [Act.put, List.setIfInBounds_toArray, List.set_cons_zero, List.set_cons_succ]
  refine wpAnyH_take (i := 14) (oi := ({ dst := some 63, op := Op.load 29 (Operand.tmp 62), type := 29, pos := "maps.go:190", after := #[{ on := 13, ground := Ground.data }], guard := none })) (v := ?_) rfl (by kernel_rfl) (by kernel_rfl) (by kernel_rfl) (fun _ _ _ h => h) (Or.inl ⟨by rfl, ?_⟩) (by assumption) ?_
  rotate_left 1
  · (intro w9 hSw; (try dsimp only at hSw); go_simp; try with_reducible rfl)
  try simp only [Act.put, List.setIfInBounds_toArray, List.set_cons_zero, List.set_cons_succ]
  refine wpAnyH_take (i := 15) (oi := ({ dst := some 64, op := Op.build 110 #[(0, Operand.tmp 50), (1, Operand.tmp 51), (2, Operand.tmp 52), (3, Operand.tmp 53), (4, Operand.tmp 59), (5, Operand.tmp 63)], type := 110, pos := "maps.go:190", after := #[{ on := 1, ground := Ground.data }, { on := 2, ground := Ground.data }, { on := 3, ground := Ground.data }, { on := 4, ground := Ground.data }, { on := 10, ground := Ground.data }, { on := 14, ground := Ground.data }], guard := none })) (v := ?_) rfl (by kernel_rfl) (by kernel_rfl) (by kernel_rfl) (fun _ _ _ h => h) (Or.inl ⟨by rfl, ?_⟩) (by assumption) ?_
  rotate_left 1
  · (intro w9 hSw; (try dsimp only at hSw); go_simp; try with_reducible rfl)
  try simp only [Act.put, List.setIfInBounds_toArray, List.set_cons_zero, List.set_cons_succ]
  refine wpAnyH_ready (rs := [16]) (by kernel_rfl) (by simp) ?_
  refine AllReadyH.cons (o := ({ dst := some 65, op := Op.call { callee := Callee.value (Operand.tmp 49), args := #[Operand.tmp 64], argTypes := #[110] }, type := 83, pos := "maps.go:190", after := #[{ on := 0, ground := Ground.data }, { on := 15, ground := Ground.data }, { on := 9, ground := Ground.chain }], guard := none })) rfl (fun K hK => ?_) AllReadyH.nil
  go_simp
  refine (HCL.out _ (fr_new (fr_set (fr_new (Below.refl _ _).drew h5.below) k6 (by have e1 := h5.eq; have e2 : W4.drew.heap.size = W4.heap.size := rfl; omega)) hd6)).mono ?_
  rintro e W8 ⟨rfl, b8⟩
  have hb9 := fr_new hd6 b8
  refine hK.out _ _ (KEEP7.out _ (kq hb9)) (fun hHeld => ?_)
  clear hK K
  try simp only [Act.put, List.setIfInBounds_toArray, List.set_cons_zero, List.set_cons_succ]
  refine wpAnyH_ready (rs := [17]) (by kernel_rfl) (by simp) ?_
  refine AllReadyH.cons (o := ({ dst := none, op := Op.store 83 (Operand.tmp 6) (Operand.tmp 65), type := 0, pos := "maps.go:190", after := #[{ on := 16, ground := Ground.data }, { on := 16, ground := Ground.chain }, { on := 0, ground := Ground.phase }, { on := 1, ground := Ground.phase }, { on := 2, ground := Ground.phase }, { on := 3, ground := Ground.phase }, { on := 4, ground := Ground.phase }, { on := 5, ground := Ground.phase }, { on := 6, ground := Ground.phase }, { on := 7, ground := Ground.phase }, { on := 8, ground := Ground.phase }, { on := 9, ground := Ground.phase }, { on := 10, ground := Ground.phase }, { on := 11, ground := Ground.phase }, { on := 12, ground := Ground.phase }, { on := 13, ground := Ground.phase }, { on := 14, ground := Ground.phase }, { on := 15, ground := Ground.phase }, { on := 16, ground := Ground.phase }], guard := none })) rfl (fun K hK => ?_) AllReadyH.nil
  refine step_giv rfl (.tmp 6) (.tmp 65) rfl q2 Giv.none g (HG2.out.new (fr_new hb7 hb9)) rfl rfl ?_
  intro W9 h9 k9
  refine hK.out _ _ (KEEP7.out _ ((kq hb9).trans k9 (fun i hi s => .inl s))) (fun hHeld => ?_)
  clear hK K
  try simp only [Act.put]
  refine wpAnyH_take (i := 18) (oi := ({ dst := some 7, op := Op.assign (Operand.const (Value.bool true)), type := 4, pos := "maps.go:190", after := #[{ on := 17, ground := Ground.chain }, { on := 0, ground := Ground.phase }, { on := 1, ground := Ground.phase }, { on := 2, ground := Ground.phase }, { on := 3, ground := Ground.phase }, { on := 4, ground := Ground.phase }, { on := 5, ground := Ground.phase }, { on := 6, ground := Ground.phase }, { on := 7, ground := Ground.phase }, { on := 8, ground := Ground.phase }, { on := 9, ground := Ground.phase }, { on := 10, ground := Ground.phase }, { on := 11, ground := Ground.phase }, { on := 12, ground := Ground.phase }, { on := 13, ground := Ground.phase }, { on := 14, ground := Ground.phase }, { on := 15, ground := Ground.phase }, { on := 16, ground := Ground.phase }, { on := 17, ground := Ground.phase }], guard := none })) (v := ?_) rfl (by kernel_rfl) (by kernel_rfl) (by kernel_rfl) (fun _ _ _ h => h) (Or.inl ⟨by rfl, ?_⟩) (by assumption) ?_
  rotate_left 1
  · (intro w9 hSw; (try dsimp only at hSw); go_simp; try with_reducible rfl)
  try simp only [Act.put, List.setIfInBounds_toArray, List.set_cons_zero, List.set_cons_succ]
  refine wpAnyH_done (by kernel_rfl) ?_ _
  go_wp2_with fail
  refine bodyPost_ret (results_giv rfl _ h9 rfl rfl) rfl ⟨rfl, ?_⟩
  exact fr_set (fr_new HF3.out (fr_new hb7 hb9)) k9 HQ.out.1
theorem askOf_ok (hS : MOk S) (hc : CalOk c) (hx : 0 ≤ x ∧ x < 18446744073709551616) : AskOk (askOf S c x) := by
  refine ⟨hc, hx, ?_, hS.i⟩
  show ItOk ((mlook S.L c.key).getD Itm.none)
  cases e : mlook S.L c.key with
  | none => exact ⟨by decide, by decide, by decide, by decide⟩
  | some y => exact hS.its y (look_mem e)
theorem gvOf_far {y : Ask} (h : 13 < y.c.verb) : gvOf y = .none := by
  unfold gvOf
  repeat rw [if_neg (by omega)]
theorem givesw (h : Mp w m mv S) (hS : MOk S) (hc : CalOk c) (hx : 0 ≤ x ∧ x < 18446744073709551616) (htab : Lib.TabIs Tryd.prog w "internal/strconv.uint64pow10" .u64 Lib.pow10Tab) : Calls Tryd.prog 36 #[.pointer (some ⟨m, 0, none⟩), .agg (calC c).toArray, .int .u64 x] w (GivP w (mgives S c x)) := by
  have HA := Lib.hid (askOf_ok (S := S) hS hc hx)
  unfold mgives
  by_cases hv : 13 < c.verb
  · have e : gvOf (askOf S c x) = .none := gvOf_far hv
    rw [e, ite_self]
    exact gv_far h hS hc hx hv
  obtain ⟨nv, hnv⟩ : ∃ nv : Nat, c.verb = nv := ⟨c.verb.toNat, by have := hc.verb.1; omega⟩
  have hn13 : nv ≤ 13 := by omega
  by_cases h11 : c.verb = 11
  · have hv1 : (c.verb != 11) = false := by simpa using h11
    cases cm : comes S.e x with
    | false =>
      rw [if_neg (by simp)]
      exact gv_ep11 h hS hc hx hv hv1 cm
    | true =>
      rw [if_pos ⟨rfl, .inl h11⟩]
      have hg : gvOf (askOf S c x) = some (askOf S c x).flush := by
        unfold gvOf
        rw [show (askOf S c x).c.verb = 11 from h11]
        simp
      rw [hg]
      cases hs : (mlook S.L c.key).isSome with
      | true => exact gv_f11_true h hS hc hx hv hv1 cm htab HA nv hnv hn13 hg hs
      | false => exact gv_f11_false h hS hc hx hv hv1 cm htab HA nv hnv hn13 hg hs
  · have hv1 : (c.verb != 11) = true := by simpa using h11
    cases ok : okB c.key with
    | false =>
      rw [if_neg (by simp [h11])]
      exact gv_key h hS hc hx hv hv1 ok
    | true =>
      cases cm : comes S.e x with
      | false =>
        rw [if_neg (by simp)]
        exact gv_epk h hS hc hx hv hv1 ok cm
      | true =>
        rw [if_pos ⟨rfl, .inr rfl⟩]
        cases hg : gvOf (askOf S c x) with
        | none => exact gv_nil h hS hc hx hv hv1 ok cm htab HA nv hnv hn13 hg
        | some g =>
          cases hs : (mlook S.L c.key).isSome with
          | true => exact gv_fk_true h hS hc hx hv hv1 ok cm htab HA nv hnv hn13 hg hs
          | false => exact gv_fk_false h hS hc hx hv hv1 ok cm htab HA nv hnv hn13 hg hs
end
end Go.Proofs.YtmjklkcjinfmaaaDoor
