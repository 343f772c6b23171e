/- Maps: Gives, Fits, Drop, At, Count, Epoch, Ids, New. -/
import Derived.Test.YtmjklkcjinfmaaaDoorMaE
namespace Go.Proofs.YtmjklkcjinfmaaaDoor
open Go.RowKit Go.Maps
set_option linter.unusedVariables false
theorem info_an : (Tryd.prog.info? 40).map (·.size) = some 8 := by kernel_rfl
theorem info_ca : (Tryd.prog.info? 35).map (·.size) = some 7 := by kernel_rfl
theorem ansC_one (x : Ans) : (ansC x).toArray.all (·.oneCell') = true := by simp [ansC, Value.oneCell']
theorem alloc_an (w : World) : (Instr.alloc 40 true (.tuple #[])).run Tryd.prog w = .ok (.pointer (some ⟨w.heap.size, 0, none⟩)) (w.alloc (.cells (ansC Ans.none).toArray 40)) := by kernel_rfl
theorem results_two {ty : TypeId} {fn : Func} {p u : Tmp} (h : fn.results = #[.cell p ty, .tmp u]) (tmps : Array Value) {w : World} {q : Nat} {C : List Value} {v : Value} (hC : Bk w q C) (hp : tmps.getD p undef = .pointer (some ⟨q, 0, none⟩)) (hu : tmps.getD u undef = v) (d : TypeDesc) (hty : Tryd.prog.underlying ty = some d) (hd : d.isRow = true) (hi : (Tryd.prog.info? ty).map (·.size) = some C.length) : (results fn tmps).run Tryd.prog w = .ok (.tuple #[.agg C.toArray, v]) w := by
  have hp' : tmps[p]?.getD undef = .pointer (some ⟨q, 0, none⟩) := by simpa using hp
  have hu' : tmps[u]?.getD undef = v := by simpa using hu
  rw [results_cell_tmp h]
  simp [hp', hu', asAddr, run_loadVar_mid w q 0 ty C d (hC.range 0 C (by simp)) hty hd hi]
def gAns (S : Mst) (c : Cal) (x : Int) : Ans := match S.gives c x with | some G => G.a | none => Ans.none
section
variable {m : Nat} {mv : Option Nat} {S : Mst} {c : Cal} {x : Int} {w : World}
set_option maxHeartbeats 4000000 in
set_option maxRecDepth 100000 in
theorem Givesw (h : Mp w m mv S) (hS : MOk S) (hc : CalOk c) (hx : 0 ≤ x ∧ x < 18446744073709551616) (htab : Lib.TabIs Tryd.prog w "internal/strconv.uint64pow10" .u64 Lib.pow10Tab) :
    Calls Tryd.prog 12 #[.pointer (some ⟨m, 0, none⟩), .agg (calC c).toArray, .int .u64 x] w fun e w' => e = .returned (.tuple #[.agg (ansC (gAns S c x)).toArray, .bool (S.gives c x).isSome]) ∧ Below w.heap.size w w' := by
  have H := Lib.hid h
  have HS := Lib.hid hS
  have HC := Lib.hid hc
  have HX := Lib.hid hx
  have HT := Lib.hid htab
  have hl : ((mgives S c x).getD Giv.none).a = gAns S c x ∧ (mgives S c x).isSome = (S.gives c x).isSome := by
    unfold gAns
    rcases link hS.uniq c x with ⟨e1, e2⟩ | ⟨g, G, e1, e2, e3⟩
    · rw [e1, e2]; exact ⟨rfl, rfl⟩
    · rw [e1, e2]; exact ⟨e3.a, rfl⟩
  rw [← hl.1, ← hl.2]
  obtain ⟨o, ho⟩ : ∃ o, mgives S c x = o := ⟨_, rfl⟩
  have HO := Lib.hid ho
  rw [ho]
  clear h hS hc hx htab ho hl
  go_enter Tryd.func12, Tryd.ntmps12
  go_wp2_with (first
    | ((with_reducible refine at_wp ?_); refine wpList_box_bk rfl 35 (.tmp 1) rfl (calC c) rfl ?_; intro W1 q1 h1)
    | ((with_reducible refine at_wp ?_); refine wpList_alloc_bk rfl 40 (ansC Ans.none) alloc_an rfl ?_; intro W2 q2 h2)
    | ((with_reducible refine at_wp ?_); refine wpList_load_bk rfl 35 (.tmp 4) rfl q1 0 (calC c) (calC c) (h1.bk.new h2.below) rfl _ Tryd.underlying35 rfl info_ca rfl ?_)
    | (go_at_call 36; refine (givesw (H.out.new (fr_new h1.below h2.below)) HS.out HC.out HX.out (tab_below HT.out (fr_new h1.below h2.below))).mono ?_; rintro e W3 ⟨rfl, b3⟩; rw [HO.out])
    | ((with_reducible refine at_wp ?_); refine wpList_alloc_bk rfl 83 (givC Giv.none) alloc_giv rfl ?_; intro W4 q4 h4)
    | ((with_reducible refine at_wp ?_); refine wpList_giv rfl (.tmp 8) (.tmp 17) rfl q4 Giv.none (o.getD Giv.none) h4.bk rfl rfl ?_; intro W5 h5 k5)
    | ((with_reducible refine at_wp ?_); refine wpList_load_bk rfl 40 (.tmp 19) rfl q4 0 (givC (o.getD Giv.none)) (ansC (o.getD Giv.none).a) h5 rfl _ Tryd.underlying40 rfl info_an rfl ?_)
    | ((with_reducible refine at_wp ?_); refine wpList_store_bk rfl 40 (.tmp 6) (.tmp 20) rfl q2 0 (ansC Ans.none) (ansC (o.getD Giv.none).a) (ansC (o.getD Giv.none).a) ((h2.bk.new (fr_new b3 h4.below)).keep k5 (by have e1 := h2.bk.lt; have e2 := h4.eq; have e3 := b3.size; omega)) (Nat.le_refl 8) rfl info_an (ansC_one _) rfl rfl ?_; intro W6 h6 k6))
  refine bodyPost_ret (results_two rfl _ h6 rfl rfl _ Tryd.underlying40 rfl info_an) rfl ⟨rfl, ?_⟩
  have e0 := fr_new (fr_new h1.below h2.below) b3
  exact fr_set (fr_set (fr_new e0 h4.below) k5 (h4.at e0)) k6 (h2.at h1.below)
/-- The record of a key, told. -/
def atV (L : List Itm) (k : ByteArray) : Value := .tuple #[itV ((mlook L k).getD Itm.none), .bool (mlook L k).isSome]
set_option maxHeartbeats 4000000 in
set_option maxRecDepth 100000 in
theorem Atw (h : Mp w m mv S) (k : ByteArray) (hk : k.size ≤ maxLen) :
    Calls Tryd.prog 20 #[.pointer (some ⟨m, 0, none⟩), .string k] w fun e w' => e = .returned (atV S.L k) ∧ Below w.heap.size w w' := by
  unfold atV
  obtain ⟨y, hy⟩ : ∃ y, (mlook S.L k).getD Itm.none = y := ⟨_, rfl⟩
  obtain ⟨b, hb⟩ : ∃ b, (mlook S.L k).isSome = b := ⟨_, rfl⟩
  have hl : ∀ X, Mp X m mv S → (Instr.lookup 55 (.map mv) (.string k) true).run Tryd.prog X = .ok (.tuple #[.agg (itC y).toArray, .bool b]) X := fun X hX => by
    have := hX.look hk
    unfold lkV at this
    rw [hy, hb] at this
    exact this
  have HL := Lib.hid hl
  have H := Lib.hid h
  rw [hy, hb]
  clear h hl hy hb
  go_enter Tryd.func20, Tryd.ntmps20
  go_wp2_with (first
    | (have _ := x0; (with_reducible refine at_wp ?_); refine wpList_alloc_bk rfl 38 (itC Itm.none) alloc_it rfl ?_; intro W2 q2 h2)
    | ((with_reducible refine at_wp ?_); refine wpList_alloc_bk rfl 38 (itC Itm.none) alloc_it rfl ?_; intro W1 q1 h1; have x0 := (H.out.new h1.below).bk.at_ 0 _ rfl; have hl := HL.out _ (H.out.new h1.below))
    | ((with_reducible refine at_wp ?_); refine wpList_store_bk rfl 38 (.tmp 6) (.tmp 18) rfl q2 0 (itC Itm.none) (itC y) (itC y) h2.bk (Nat.le_refl 6) rfl info_it (itC_one _) rfl rfl ?_; intro W3 h3 k3)
    | ((with_reducible refine at_wp ?_); refine wpList_load_bk rfl 38 (.tmp 6) rfl q2 0 (itC y) (itC y) h3 rfl _ Tryd.underlying38 rfl info_it rfl ?_)
    | ((with_reducible refine at_wp ?_); refine wpList_store_bk rfl 38 (.tmp 4) (.tmp 20) rfl q1 0 (itC Itm.none) (itC y) (itC y) ((h1.bk.new h2.below).keep k3 (by have e1 := h1.bk.lt; have e2 := h2.eq; omega)) (Nat.le_refl 6) rfl info_it (itC_one _) rfl rfl ?_; intro W4 h4 k4))
  refine bodyPost_ret (results_two rfl _ h4 rfl rfl _ Tryd.underlying38 rfl info_it) rfl ⟨rfl, ?_⟩
  exact fr_set (fr_set (fr_new h1.below h2.below) k3 (h2.at h1.below)) k4 (by rw [h1.eq]; exact Nat.le_refl _)
theorem Countw (h : Mp w m mv S) : Calls Tryd.prog 22 #[.pointer (some ⟨m, 0, none⟩)] w fun e w' => e = .returned (.int .i64 S.L.length) ∧ w = w' := by
  have x0 := h.bk.at_ 0 _ rfl
  rcases h.recs with ⟨rfl, e⟩ | ⟨b, rfl, _, hq⟩
  · rw [e]
    have hlen : ∀ ty, (Builtin.len_ #[55] ty #[.map none]).run Tryd.prog w = .ok (.int .i64 0) w := fun ty => Maps.len_nil Tryd.underlying55 ty
    clear h
    go_enter Tryd.func22, Tryd.ntmps22
    go_wp2_with fail
    go_ret
    exact ⟨rfl, rfl⟩
  · obtain ⟨D, h1, h2, h3⟩ := hq.ex
    rw [← h2]
    have H1 := Lib.hid h1
    clear h hq h1 h2 h3
    go_enter Tryd.func22, Tryd.ntmps22
    go_wp2_with (at_len; refine wpList_len_own _ rfl (.tmp 8) 55 rfl 9 38 Tryd.underlying55 itR b _ D rfl H1.out ?_)
    go_ret
    exact ⟨rfl, rfl⟩
theorem Epochw (h : Mp w m mv S) : Calls Tryd.prog 23 #[.pointer (some ⟨m, 0, none⟩)] w fun e w' => e = .returned (.int .u64 S.e) ∧ w = w' := by
  have x0 := h.bk.at_ 1 _ rfl
  clear h
  go_enter Tryd.func23, Tryd.ntmps23
  go_wp2_with fail
  go_ret
  exact ⟨rfl, rfl⟩
theorem Idsw (h : Mp w m mv S) : Calls Tryd.prog 24 #[.pointer (some ⟨m, 0, none⟩)] w fun e w' => e = .returned (.int .u64 S.i) ∧ w = w' := by
  have x0 := h.bk.at_ 2 _ rfl
  clear h
  go_enter Tryd.func24, Tryd.ntmps24
  go_wp2_with fail
  go_ret
  exact ⟨rfl, rfl⟩
theorem Neww (w : World) : Calls Tryd.prog 11 #[] w fun e w' => e = .returned (.pointer (some ⟨w.heap.size, 0, none⟩)) ∧ Mp w' w.heap.size none Mst.new ∧ Below w.heap.size w w' ∧ w'.heap.size = w.heap.size + 1 := by
  go_enter Tryd.func11, Tryd.ntmps11
  go_wp2_with fail
  go_ret
  exact ⟨rfl, ⟨bk_new rfl, .inl ⟨rfl, rfl⟩⟩, (Below.refl _ _).alloc (Nat.le_refl _) _, by simp⟩
end
end Go.Proofs.YtmjklkcjinfmaaaDoor
