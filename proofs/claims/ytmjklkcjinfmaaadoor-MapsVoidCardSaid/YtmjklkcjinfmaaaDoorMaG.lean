/- Maps: Fits, Drop. -/
import Derived.Test.YtmjklkcjinfmaaaDoorMaF
namespace Go.Proofs.YtmjklkcjinfmaaaDoor
open Go.RowKit Go.Maps
set_option linter.unusedVariables false
/-- A call, done: who, what, when, its answer. -/
structure Cld where
  th : Int
  c : Cal
  fr : Int
  to : Int
  a : Ans
  e : Int
  pt : Int
def cldC (d : Cld) : List Value := [.int .i64 d.th, .int .u8 d.c.verb, .string d.c.key, .string d.c.val, .int .u32 d.c.fl, .int .i64 d.c.exp, .int .u64 d.c.id, .int .u64 d.c.by_, .int .i64 d.fr, .int .i64 d.to, .int .u8 d.a.kind, .int .u64 d.a.num, .string d.a.item.k, .string d.a.item.v, .int .u32 d.a.item.fl, .int .u64 d.a.item.id, .int .i64 d.a.item.dies, .int .i64 d.a.item.gen, .int .u64 d.e, .int .i64 d.pt]
theorem Mp.to {w : World} {m : Nat} {mv : Option Nat} {S T : Mst} (h : Mp w m mv S) (hT : Uniq T.L) (hl : Lk S.L T.L) (he : S.e = T.e) (hi : S.i = T.i) : Mp w m mv T := by
  refine ⟨by have := h.bk; unfold mapC at this ⊢; rw [he, hi] at this; exact this, ?_⟩
  rcases h.recs with ⟨e1, e2⟩ | ⟨b, h1, h2, h3⟩
  · refine .inl ⟨e1, ?_⟩
    have := hl.1
    rw [e2] at this
    exact List.eq_nil_of_length_eq_zero this.symm
  · exact .inr ⟨b, h1, h2, h3.same hT hl.1.symm (fun k => (hl.2 k).symm)⟩
/-- What Fits and Drop leave. -/
def FtP (w : World) (m : Nat) (mv : Option Nat) (r : Bool × Mst) (e : Ending) (w' : World) : Prop := e = .returned (.bool r.1) ∧ ∃ mv', Mp w' m mv' r.2 ∧ Keeps (MpB m mv) w w' ∧ (mv' = mv ∨ ∃ b, mv' = some b ∧ w.heap.size ≤ b)
theorem cld_cells {w : World} {q : Nat} {d : Cld} (h : Bk w q (cldC d)) : w.cell? ⟨q, 2, none⟩ = some (.string d.c.key) ∧ w.cell? ⟨q, 18, none⟩ = some (.int .u64 d.e) := ⟨h.at_ 2 _ rfl, h.at_ 18 _ rfl⟩
theorem mk_keeps {w W : World} {m : Nat} {mv : Option Nat} (h : Below w.heap.size w W) : Keeps (MpB m mv) w W := Keeps.of_new h
theorem mtakew (m : Nat) (mv : Option Nat) (S : Mst) (key : ByteArray) (g : Giv) (w : World) (h : Mp w m mv S) (hS : Uniq S.L) (hL : S.L.length < maxLen) (hk : key.size ≤ maxLen) (hr : g.is = true → g.r.k = key) :
    Calls Tryd.prog 39 #[.pointer (some ⟨m, 0, none⟩), .string key, .agg (givC g).toArray] w (TkP w m mv (mtake S key g)) := by
  cases his : g.is with
  | true => exact take_yes m mv S key g w h hS hL (hr his) hk his
  | false => exact take_no m mv S key g w h hk his
section
variable {m : Nat} {mv : Option Nat} {S : Mst} {d : Cld} {w : World}
set_option maxHeartbeats 4000000 in
set_option maxRecDepth 100000 in
theorem fit_no_true (h : Mp w m mv S) (hS : MOk S) (hc : CalOk d.c) (hx : 0 ≤ d.e ∧ d.e < 18446744073709551616) (htab : Lib.TabIs Tryd.prog w "internal/strconv.uint64pow10" .u64 Lib.pow10Tab) (ho : mgives S d.c d.e = .none) (hs : (mlook S.L d.c.key).isSome = true) : Calls Tryd.prog 17 #[.pointer (some ⟨m, 0, none⟩), .agg (cldC d).toArray] w (FtP w m mv (false, S)) := by
  obtain ⟨y, hy⟩ : ∃ y, (mlook S.L d.c.key).getD Itm.none = y := ⟨_, rfl⟩
  have HL : Hid (∀ X, Mp X m mv S → (Instr.lookup 55 (.map mv) (.string d.c.key) true).run Tryd.prog X = .ok (.tuple #[.agg (itC y).toArray, .bool true]) X) := Lib.hid fun X hX => by
    have := hX.look hc.key
    unfold lkV at this
    rw [hy, hs] at this
    exact this
  have H := Lib.hid h
  have HS := Lib.hid hS
  have HC := Lib.hid hc
  have HX := Lib.hid hx
  have HT := Lib.hid htab
  have HO := Lib.hid ho
  have HSS := Lib.hid hs
  clear h hS hc hx htab ho hs hy
  go_enter Tryd.func17, Tryd.ntmps17
  go_wp2_with (first
    | ((with_reducible refine at_wp ?_); refine wpList_box_bk rfl 42 (.tmp 1) rfl (cldC d) rfl ?_; intro W1 q1 h1; obtain ⟨c2, c18⟩ := cld_cells h1.bk)
    | ((with_reducible refine at_wp ?_); refine wpList_load_bk rfl 35 (.tmp 13) rfl q1 1 (cldC d) (calC d.c) h1.bk rfl _ Tryd.underlying35 rfl info_ca rfl ?_)
    | (go_at_call 36; refine (givesw (H.out.new h1.below) HS.out HC.out HX.out (tab_below HT.out h1.below)).mono ?_; rintro e W3 ⟨rfl, b3⟩; rw [HO.out])
    | ((with_reducible refine at_wp ?_); refine wpList_alloc_bk rfl 83 (givC Giv.none) alloc_giv rfl ?_; intro W4 q4 h4)
    | ((with_reducible refine at_wp ?_); refine wpList_giv rfl (.tmp 5) (.tmp 18) rfl q4 Giv.none Giv.none h4.bk rfl rfl ?_; intro W5 h5 k5))
  have e0 := fr_new h1.below b3
  have HF5 := Lib.hid (fr_set (fr_new e0 h4.below) k5 (h4.at e0))
  have HM5 := Lib.hid (H.out.new HF5.out)
  have HB5 := Lib.hid ((h1.bk.new (fr_new b3 h4.below)).keep k5 (by have e1 := h1.bk.lt; have e2 := h4.eq; have e3 := b3.size; omega))
  have H5 := Lib.hid h5
  have hd5 : Below W5.heap.size W5 W5.drew := (Below.refl _ _).drew
  have KEEP : Hid (∀ X, Below W5.heap.size W5 X → Mp X m mv S ∧ X.cell? ⟨m, 0, none⟩ = some (.map mv) ∧ X.cell? ⟨q1, 2, none⟩ = some (.string d.c.key)) := Lib.hid fun X hb => ⟨HM5.out.new hb, (HM5.out.new hb).bk.at_ 0 _ rfl, (HB5.out.new hb).at_ 2 _ rfl⟩
  clear c2 c18 h5 k5 e0
  refine wp_region_held_drew (S := fun X => Mp X m mv S ∧ X.cell? ⟨m, 0, none⟩ = some (.map mv) ∧ X.cell? ⟨q1, 2, none⟩ = some (.string d.c.key)) (by kernel_rfl) (KEEP.out _ hd5) (fun hHeld => ?_)
  refine wpAnyH_take (i := 0) (oi := ({ dst := some 21, op := Op.move (Operand.tmp 0), type := 25, pos := "maps.go:226", after := #[], guard := none })) (v := ?_) rfl (by kernel_rfl) (by kernel_rfl) (by kernel_rfl) (fun _ _ _ h => h) (Or.inl ⟨by rfl, ?_⟩) (by assumption) ?_
  rotate_left 1
  · (intro w9 hSw; (try dsimp only at hSw); go_simp; try with_reducible rfl)
  try simp only [Act.put, List.setIfInBounds_toArray, List.set_cons_zero, List.set_cons_succ]
  refine wpAnyH_take (i := 1) (oi := ({ dst := some 22, op := Op.nilCheck (Operand.tmp 21), type := 0, pos := "maps.go:226", after := #[{ on := 0, ground := Ground.data }], guard := none })) (v := ?_) rfl (by kernel_rfl) (by kernel_rfl) (by kernel_rfl) (fun _ _ _ h => h) (Or.inl ⟨by rfl, ?_⟩) (by assumption) ?_
  rotate_left 1
  · (intro w9 hSw; (try dsimp only at hSw); go_simp; try with_reducible rfl)
  try simp only [Act.put, List.setIfInBounds_toArray, List.set_cons_zero, List.set_cons_succ]
  refine wpAnyH_take (i := 2) (oi := ({ dst := some 23, op := Op.fieldAddr 57 (Operand.tmp 22) 0, type := 0, pos := "maps.go:226", after := #[{ on := 1, ground := Ground.data }], guard := none })) (v := ?_) rfl (by kernel_rfl) (by kernel_rfl) (by kernel_rfl) (fun _ _ _ h => h) (Or.inl ⟨by rfl, ?_⟩) (by assumption) ?_
  rotate_left 1
  · (intro w9 hSw; (try dsimp only at hSw); go_simp; try with_reducible rfl)
  try simp only [Act.put, List.setIfInBounds_toArray, List.set_cons_zero, List.set_cons_succ]
  refine wpAnyH_take (i := 3) (oi := ({ dst := some 24, op := Op.load 55 (Operand.tmp 23), type := 55, pos := "maps.go:226", after := #[{ on := 2, ground := Ground.data }], guard := none })) (v := ?_) rfl (by kernel_rfl) (by kernel_rfl) (by kernel_rfl) (fun _ _ _ h => h) (Or.inl ⟨by rfl, ?_⟩) (by assumption) ?_
  rotate_left 1
  · (intro w9 hSw; (try dsimp only at hSw); go_simp; try with_reducible rfl)
  try simp only [Act.put, List.setIfInBounds_toArray, List.set_cons_zero, List.set_cons_succ]
  refine wpAnyH_take (i := 4) (oi := ({ dst := some 25, op := Op.fieldAddr 42 (Operand.tmp 3) 1, type := 0, pos := "maps.go:226", after := #[], guard := none })) (v := ?_) rfl (by kernel_rfl) (by kernel_rfl) (by kernel_rfl) (fun _ _ _ h => h) (Or.inl ⟨by rfl, ?_⟩) (by assumption) ?_
  rotate_left 1
  · (intro w9 hSw; (try dsimp only at hSw); go_simp; try with_reducible rfl)
  try simp only [Act.put, List.setIfInBounds_toArray, List.set_cons_zero, List.set_cons_succ]
  refine wpAnyH_take (i := 5) (oi := ({ dst := some 26, op := Op.fieldAddr 35 (Operand.tmp 25) 1, type := 0, pos := "maps.go:226", after := #[{ on := 4, ground := Ground.data }], guard := none })) (v := ?_) rfl (by kernel_rfl) (by kernel_rfl) (by kernel_rfl) (fun _ _ _ h => h) (Or.inl ⟨by rfl, ?_⟩) (by assumption) ?_
  rotate_left 1
  · (intro w9 hSw; (try dsimp only at hSw); go_simp; try with_reducible rfl)
  try simp only [Act.put, List.setIfInBounds_toArray, List.set_cons_zero, List.set_cons_succ]
  refine wpAnyH_take (i := 6) (oi := ({ dst := some 27, op := Op.load 9 (Operand.tmp 26), type := 9, pos := "maps.go:226", after := #[{ on := 5, ground := Ground.data }], guard := none })) (v := ?_) rfl (by kernel_rfl) (by kernel_rfl) (by kernel_rfl) (fun _ _ _ h => h) (Or.inl ⟨by rfl, ?_⟩) (by assumption) ?_
  rotate_left 1
  · (intro w9 hSw; (try dsimp only at hSw); go_simp; try with_reducible rfl)
  try simp only [Act.put, List.setIfInBounds_toArray, List.set_cons_zero, List.set_cons_succ]
  refine wpAnyH_take (i := 7) (oi := ({ dst := some 28, op := Op.lookup 55 (Operand.tmp 24) (Operand.tmp 27) true, type := 47, pos := "maps.go:226", after := #[{ on := 3, ground := Ground.data }, { on := 6, ground := Ground.data }], guard := none })) (v := (.tuple #[.agg (itC y).toArray, .bool true])) rfl (by kernel_rfl) (by kernel_rfl) (by kernel_rfl) (fun _ _ _ h => h) (Or.inl ⟨by rfl, ?_⟩) (by assumption) ?_
  · (intro w9 hSw; (try dsimp only at hSw); exact exec_lookup rfl rfl rfl (HL.out _ hSw.1))
  try simp only [Act.put, List.setIfInBounds_toArray, List.set_cons_zero, List.set_cons_succ]
  refine wpAnyH_take (i := 8) (oi := ({ dst := some 20, op := Op.move (Operand.tmp 28), type := 47, pos := "maps.go:226", after := #[{ on := 7, ground := Ground.data }], guard := none })) (v := ?_) rfl (by kernel_rfl) (by kernel_rfl) (by kernel_rfl) (fun _ _ _ h => h) (Or.inl ⟨by rfl, ?_⟩) (by assumption) ?_
  rotate_left 1
  · (intro w9 hSw; (try dsimp only at hSw); go_simp; try with_reducible rfl)
  try simp only [Act.put, List.setIfInBounds_toArray, List.set_cons_zero, List.set_cons_succ]
  refine wpAnyH_take (i := 9) (oi := ({ dst := some 29, op := Op.extract (Operand.tmp 20) 0, type := 38, pos := "maps.go:226", after := #[{ on := 8, ground := Ground.data }], guard := none })) (v := ?_) rfl (by kernel_rfl) (by kernel_rfl) (by kernel_rfl) (fun _ _ _ h => h) (Or.inl ⟨by rfl, ?_⟩) (by assumption) ?_
  rotate_left 1
  · (intro w9 hSw; (try dsimp only at hSw); go_simp; try with_reducible rfl)
  try simp only [Act.put, List.setIfInBounds_toArray, List.set_cons_zero, List.set_cons_succ]
  refine wpAnyH_take (i := 10) (oi := ({ dst := some 30, op := Op.extract (Operand.tmp 20) 1, type := 4, pos := "maps.go:226", after := #[{ on := 8, ground := Ground.data }, { on := 12, ground := Ground.gcOnly Departure.lateStores }], guard := none })) (v := ?_) rfl (by kernel_rfl) (by kernel_rfl) (by kernel_rfl) (fun _ _ _ h => h) (Or.inl ⟨by rfl, ?_⟩) (by assumption) ?_
  rotate_left 1
  · (intro w9 hSw; (try dsimp only at hSw); go_simp; try with_reducible rfl)
  try simp only [Act.put, List.setIfInBounds_toArray, List.set_cons_zero, List.set_cons_succ]
  refine wpAnyH_ready (rs := [11]) (by kernel_rfl) (by simp) ?_
  refine AllReadyH.cons (o := ({ dst := some 7, op := Op.alloc 38, type := 0, pos := "maps.go:226", after := #[], guard := none })) rfl (fun K hK => ?_) AllReadyH.nil
  refine step_alloc_bk rfl 38 (itC Itm.none) alloc_it rfl ?_
  intro W6 q6 h6
  have hb6 := fr_new hd5 h6.below
  refine hK.out _ _ (KEEP.out _ hb6) (fun hHeld => ?_)
  clear hK K
  try simp only [Act.put, List.setIfInBounds_toArray, List.set_cons_zero, List.set_cons_succ]
  refine wpAnyH_ready (rs := [12]) (by kernel_rfl) (by simp) ?_
  refine AllReadyH.cons (o := ({ dst := none, op := Op.store 38 (Operand.tmp 7) (Operand.tmp 29), type := 0, pos := "maps.go:226", after := #[{ on := 11, ground := Ground.data }, { on := 9, ground := Ground.data }, { on := 0, ground := Ground.phase }, { on := 1, ground := Ground.phase }, { on := 2, ground := Ground.phase }, { on := 3, ground := Ground.phase }, { on := 4, ground := Ground.phase }, { on := 5, ground := Ground.phase }, { on := 6, ground := Ground.phase }, { on := 7, ground := Ground.phase }, { on := 8, ground := Ground.phase }, { on := 9, ground := Ground.phase }, { on := 10, ground := Ground.textOnly Departure.lateStores }, { on := 11, ground := Ground.phase }], guard := none })) rfl (fun K hK => ?_) AllReadyH.nil
  refine step_store_bk rfl 38 (.tmp 7) (.tmp 29) rfl q6 0 (itC Itm.none) (itC y) (itC y) h6.bk (Nat.le_refl 6) rfl info_it (itC_one _) rfl rfl ?_
  intro W7 h7 k7
  have hb7 := fr_set hb6 k7 (h6.at hd5)
  refine hK.out _ _ (KEEP.out _ hb7) (fun hHeld => ?_)
  clear hK K
  try simp only [Act.put]
  refine wpAnyH_take (i := 13) (oi := ({ dst := some 8, op := Op.assign (Operand.tmp 30), type := 4, pos := "maps.go:226", after := #[{ on := 10, ground := Ground.data }, { on := 12, ground := Ground.chain }, { on := 0, ground := Ground.phase }, { on := 1, ground := Ground.phase }, { on := 2, ground := Ground.phase }, { on := 3, ground := Ground.phase }, { on := 4, ground := Ground.phase }, { on := 5, ground := Ground.phase }, { on := 6, ground := Ground.phase }, { on := 7, ground := Ground.phase }, { on := 8, ground := Ground.phase }, { on := 9, ground := Ground.phase }, { on := 10, ground := Ground.phase }, { on := 11, ground := Ground.phase }, { on := 12, ground := Ground.phase }], guard := none })) (v := ?_) rfl (by kernel_rfl) (by kernel_rfl) (by kernel_rfl) (fun _ _ _ h => h) (Or.inl ⟨by rfl, ?_⟩) (by assumption) ?_
  rotate_left 1
  · (intro w9 hSw; (try dsimp only at hSw); go_simp; try with_reducible rfl)
  try simp only [Act.put, List.setIfInBounds_toArray, List.set_cons_zero, List.set_cons_succ]
  refine wpAnyH_done (by kernel_rfl) ?_ _
  have HB7 := Lib.hid (HB5.out.new hb7)
  have H57 := Lib.hid (H5.out.new hb7)
  have HM7 := Lib.hid (HM5.out.new hb7)
  have HF7 := Lib.hid (fr_new HF5.out hb7)
  obtain ⟨c2, c18⟩ := cld_cells HB7.out
  have y15 := H57.out.at_ 15 _ rfl
  clear hHeld
  go_wp2_with fail
  go_ret
  exact ⟨rfl, mv, HM7.out, mk_keeps HF7.out, .inl rfl⟩
set_option maxHeartbeats 4000000 in
set_option maxRecDepth 100000 in
theorem fit_yes_true (h : Mp w m mv S) (hS : MOk S) (hc : CalOk d.c) (hx : 0 ≤ d.e ∧ d.e < 18446744073709551616) (htab : Lib.TabIs Tryd.prog w "internal/strconv.uint64pow10" .u64 Lib.pow10Tab) {g : Giv} (ho : mgives S d.c d.e = some g) (ha : d.a = g.a) (hk : g.is = true → g.r.k = d.c.key) (hL : S.L.length < maxLen) (hs : (mlook S.L d.c.key).isSome = true) : Calls Tryd.prog 17 #[.pointer (some ⟨m, 0, none⟩), .agg (cldC d).toArray] w (FtP w m mv (true, mtake S d.c.key g)) := by
  have hq0 : ∀ W, (binOp .eql 40 (.agg (ansC d.a).toArray) (.agg (ansC g.a).toArray)).run Tryd.prog W = .ok (.bool true) W := fun W => by
    rw [an_eql, ha, decide_eq_true rfl]
  have HK := Lib.hid hk
  clear hk ha
  obtain ⟨y, hy⟩ : ∃ y, (mlook S.L d.c.key).getD Itm.none = y := ⟨_, rfl⟩
  have HL : Hid (∀ X, Mp X m mv S → (Instr.lookup 55 (.map mv) (.string d.c.key) true).run Tryd.prog X = .ok (.tuple #[.agg (itC y).toArray, .bool true]) X) := Lib.hid fun X hX => by
    have := hX.look hc.key
    unfold lkV at this
    rw [hy, hs] at this
    exact this
  have H := Lib.hid h
  have HS := Lib.hid hS
  have HC := Lib.hid hc
  have HX := Lib.hid hx
  have HT := Lib.hid htab
  have HO := Lib.hid ho
  have HSS := Lib.hid hs
  clear h hS hc hx htab ho hs hy
  go_enter Tryd.func17, Tryd.ntmps17
  go_wp2_with (first
    | ((with_reducible refine at_wp ?_); refine wpList_box_bk rfl 42 (.tmp 1) rfl (cldC d) rfl ?_; intro W1 q1 h1; obtain ⟨c2, c18⟩ := cld_cells h1.bk)
    | ((with_reducible refine at_wp ?_); refine wpList_load_bk rfl 35 (.tmp 13) rfl q1 1 (cldC d) (calC d.c) h1.bk rfl _ Tryd.underlying35 rfl info_ca rfl ?_)
    | (go_at_call 36; refine (givesw (H.out.new h1.below) HS.out HC.out HX.out (tab_below HT.out h1.below)).mono ?_; rintro e W3 ⟨rfl, b3⟩; rw [HO.out])
    | ((with_reducible refine at_wp ?_); refine wpList_alloc_bk rfl 83 (givC Giv.none) alloc_giv rfl ?_; intro W4 q4 h4)
    | ((with_reducible refine at_wp ?_); refine wpList_giv rfl (.tmp 5) (.tmp 18) rfl q4 Giv.none g h4.bk rfl rfl ?_; intro W5 h5 k5))
  have e0 := fr_new h1.below b3
  have HF5 := Lib.hid (fr_set (fr_new e0 h4.below) k5 (h4.at e0))
  have HM5 := Lib.hid (H.out.new HF5.out)
  have HB5 := Lib.hid ((h1.bk.new (fr_new b3 h4.below)).keep k5 (by have e1 := h1.bk.lt; have e2 := h4.eq; have e3 := b3.size; omega))
  have H5 := Lib.hid h5
  have hd5 : Below W5.heap.size W5 W5.drew := (Below.refl _ _).drew
  have KEEP : Hid (∀ X, Below W5.heap.size W5 X → Mp X m mv S ∧ X.cell? ⟨m, 0, none⟩ = some (.map mv) ∧ X.cell? ⟨q1, 2, none⟩ = some (.string d.c.key)) := Lib.hid fun X hb => ⟨HM5.out.new hb, (HM5.out.new hb).bk.at_ 0 _ rfl, (HB5.out.new hb).at_ 2 _ rfl⟩
  clear c2 c18 h5 k5 e0
  refine wp_region_held_drew (S := fun X => Mp X m mv S ∧ X.cell? ⟨m, 0, none⟩ = some (.map mv) ∧ X.cell? ⟨q1, 2, none⟩ = some (.string d.c.key)) (by kernel_rfl) (KEEP.out _ hd5) (fun hHeld => ?_)
  refine wpAnyH_take (i := 0) (oi := ({ dst := some 21, op := Op.move (Operand.tmp 0), type := 25, pos := "maps.go:226", after := #[], guard := none })) (v := ?_) rfl (by kernel_rfl) (by kernel_rfl) (by kernel_rfl) (fun _ _ _ h => h) (Or.inl ⟨by rfl, ?_⟩) (by assumption) ?_
  rotate_left 1
  · (intro w9 hSw; (try dsimp only at hSw); go_simp; try with_reducible rfl)
  try simp only [Act.put, List.setIfInBounds_toArray, List.set_cons_zero, List.set_cons_succ]
  refine wpAnyH_take (i := 1) (oi := ({ dst := some 22, op := Op.nilCheck (Operand.tmp 21), type := 0, pos := "maps.go:226", after := #[{ on := 0, ground := Ground.data }], guard := none })) (v := ?_) rfl (by kernel_rfl) (by kernel_rfl) (by kernel_rfl) (fun _ _ _ h => h) (Or.inl ⟨by rfl, ?_⟩) (by assumption) ?_
  rotate_left 1
  · (intro w9 hSw; (try dsimp only at hSw); go_simp; try with_reducible rfl)
  try simp only [Act.put, List.setIfInBounds_toArray, List.set_cons_zero, List.set_cons_succ]
  refine wpAnyH_take (i := 2) (oi := ({ dst := some 23, op := Op.fieldAddr 57 (Operand.tmp 22) 0, type := 0, pos := "maps.go:226", after := #[{ on := 1, ground := Ground.data }], guard := none })) (v := ?_) rfl (by kernel_rfl) (by kernel_rfl) (by kernel_rfl) (fun _ _ _ h => h) (Or.inl ⟨by rfl, ?_⟩) (by assumption) ?_
  rotate_left 1
  · (intro w9 hSw; (try dsimp only at hSw); go_simp; try with_reducible rfl)
  try simp only [Act.put, List.setIfInBounds_toArray, List.set_cons_zero, List.set_cons_succ]
  refine wpAnyH_take (i := 3) (oi := ({ dst := some 24, op := Op.load 55 (Operand.tmp 23), type := 55, pos := "maps.go:226", after := #[{ on := 2, ground := Ground.data }], guard := none })) (v := ?_) rfl (by kernel_rfl) (by kernel_rfl) (by kernel_rfl) (fun _ _ _ h => h) (Or.inl ⟨by rfl, ?_⟩) (by assumption) ?_
  rotate_left 1
  · (intro w9 hSw; (try dsimp only at hSw); go_simp; try with_reducible rfl)
  try simp only [Act.put, List.setIfInBounds_toArray, List.set_cons_zero, List.set_cons_succ]
  refine wpAnyH_take (i := 4) (oi := ({ dst := some 25, op := Op.fieldAddr 42 (Operand.tmp 3) 1, type := 0, pos := "maps.go:226", after := #[], guard := none })) (v := ?_) rfl (by kernel_rfl) (by kernel_rfl) (by kernel_rfl) (fun _ _ _ h => h) (Or.inl ⟨by rfl, ?_⟩) (by assumption) ?_
  rotate_left 1
  · (intro w9 hSw; (try dsimp only at hSw); go_simp; try with_reducible rfl)
  try simp only [Act.put, List.setIfInBounds_toArray, List.set_cons_zero, List.set_cons_succ]
  refine wpAnyH_take (i := 5) (oi := ({ dst := some 26, op := Op.fieldAddr 35 (Operand.tmp 25) 1, type := 0, pos := "maps.go:226", after := #[{ on := 4, ground := Ground.data }], guard := none })) (v := ?_) rfl (by kernel_rfl) (by kernel_rfl) (by kernel_rfl) (fun _ _ _ h => h) (Or.inl ⟨by rfl, ?_⟩) (by assumption) ?_
  rotate_left 1
  · (intro w9 hSw; (try dsimp only at hSw); go_simp; try with_reducible rfl)
  try simp only [Act.put, List.setIfInBounds_toArray, List.set_cons_zero, List.set_cons_succ]
  refine wpAnyH_take (i := 6) (oi := ({ dst := some 27, op := Op.load 9 (Operand.tmp 26), type := 9, pos := "maps.go:226", after := #[{ on := 5, ground := Ground.data }], guard := none })) (v := ?_) rfl (by kernel_rfl) (by kernel_rfl) (by kernel_rfl) (fun _ _ _ h => h) (Or.inl ⟨by rfl, ?_⟩) (by assumption) ?_
  rotate_left 1
  · (intro w9 hSw; (try dsimp only at hSw); go_simp; try with_reducible rfl)
  try simp only [Act.put, List.setIfInBounds_toArray, List.set_cons_zero, List.set_cons_succ]
  refine wpAnyH_take (i := 7) (oi := ({ dst := some 28, op := Op.lookup 55 (Operand.tmp 24) (Operand.tmp 27) true, type := 47, pos := "maps.go:226", after := #[{ on := 3, ground := Ground.data }, { on := 6, ground := Ground.data }], guard := none })) (v := (.tuple #[.agg (itC y).toArray, .bool true])) rfl (by kernel_rfl) (by kernel_rfl) (by kernel_rfl) (fun _ _ _ h => h) (Or.inl ⟨by rfl, ?_⟩) (by assumption) ?_
  · (intro w9 hSw; (try dsimp only at hSw); exact exec_lookup rfl rfl rfl (HL.out _ hSw.1))
  try simp only [Act.put, List.setIfInBounds_toArray, List.set_cons_zero, List.set_cons_succ]
  refine wpAnyH_take (i := 8) (oi := ({ dst := some 20, op := Op.move (Operand.tmp 28), type := 47, pos := "maps.go:226", after := #[{ on := 7, ground := Ground.data }], guard := none })) (v := ?_) rfl (by kernel_rfl) (by kernel_rfl) (by kernel_rfl) (fun _ _ _ h => h) (Or.inl ⟨by rfl, ?_⟩) (by assumption) ?_
  rotate_left 1
  · (intro w9 hSw; (try dsimp only at hSw); go_simp; try with_reducible rfl)
  try simp only [Act.put, List.setIfInBounds_toArray, List.set_cons_zero, List.set_cons_succ]
  refine wpAnyH_take (i := 9) (oi := ({ dst := some 29, op := Op.extract (Operand.tmp 20) 0, type := 38, pos := "maps.go:226", after := #[{ on := 8, ground := Ground.data }], guard := none })) (v := ?_) rfl (by kernel_rfl) (by kernel_rfl) (by kernel_rfl) (fun _ _ _ h => h) (Or.inl ⟨by rfl, ?_⟩) (by assumption) ?_
  rotate_left 1
  · (intro w9 hSw; (try dsimp only at hSw); go_simp; try with_reducible rfl)
  try simp only [Act.put, List.setIfInBounds_toArray, List.set_cons_zero, List.set_cons_succ]
  refine wpAnyH_take (i := 10) (oi := ({ dst := some 30, op := Op.extract (Operand.tmp 20) 1, type := 4, pos := "maps.go:226", after := #[{ on := 8, ground := Ground.data }, { on := 12, ground := Ground.gcOnly Departure.lateStores }], guard := none })) (v := ?_) rfl (by kernel_rfl) (by kernel_rfl) (by kernel_rfl) (fun _ _ _ h => h) (Or.inl ⟨by rfl, ?_⟩) (by assumption) ?_
  rotate_left 1
  · (intro w9 hSw; (try dsimp only at hSw); go_simp; try with_reducible rfl)
  try simp only [Act.put, List.setIfInBounds_toArray, List.set_cons_zero, List.set_cons_succ]
  refine wpAnyH_ready (rs := [11]) (by kernel_rfl) (by simp) ?_
  refine AllReadyH.cons (o := ({ dst := some 7, op := Op.alloc 38, type := 0, pos := "maps.go:226", after := #[], guard := none })) rfl (fun K hK => ?_) AllReadyH.nil
  refine step_alloc_bk rfl 38 (itC Itm.none) alloc_it rfl ?_
  intro W6 q6 h6
  have hb6 := fr_new hd5 h6.below
  refine hK.out _ _ (KEEP.out _ hb6) (fun hHeld => ?_)
  clear hK K
  try simp only [Act.put, List.setIfInBounds_toArray, List.set_cons_zero, List.set_cons_succ]
  refine wpAnyH_ready (rs := [12]) (by kernel_rfl) (by simp) ?_
  refine AllReadyH.cons (o := ({ dst := none, op := Op.store 38 (Operand.tmp 7) (Operand.tmp 29), type := 0, pos := "maps.go:226", after := #[{ on := 11, ground := Ground.data }, { on := 9, ground := Ground.data }, { on := 0, ground := Ground.phase }, { on := 1, ground := Ground.phase }, { on := 2, ground := Ground.phase }, { on := 3, ground := Ground.phase }, { on := 4, ground := Ground.phase }, { on := 5, ground := Ground.phase }, { on := 6, ground := Ground.phase }, { on := 7, ground := Ground.phase }, { on := 8, ground := Ground.phase }, { on := 9, ground := Ground.phase }, { on := 10, ground := Ground.textOnly Departure.lateStores }, { on := 11, ground := Ground.phase }], guard := none })) rfl (fun K hK => ?_) AllReadyH.nil
  refine step_store_bk rfl 38 (.tmp 7) (.tmp 29) rfl q6 0 (itC Itm.none) (itC y) (itC y) h6.bk (Nat.le_refl 6) rfl info_it (itC_one _) rfl rfl ?_
  intro W7 h7 k7
  have hb7 := fr_set hb6 k7 (h6.at hd5)
  refine hK.out _ _ (KEEP.out _ hb7) (fun hHeld => ?_)
  clear hK K
  try simp only [Act.put]
  refine wpAnyH_take (i := 13) (oi := ({ dst := some 8, op := Op.assign (Operand.tmp 30), type := 4, pos := "maps.go:226", after := #[{ on := 10, ground := Ground.data }, { on := 12, ground := Ground.chain }, { on := 0, ground := Ground.phase }, { on := 1, ground := Ground.phase }, { on := 2, ground := Ground.phase }, { on := 3, ground := Ground.phase }, { on := 4, ground := Ground.phase }, { on := 5, ground := Ground.phase }, { on := 6, ground := Ground.phase }, { on := 7, ground := Ground.phase }, { on := 8, ground := Ground.phase }, { on := 9, ground := Ground.phase }, { on := 10, ground := Ground.phase }, { on := 11, ground := Ground.phase }, { on := 12, ground := Ground.phase }], guard := none })) (v := ?_) rfl (by kernel_rfl) (by kernel_rfl) (by kernel_rfl) (fun _ _ _ h => h) (Or.inl ⟨by rfl, ?_⟩) (by assumption) ?_
  rotate_left 1
  · (intro w9 hSw; (try dsimp only at hSw); go_simp; try with_reducible rfl)
  try simp only [Act.put, List.setIfInBounds_toArray, List.set_cons_zero, List.set_cons_succ]
  refine wpAnyH_done (by kernel_rfl) ?_ _
  have HB7 := Lib.hid (HB5.out.new hb7)
  have H57 := Lib.hid (H5.out.new hb7)
  have HM7 := Lib.hid (HM5.out.new hb7)
  have HF7 := Lib.hid (fr_new HF5.out hb7)
  obtain ⟨c2, c18⟩ := cld_cells HB7.out
  have y15 := H57.out.at_ 15 _ rfl
  clear hHeld
  go_wp2_with (first
    | ((with_reducible refine at_wp ?_); refine wpList_load_bk rfl 40 (.tmp 35) rfl q1 10 (cldC d) (ansC d.a) HB7.out rfl _ Tryd.underlying40 rfl info_an rfl ?_)
    | ((with_reducible refine at_wp ?_); refine wpList_load_bk rfl 40 (.tmp 37) rfl q4 0 (givC g) (ansC g.a) H57.out rfl _ Tryd.underlying40 rfl info_an rfl ?_)
    | ((with_reducible refine at_wp ?_); refine wpList_load_bk rfl 40 (.tmp 54) rfl q1 10 (cldC d) (ansC d.a) HB7.out rfl _ Tryd.underlying40 rfl info_an rfl ?_)
    | ((with_reducible refine at_wp ?_); refine wpList_givl rfl (.tmp 5) rfl q4 g H57.out rfl ?_)
    | (go_at_call 39; refine (mtakew m mv S d.c.key g _ HM7.out HS.out.uniq hL HC.out.key HK.out).mono ?_; rintro e W8 ⟨rfl, mv', h8, k8, n8⟩))
  go_ret
  refine ⟨rfl, mv', h8, (mk_keeps (m := m) (mv := mv) HF7.out).trans k8 (fun _ _ s => s), ?_⟩
  rcases n8 with n8 | ⟨b, n8, n9⟩
  · exact .inl n8
  · exact .inr ⟨b, n8, Nat.le_trans HF7.out.size n9⟩
set_option maxHeartbeats 4000000 in
set_option maxRecDepth 100000 in
theorem fit_true_nost_any (h : Mp w m mv S) (hS : MOk S) (hc : CalOk d.c) (hx : 0 ≤ d.e ∧ d.e < 18446744073709551616) (htab : Lib.TabIs Tryd.prog w "internal/strconv.uint64pow10" .u64 Lib.pow10Tab) {g : Giv} (ho : mgives S d.c d.e = some g) (ha : ¬ d.a = g.a) (hs : (mlook S.L d.c.key).isSome = true) : Calls Tryd.prog 17 #[.pointer (some ⟨m, 0, none⟩), .agg (cldC d).toArray] w (FtP w m mv (false, S)) := by
  have hq0 : ∀ W, (binOp .eql 40 (.agg (ansC d.a).toArray) (.agg (ansC g.a).toArray)).run Tryd.prog W = .ok (.bool false) W := fun W => by
    rw [an_eql, decide_eq_false ha]
  clear ha
  obtain ⟨y, hy⟩ : ∃ y, (mlook S.L d.c.key).getD Itm.none = y := ⟨_, rfl⟩
  have HL : Hid (∀ X, Mp X m mv S → (Instr.lookup 55 (.map mv) (.string d.c.key) true).run Tryd.prog X = .ok (.tuple #[.agg (itC y).toArray, .bool true]) X) := Lib.hid fun X hX => by
    have := hX.look hc.key
    unfold lkV at this
    rw [hy, hs] at this
    exact this
  have H := Lib.hid h
  have HS := Lib.hid hS
  have HC := Lib.hid hc
  have HX := Lib.hid hx
  have HT := Lib.hid htab
  have HO := Lib.hid ho
  have HSS := Lib.hid hs
  clear h hS hc hx htab ho hs hy
  go_enter Tryd.func17, Tryd.ntmps17
  go_wp2_with (first
    | ((with_reducible refine at_wp ?_); refine wpList_box_bk rfl 42 (.tmp 1) rfl (cldC d) rfl ?_; intro W1 q1 h1; obtain ⟨c2, c18⟩ := cld_cells h1.bk)
    | ((with_reducible refine at_wp ?_); refine wpList_load_bk rfl 35 (.tmp 13) rfl q1 1 (cldC d) (calC d.c) h1.bk rfl _ Tryd.underlying35 rfl info_ca rfl ?_)
    | (go_at_call 36; refine (givesw (H.out.new h1.below) HS.out HC.out HX.out (tab_below HT.out h1.below)).mono ?_; rintro e W3 ⟨rfl, b3⟩; rw [HO.out])
    | ((with_reducible refine at_wp ?_); refine wpList_alloc_bk rfl 83 (givC Giv.none) alloc_giv rfl ?_; intro W4 q4 h4)
    | ((with_reducible refine at_wp ?_); refine wpList_giv rfl (.tmp 5) (.tmp 18) rfl q4 Giv.none g h4.bk rfl rfl ?_; intro W5 h5 k5))
  have e0 := fr_new h1.below b3
  have HF5 := Lib.hid (fr_set (fr_new e0 h4.below) k5 (h4.at e0))
  have HM5 := Lib.hid (H.out.new HF5.out)
  have HB5 := Lib.hid ((h1.bk.new (fr_new b3 h4.below)).keep k5 (by have e1 := h1.bk.lt; have e2 := h4.eq; have e3 := b3.size; omega))
  have H5 := Lib.hid h5
  have hd5 : Below W5.heap.size W5 W5.drew := (Below.refl _ _).drew
  have KEEP : Hid (∀ X, Below W5.heap.size W5 X → Mp X m mv S ∧ X.cell? ⟨m, 0, none⟩ = some (.map mv) ∧ X.cell? ⟨q1, 2, none⟩ = some (.string d.c.key)) := Lib.hid fun X hb => ⟨HM5.out.new hb, (HM5.out.new hb).bk.at_ 0 _ rfl, (HB5.out.new hb).at_ 2 _ rfl⟩
  clear c2 c18 h5 k5 e0
  refine wp_region_held_drew (S := fun X => Mp X m mv S ∧ X.cell? ⟨m, 0, none⟩ = some (.map mv) ∧ X.cell? ⟨q1, 2, none⟩ = some (.string d.c.key)) (by kernel_rfl) (KEEP.out _ hd5) (fun hHeld => ?_)
  refine wpAnyH_take (i := 0) (oi := ({ dst := some 21, op := Op.move (Operand.tmp 0), type := 25, pos := "maps.go:226", after := #[], guard := none })) (v := ?_) rfl (by kernel_rfl) (by kernel_rfl) (by kernel_rfl) (fun _ _ _ h => h) (Or.inl ⟨by rfl, ?_⟩) (by assumption) ?_
  rotate_left 1
  · (intro w9 hSw; (try dsimp only at hSw); go_simp; try with_reducible rfl)
  try simp only [Act.put, List.setIfInBounds_toArray, List.set_cons_zero, List.set_cons_succ]
  refine wpAnyH_take (i := 1) (oi := ({ dst := some 22, op := Op.nilCheck (Operand.tmp 21), type := 0, pos := "maps.go:226", after := #[{ on := 0, ground := Ground.data }], guard := none })) (v := ?_) rfl (by kernel_rfl) (by kernel_rfl) (by kernel_rfl) (fun _ _ _ h => h) (Or.inl ⟨by rfl, ?_⟩) (by assumption) ?_
  rotate_left 1
  · (intro w9 hSw; (try dsimp only at hSw); go_simp; try with_reducible rfl)
  try simp only [Act.put, List.setIfInBounds_toArray, List.set_cons_zero, List.set_cons_succ]
  refine wpAnyH_take (i := 2) (oi := ({ dst := some 23, op := Op.fieldAddr 57 (Operand.tmp 22) 0, type := 0, pos := "maps.go:226", after := #[{ on := 1, ground := Ground.data }], guard := none })) (v := ?_) rfl (by kernel_rfl) (by kernel_rfl) (by kernel_rfl) (fun _ _ _ h => h) (Or.inl ⟨by rfl, ?_⟩) (by assumption) ?_
  rotate_left 1
  · (intro w9 hSw; (try dsimp only at hSw); go_simp; try with_reducible rfl)
  try simp only [Act.put, List.setIfInBounds_toArray, List.set_cons_zero, List.set_cons_succ]
  refine wpAnyH_take (i := 3) (oi := ({ dst := some 24, op := Op.load 55 (Operand.tmp 23), type := 55, pos := "maps.go:226", after := #[{ on := 2, ground := Ground.data }], guard := none })) (v := ?_) rfl (by kernel_rfl) (by kernel_rfl) (by kernel_rfl) (fun _ _ _ h => h) (Or.inl ⟨by rfl, ?_⟩) (by assumption) ?_
  rotate_left 1
  · (intro w9 hSw; (try dsimp only at hSw); go_simp; try with_reducible rfl)
  try simp only [Act.put, List.setIfInBounds_toArray, List.set_cons_zero, List.set_cons_succ]
  refine wpAnyH_take (i := 4) (oi := ({ dst := some 25, op := Op.fieldAddr 42 (Operand.tmp 3) 1, type := 0, pos := "maps.go:226", after := #[], guard := none })) (v := ?_) rfl (by kernel_rfl) (by kernel_rfl) (by kernel_rfl) (fun _ _ _ h => h) (Or.inl ⟨by rfl, ?_⟩) (by assumption) ?_
  rotate_left 1
  · (intro w9 hSw; (try dsimp only at hSw); go_simp; try with_reducible rfl)
  try simp only [Act.put, List.setIfInBounds_toArray, List.set_cons_zero, List.set_cons_succ]
  refine wpAnyH_take (i := 5) (oi := ({ dst := some 26, op := Op.fieldAddr 35 (Operand.tmp 25) 1, type := 0, pos := "maps.go:226", after := #[{ on := 4, ground := Ground.data }], guard := none })) (v := ?_) rfl (by kernel_rfl) (by kernel_rfl) (by kernel_rfl) (fun _ _ _ h => h) (Or.inl ⟨by rfl, ?_⟩) (by assumption) ?_
  rotate_left 1
  · (intro w9 hSw; (try dsimp only at hSw); go_simp; try with_reducible rfl)
  try simp only [Act.put, List.setIfInBounds_toArray, List.set_cons_zero, List.set_cons_succ]
  refine wpAnyH_take (i := 6) (oi := ({ dst := some 27, op := Op.load 9 (Operand.tmp 26), type := 9, pos := "maps.go:226", after := #[{ on := 5, ground := Ground.data }], guard := none })) (v := ?_) rfl (by kernel_rfl) (by kernel_rfl) (by kernel_rfl) (fun _ _ _ h => h) (Or.inl ⟨by rfl, ?_⟩) (by assumption) ?_
  rotate_left 1
  · (intro w9 hSw; (try dsimp only at hSw); go_simp; try with_reducible rfl)
  try simp only [Act.put, List.setIfInBounds_toArray, List.set_cons_zero, List.set_cons_succ]
  refine wpAnyH_take (i := 7) (oi := ({ dst := some 28, op := Op.lookup 55 (Operand.tmp 24) (Operand.tmp 27) true, type := 47, pos := "maps.go:226", after := #[{ on := 3, ground := Ground.data }, { on := 6, ground := Ground.data }], guard := none })) (v := (.tuple #[.agg (itC y).toArray, .bool true])) rfl (by kernel_rfl) (by kernel_rfl) (by kernel_rfl) (fun _ _ _ h => h) (Or.inl ⟨by rfl, ?_⟩) (by assumption) ?_
  · (intro w9 hSw; (try dsimp only at hSw); exact exec_lookup rfl rfl rfl (HL.out _ hSw.1))
  try simp only [Act.put, List.setIfInBounds_toArray, List.set_cons_zero, List.set_cons_succ]
  refine wpAnyH_take (i := 8) (oi := ({ dst := some 20, op := Op.move (Operand.tmp 28), type := 47, pos := "maps.go:226", after := #[{ on := 7, ground := Ground.data }], guard := none })) (v := ?_) rfl (by kernel_rfl) (by kernel_rfl) (by kernel_rfl) (fun _ _ _ h => h) (Or.inl ⟨by rfl, ?_⟩) (by assumption) ?_
  rotate_left 1
  · (intro w9 hSw; (try dsimp only at hSw); go_simp; try with_reducible rfl)
  try simp only [Act.put, List.setIfInBounds_toArray, List.set_cons_zero, List.set_cons_succ]
  refine wpAnyH_take (i := 9) (oi := ({ dst := some 29, op := Op.extract (Operand.tmp 20) 0, type := 38, pos := "maps.go:226", after := #[{ on := 8, ground := Ground.data }], guard := none })) (v := ?_) rfl (by kernel_rfl) (by kernel_rfl) (by kernel_rfl) (fun _ _ _ h => h) (Or.inl ⟨by rfl, ?_⟩) (by assumption) ?_
  rotate_left 1
  · (intro w9 hSw; (try dsimp only at hSw); go_simp; try with_reducible rfl)
  try simp only [Act.put, List.setIfInBounds_toArray, List.set_cons_zero, List.set_cons_succ]
  refine wpAnyH_take (i := 10) (oi := ({ dst := some 30, op := Op.extract (Operand.tmp 20) 1, type := 4, pos := "maps.go:226", after := #[{ on := 8, ground := Ground.data }, { on := 12, ground := Ground.gcOnly Departure.lateStores }], guard := none })) (v := ?_) rfl (by kernel_rfl) (by kernel_rfl) (by kernel_rfl) (fun _ _ _ h => h) (Or.inl ⟨by rfl, ?_⟩) (by assumption) ?_
  rotate_left 1
  · (intro w9 hSw; (try dsimp only at hSw); go_simp; try with_reducible rfl)
  try simp only [Act.put, List.setIfInBounds_toArray, List.set_cons_zero, List.set_cons_succ]
  refine wpAnyH_ready (rs := [11]) (by kernel_rfl) (by simp) ?_
  refine AllReadyH.cons (o := ({ dst := some 7, op := Op.alloc 38, type := 0, pos := "maps.go:226", after := #[], guard := none })) rfl (fun K hK => ?_) AllReadyH.nil
  refine step_alloc_bk rfl 38 (itC Itm.none) alloc_it rfl ?_
  intro W6 q6 h6
  have hb6 := fr_new hd5 h6.below
  refine hK.out _ _ (KEEP.out _ hb6) (fun hHeld => ?_)
  clear hK K
  try simp only [Act.put, List.setIfInBounds_toArray, List.set_cons_zero, List.set_cons_succ]
  refine wpAnyH_ready (rs := [12]) (by kernel_rfl) (by simp) ?_
  refine AllReadyH.cons (o := ({ dst := none, op := Op.store 38 (Operand.tmp 7) (Operand.tmp 29), type := 0, pos := "maps.go:226", after := #[{ on := 11, ground := Ground.data }, { on := 9, ground := Ground.data }, { on := 0, ground := Ground.phase }, { on := 1, ground := Ground.phase }, { on := 2, ground := Ground.phase }, { on := 3, ground := Ground.phase }, { on := 4, ground := Ground.phase }, { on := 5, ground := Ground.phase }, { on := 6, ground := Ground.phase }, { on := 7, ground := Ground.phase }, { on := 8, ground := Ground.phase }, { on := 9, ground := Ground.phase }, { on := 10, ground := Ground.textOnly Departure.lateStores }, { on := 11, ground := Ground.phase }], guard := none })) rfl (fun K hK => ?_) AllReadyH.nil
  refine step_store_bk rfl 38 (.tmp 7) (.tmp 29) rfl q6 0 (itC Itm.none) (itC y) (itC y) h6.bk (Nat.le_refl 6) rfl info_it (itC_one _) rfl rfl ?_
  intro W7 h7 k7
  have hb7 := fr_set hb6 k7 (h6.at hd5)
  refine hK.out _ _ (KEEP.out _ hb7) (fun hHeld => ?_)
  clear hK K
  try simp only [Act.put]
  refine wpAnyH_take (i := 13) (oi := ({ dst := some 8, op := Op.assign (Operand.tmp 30), type := 4, pos := "maps.go:226", after := #[{ on := 10, ground := Ground.data }, { on := 12, ground := Ground.chain }, { on := 0, ground := Ground.phase }, { on := 1, ground := Ground.phase }, { on := 2, ground := Ground.phase }, { on := 3, ground := Ground.phase }, { on := 4, ground := Ground.phase }, { on := 5, ground := Ground.phase }, { on := 6, ground := Ground.phase }, { on := 7, ground := Ground.phase }, { on := 8, ground := Ground.phase }, { on := 9, ground := Ground.phase }, { on := 10, ground := Ground.phase }, { on := 11, ground := Ground.phase }, { on := 12, ground := Ground.phase }], guard := none })) (v := ?_) rfl (by kernel_rfl) (by kernel_rfl) (by kernel_rfl) (fun _ _ _ h => h) (Or.inl ⟨by rfl, ?_⟩) (by assumption) ?_
  rotate_left 1
  · (intro w9 hSw; (try dsimp only at hSw); go_simp; try with_reducible rfl)
  try simp only [Act.put, List.setIfInBounds_toArray, List.set_cons_zero, List.set_cons_succ]
  refine wpAnyH_done (by kernel_rfl) ?_ _
  have HB7 := Lib.hid (HB5.out.new hb7)
  have H57 := Lib.hid (H5.out.new hb7)
  have HM7 := Lib.hid (HM5.out.new hb7)
  have HF7 := Lib.hid (fr_new HF5.out hb7)
  obtain ⟨c2, c18⟩ := cld_cells HB7.out
  have y15 := H57.out.at_ 15 _ rfl
  clear hHeld
  obtain ⟨bs, hbs⟩ : ∃ b, g.st = b := ⟨_, rfl⟩
  rw [hbs] at y15
  have HBS := Lib.hid hbs
  clear hbs
  cases bs
  all_goals
    go_wp2_with (first
      | ((with_reducible refine at_wp ?_); refine wpList_load_bk rfl 40 (.tmp 35) rfl q1 10 (cldC d) (ansC d.a) HB7.out rfl _ Tryd.underlying40 rfl info_an rfl ?_)
      | ((with_reducible refine at_wp ?_); refine wpList_load_bk rfl 40 (.tmp 37) rfl q4 0 (givC g) (ansC g.a) H57.out rfl _ Tryd.underlying40 rfl info_an rfl ?_)
      | ((with_reducible refine at_wp ?_); refine wpList_load_bk rfl 40 (.tmp 54) rfl q1 10 (cldC d) (ansC d.a) HB7.out rfl _ Tryd.underlying40 rfl info_an rfl ?_))
    go_ret
    exact ⟨rfl, mv, HM7.out, mk_keeps HF7.out, .inl rfl⟩
set_option maxHeartbeats 4000000 in
set_option maxRecDepth 100000 in
theorem fit_no_false (h : Mp w m mv S) (hS : MOk S) (hc : CalOk d.c) (hx : 0 ≤ d.e ∧ d.e < 18446744073709551616) (htab : Lib.TabIs Tryd.prog w "internal/strconv.uint64pow10" .u64 Lib.pow10Tab) (ho : mgives S d.c d.e = .none) (hs : (mlook S.L d.c.key).isSome = false) : Calls Tryd.prog 17 #[.pointer (some ⟨m, 0, none⟩), .agg (cldC d).toArray] w (FtP w m mv (false, S)) := by
  obtain ⟨y, hy⟩ : ∃ y, (mlook S.L d.c.key).getD Itm.none = y := ⟨_, rfl⟩
  have HL : Hid (∀ X, Mp X m mv S → (Instr.lookup 55 (.map mv) (.string d.c.key) true).run Tryd.prog X = .ok (.tuple #[.agg (itC y).toArray, .bool false]) X) := Lib.hid fun X hX => by
    have := hX.look hc.key
    unfold lkV at this
    rw [hy, hs] at this
    exact this
  have H := Lib.hid h
  have HS := Lib.hid hS
  have HC := Lib.hid hc
  have HX := Lib.hid hx
  have HT := Lib.hid htab
  have HO := Lib.hid ho
  have HSS := Lib.hid hs
  clear h hS hc hx htab ho hs hy
  go_enter Tryd.func17, Tryd.ntmps17
  go_wp2_with (first
    | ((with_reducible refine at_wp ?_); refine wpList_box_bk rfl 42 (.tmp 1) rfl (cldC d) rfl ?_; intro W1 q1 h1; obtain ⟨c2, c18⟩ := cld_cells h1.bk)
    | ((with_reducible refine at_wp ?_); refine wpList_load_bk rfl 35 (.tmp 13) rfl q1 1 (cldC d) (calC d.c) h1.bk rfl _ Tryd.underlying35 rfl info_ca rfl ?_)
    | (go_at_call 36; refine (givesw (H.out.new h1.below) HS.out HC.out HX.out (tab_below HT.out h1.below)).mono ?_; rintro e W3 ⟨rfl, b3⟩; rw [HO.out])
    | ((with_reducible refine at_wp ?_); refine wpList_alloc_bk rfl 83 (givC Giv.none) alloc_giv rfl ?_; intro W4 q4 h4)
    | ((with_reducible refine at_wp ?_); refine wpList_giv rfl (.tmp 5) (.tmp 18) rfl q4 Giv.none Giv.none h4.bk rfl rfl ?_; intro W5 h5 k5))
  have e0 := fr_new h1.below b3
  have HF5 := Lib.hid (fr_set (fr_new e0 h4.below) k5 (h4.at e0))
  have HM5 := Lib.hid (H.out.new HF5.out)
  have HB5 := Lib.hid ((h1.bk.new (fr_new b3 h4.below)).keep k5 (by have e1 := h1.bk.lt; have e2 := h4.eq; have e3 := b3.size; omega))
  have H5 := Lib.hid h5
  have hd5 : Below W5.heap.size W5 W5.drew := (Below.refl _ _).drew
  have KEEP : Hid (∀ X, Below W5.heap.size W5 X → Mp X m mv S ∧ X.cell? ⟨m, 0, none⟩ = some (.map mv) ∧ X.cell? ⟨q1, 2, none⟩ = some (.string d.c.key)) := Lib.hid fun X hb => ⟨HM5.out.new hb, (HM5.out.new hb).bk.at_ 0 _ rfl, (HB5.out.new hb).at_ 2 _ rfl⟩
  clear c2 c18 h5 k5 e0
  refine wp_region_held_drew (S := fun X => Mp X m mv S ∧ X.cell? ⟨m, 0, none⟩ = some (.map mv) ∧ X.cell? ⟨q1, 2, none⟩ = some (.string d.c.key)) (by kernel_rfl) (KEEP.out _ hd5) (fun hHeld => ?_)
  refine wpAnyH_take (i := 0) (oi := ({ dst := some 21, op := Op.move (Operand.tmp 0), type := 25, pos := "maps.go:226", after := #[], guard := none })) (v := ?_) rfl (by kernel_rfl) (by kernel_rfl) (by kernel_rfl) (fun _ _ _ h => h) (Or.inl ⟨by rfl, ?_⟩) (by assumption) ?_
  rotate_left 1
  · (intro w9 hSw; (try dsimp only at hSw); go_simp; try with_reducible rfl)
  try simp only [Act.put, List.setIfInBounds_toArray, List.set_cons_zero, List.set_cons_succ]
  refine wpAnyH_take (i := 1) (oi := ({ dst := some 22, op := Op.nilCheck (Operand.tmp 21), type := 0, pos := "maps.go:226", after := #[{ on := 0, ground := Ground.data }], guard := none })) (v := ?_) rfl (by kernel_rfl) (by kernel_rfl) (by kernel_rfl) (fun _ _ _ h => h) (Or.inl ⟨by rfl, ?_⟩) (by assumption) ?_
  rotate_left 1
  · (intro w9 hSw; (try dsimp only at hSw); go_simp; try with_reducible rfl)
  try simp only [Act.put, List.setIfInBounds_toArray, List.set_cons_zero, List.set_cons_succ]
  refine wpAnyH_take (i := 2) (oi := ({ dst := some 23, op := Op.fieldAddr 57 (Operand.tmp 22) 0, type := 0, pos := "maps.go:226", after := #[{ on := 1, ground := Ground.data }], guard := none })) (v := ?_) rfl (by kernel_rfl) (by kernel_rfl) (by kernel_rfl) (fun _ _ _ h => h) (Or.inl ⟨by rfl, ?_⟩) (by assumption) ?_
  rotate_left 1
  · (intro w9 hSw; (try dsimp only at hSw); go_simp; try with_reducible rfl)
  try simp only [Act.put, List.setIfInBounds_toArray, List.set_cons_zero, List.set_cons_succ]
  refine wpAnyH_take (i := 3) (oi := ({ dst := some 24, op := Op.load 55 (Operand.tmp 23), type := 55, pos := "maps.go:226", after := #[{ on := 2, ground := Ground.data }], guard := none })) (v := ?_) rfl (by kernel_rfl) (by kernel_rfl) (by kernel_rfl) (fun _ _ _ h => h) (Or.inl ⟨by rfl, ?_⟩) (by assumption) ?_
  rotate_left 1
  · (intro w9 hSw; (try dsimp only at hSw); go_simp; try with_reducible rfl)
  try simp only [Act.put, List.setIfInBounds_toArray, List.set_cons_zero, List.set_cons_succ]
  refine wpAnyH_take (i := 4) (oi := ({ dst := some 25, op := Op.fieldAddr 42 (Operand.tmp 3) 1, type := 0, pos := "maps.go:226", after := #[], guard := none })) (v := ?_) rfl (by kernel_rfl) (by kernel_rfl) (by kernel_rfl) (fun _ _ _ h => h) (Or.inl ⟨by rfl, ?_⟩) (by assumption) ?_
  rotate_left 1
  · (intro w9 hSw; (try dsimp only at hSw); go_simp; try with_reducible rfl)
  try simp only [Act.put, List.setIfInBounds_toArray, List.set_cons_zero, List.set_cons_succ]
  refine wpAnyH_take (i := 5) (oi := ({ dst := some 26, op := Op.fieldAddr 35 (Operand.tmp 25) 1, type := 0, pos := "maps.go:226", after := #[{ on := 4, ground := Ground.data }], guard := none })) (v := ?_) rfl (by kernel_rfl) (by kernel_rfl) (by kernel_rfl) (fun _ _ _ h => h) (Or.inl ⟨by rfl, ?_⟩) (by assumption) ?_
  rotate_left 1
  · (intro w9 hSw; (try dsimp only at hSw); go_simp; try with_reducible rfl)
  try simp only [Act.put, List.setIfInBounds_toArray, List.set_cons_zero, List.set_cons_succ]
  refine wpAnyH_take (i := 6) (oi := ({ dst := some 27, op := Op.load 9 (Operand.tmp 26), type := 9, pos := "maps.go:226", after := #[{ on := 5, ground := Ground.data }], guard := none })) (v := ?_) rfl (by kernel_rfl) (by kernel_rfl) (by kernel_rfl) (fun _ _ _ h => h) (Or.inl ⟨by rfl, ?_⟩) (by assumption) ?_
  rotate_left 1
  · (intro w9 hSw; (try dsimp only at hSw); go_simp; try with_reducible rfl)
  try simp only [Act.put, List.setIfInBounds_toArray, List.set_cons_zero, List.set_cons_succ]
  refine wpAnyH_take (i := 7) (oi := ({ dst := some 28, op := Op.lookup 55 (Operand.tmp 24) (Operand.tmp 27) true, type := 47, pos := "maps.go:226", after := #[{ on := 3, ground := Ground.data }, { on := 6, ground := Ground.data }], guard := none })) (v := (.tuple #[.agg (itC y).toArray, .bool false])) rfl (by kernel_rfl) (by kernel_rfl) (by kernel_rfl) (fun _ _ _ h => h) (Or.inl ⟨by rfl, ?_⟩) (by assumption) ?_
  · (intro w9 hSw; (try dsimp only at hSw); exact exec_lookup rfl rfl rfl (HL.out _ hSw.1))
  try simp only [Act.put, List.setIfInBounds_toArray, List.set_cons_zero, List.set_cons_succ]
  refine wpAnyH_take (i := 8) (oi := ({ dst := some 20, op := Op.move (Operand.tmp 28), type := 47, pos := "maps.go:226", after := #[{ on := 7, ground := Ground.data }], guard := none })) (v := ?_) rfl (by kernel_rfl) (by kernel_rfl) (by kernel_rfl) (fun _ _ _ h => h) (Or.inl ⟨by rfl, ?_⟩) (by assumption) ?_
  rotate_left 1
  · (intro w9 hSw; (try dsimp only at hSw); go_simp; try with_reducible rfl)
  try simp only [Act.put, List.setIfInBounds_toArray, List.set_cons_zero, List.set_cons_succ]
  refine wpAnyH_take (i := 9) (oi := ({ dst := some 29, op := Op.extract (Operand.tmp 20) 0, type := 38, pos := "maps.go:226", after := #[{ on := 8, ground := Ground.data }], guard := none })) (v := ?_) rfl (by kernel_rfl) (by kernel_rfl) (by kernel_rfl) (fun _ _ _ h => h) (Or.inl ⟨by rfl, ?_⟩) (by assumption) ?_
  rotate_left 1
  · (intro w9 hSw; (try dsimp only at hSw); go_simp; try with_reducible rfl)
  try simp only [Act.put, List.setIfInBounds_toArray, List.set_cons_zero, List.set_cons_succ]
  refine wpAnyH_take (i := 10) (oi := ({ dst := some 30, op := Op.extract (Operand.tmp 20) 1, type := 4, pos := "maps.go:226", after := #[{ on := 8, ground := Ground.data }, { on := 12, ground := Ground.gcOnly Departure.lateStores }], guard := none })) (v := ?_) rfl (by kernel_rfl) (by kernel_rfl) (by kernel_rfl) (fun _ _ _ h => h) (Or.inl ⟨by rfl, ?_⟩) (by assumption) ?_
  rotate_left 1
  · (intro w9 hSw; (try dsimp only at hSw); go_simp; try with_reducible rfl)
  try simp only [Act.put, List.setIfInBounds_toArray, List.set_cons_zero, List.set_cons_succ]
  refine wpAnyH_ready (rs := [11]) (by kernel_rfl) (by simp) ?_
  refine AllReadyH.cons (o := ({ dst := some 7, op := Op.alloc 38, type := 0, pos := "maps.go:226", after := #[], guard := none })) rfl (fun K hK => ?_) AllReadyH.nil
  refine step_alloc_bk rfl 38 (itC Itm.none) alloc_it rfl ?_
  intro W6 q6 h6
  have hb6 := fr_new hd5 h6.below
  refine hK.out _ _ (KEEP.out _ hb6) (fun hHeld => ?_)
  clear hK K
  try simp only [Act.put, List.setIfInBounds_toArray, List.set_cons_zero, List.set_cons_succ]
  refine wpAnyH_ready (rs := [12]) (by kernel_rfl) (by simp) ?_
  refine AllReadyH.cons (o := ({ dst := none, op := Op.store 38 (Operand.tmp 7) (Operand.tmp 29), type := 0, pos := "maps.go:226", after := #[{ on := 11, ground := Ground.data }, { on := 9, ground := Ground.data }, { on := 0, ground := Ground.phase }, { on := 1, ground := Ground.phase }, { on := 2, ground := Ground.phase }, { on := 3, ground := Ground.phase }, { on := 4, ground := Ground.phase }, { on := 5, ground := Ground.phase }, { on := 6, ground := Ground.phase }, { on := 7, ground := Ground.phase }, { on := 8, ground := Ground.phase }, { on := 9, ground := Ground.phase }, { on := 10, ground := Ground.textOnly Departure.lateStores }, { on := 11, ground := Ground.phase }], guard := none })) rfl (fun K hK => ?_) AllReadyH.nil
  refine step_store_bk rfl 38 (.tmp 7) (.tmp 29) rfl q6 0 (itC Itm.none) (itC y) (itC y) h6.bk (Nat.le_refl 6) rfl info_it (itC_one _) rfl rfl ?_
  intro W7 h7 k7
  have hb7 := fr_set hb6 k7 (h6.at hd5)
  refine hK.out _ _ (KEEP.out _ hb7) (fun hHeld => ?_)
  clear hK K
  try simp only [Act.put]
  refine wpAnyH_take (i := 13) (oi := ({ dst := some 8, op := Op.assign (Operand.tmp 30), type := 4, pos := "maps.go:226", after := #[{ on := 10, ground := Ground.data }, { on := 12, ground := Ground.chain }, { on := 0, ground := Ground.phase }, { on := 1, ground := Ground.phase }, { on := 2, ground := Ground.phase }, { on := 3, ground := Ground.phase }, { on := 4, ground := Ground.phase }, { on := 5, ground := Ground.phase }, { on := 6, ground := Ground.phase }, { on := 7, ground := Ground.phase }, { on := 8, ground := Ground.phase }, { on := 9, ground := Ground.phase }, { on := 10, ground := Ground.phase }, { on := 11, ground := Ground.phase }, { on := 12, ground := Ground.phase }], guard := none })) (v := ?_) rfl (by kernel_rfl) (by kernel_rfl) (by kernel_rfl) (fun _ _ _ h => h) (Or.inl ⟨by rfl, ?_⟩) (by assumption) ?_
  rotate_left 1
  · (intro w9 hSw; (try dsimp only at hSw); go_simp; try with_reducible rfl)
  try simp only [Act.put, List.setIfInBounds_toArray, List.set_cons_zero, List.set_cons_succ]
  refine wpAnyH_done (by kernel_rfl) ?_ _
  have HB7 := Lib.hid (HB5.out.new hb7)
  have H57 := Lib.hid (H5.out.new hb7)
  have HM7 := Lib.hid (HM5.out.new hb7)
  have HF7 := Lib.hid (fr_new HF5.out hb7)
  obtain ⟨c2, c18⟩ := cld_cells HB7.out
  have y15 := H57.out.at_ 15 _ rfl
  clear hHeld
  go_wp2_with fail
  go_ret
  exact ⟨rfl, mv, HM7.out, mk_keeps HF7.out, .inl rfl⟩
set_option maxHeartbeats 4000000 in
set_option maxRecDepth 100000 in
theorem fit_yes_false (h : Mp w m mv S) (hS : MOk S) (hc : CalOk d.c) (hx : 0 ≤ d.e ∧ d.e < 18446744073709551616) (htab : Lib.TabIs Tryd.prog w "internal/strconv.uint64pow10" .u64 Lib.pow10Tab) {g : Giv} (ho : mgives S d.c d.e = some g) (ha : d.a = g.a) (hk : g.is = true → g.r.k = d.c.key) (hL : S.L.length < maxLen) (hs : (mlook S.L d.c.key).isSome = false) : Calls Tryd.prog 17 #[.pointer (some ⟨m, 0, none⟩), .agg (cldC d).toArray] w (FtP w m mv (true, mtake S d.c.key g)) := by
  have hq0 : ∀ W, (binOp .eql 40 (.agg (ansC d.a).toArray) (.agg (ansC g.a).toArray)).run Tryd.prog W = .ok (.bool true) W := fun W => by
    rw [an_eql, ha, decide_eq_true rfl]
  have HK := Lib.hid hk
  clear hk ha
  obtain ⟨y, hy⟩ : ∃ y, (mlook S.L d.c.key).getD Itm.none = y := ⟨_, rfl⟩
  have HL : Hid (∀ X, Mp X m mv S → (Instr.lookup 55 (.map mv) (.string d.c.key) true).run Tryd.prog X = .ok (.tuple #[.agg (itC y).toArray, .bool false]) X) := Lib.hid fun X hX => by
    have := hX.look hc.key
    unfold lkV at this
    rw [hy, hs] at this
    exact this
  have H := Lib.hid h
  have HS := Lib.hid hS
  have HC := Lib.hid hc
  have HX := Lib.hid hx
  have HT := Lib.hid htab
  have HO := Lib.hid ho
  have HSS := Lib.hid hs
  clear h hS hc hx htab ho hs hy
  go_enter Tryd.func17, Tryd.ntmps17
  go_wp2_with (first
    | ((with_reducible refine at_wp ?_); refine wpList_box_bk rfl 42 (.tmp 1) rfl (cldC d) rfl ?_; intro W1 q1 h1; obtain ⟨c2, c18⟩ := cld_cells h1.bk)
    | ((with_reducible refine at_wp ?_); refine wpList_load_bk rfl 35 (.tmp 13) rfl q1 1 (cldC d) (calC d.c) h1.bk rfl _ Tryd.underlying35 rfl info_ca rfl ?_)
    | (go_at_call 36; refine (givesw (H.out.new h1.below) HS.out HC.out HX.out (tab_below HT.out h1.below)).mono ?_; rintro e W3 ⟨rfl, b3⟩; rw [HO.out])
    | ((with_reducible refine at_wp ?_); refine wpList_alloc_bk rfl 83 (givC Giv.none) alloc_giv rfl ?_; intro W4 q4 h4)
    | ((with_reducible refine at_wp ?_); refine wpList_giv rfl (.tmp 5) (.tmp 18) rfl q4 Giv.none g h4.bk rfl rfl ?_; intro W5 h5 k5))
  have e0 := fr_new h1.below b3
  have HF5 := Lib.hid (fr_set (fr_new e0 h4.below) k5 (h4.at e0))
  have HM5 := Lib.hid (H.out.new HF5.out)
  have HB5 := Lib.hid ((h1.bk.new (fr_new b3 h4.below)).keep k5 (by have e1 := h1.bk.lt; have e2 := h4.eq; have e3 := b3.size; omega))
  have H5 := Lib.hid h5
  have hd5 : Below W5.heap.size W5 W5.drew := (Below.refl _ _).drew
  have KEEP : Hid (∀ X, Below W5.heap.size W5 X → Mp X m mv S ∧ X.cell? ⟨m, 0, none⟩ = some (.map mv) ∧ X.cell? ⟨q1, 2, none⟩ = some (.string d.c.key)) := Lib.hid fun X hb => ⟨HM5.out.new hb, (HM5.out.new hb).bk.at_ 0 _ rfl, (HB5.out.new hb).at_ 2 _ rfl⟩
  clear c2 c18 h5 k5 e0
  refine wp_region_held_drew (S := fun X => Mp X m mv S ∧ X.cell? ⟨m, 0, none⟩ = some (.map mv) ∧ X.cell? ⟨q1, 2, none⟩ = some (.string d.c.key)) (by kernel_rfl) (KEEP.out _ hd5) (fun hHeld => ?_)
  refine wpAnyH_take (i := 0) (oi := ({ dst := some 21, op := Op.move (Operand.tmp 0), type := 25, pos := "maps.go:226", after := #[], guard := none })) (v := ?_) rfl (by kernel_rfl) (by kernel_rfl) (by kernel_rfl) (fun _ _ _ h => h) (Or.inl ⟨by rfl, ?_⟩) (by assumption) ?_
  rotate_left 1
  · (intro w9 hSw; (try dsimp only at hSw); go_simp; try with_reducible rfl)
  try simp only [Act.put, List.setIfInBounds_toArray, List.set_cons_zero, List.set_cons_succ]
  refine wpAnyH_take (i := 1) (oi := ({ dst := some 22, op := Op.nilCheck (Operand.tmp 21), type := 0, pos := "maps.go:226", after := #[{ on := 0, ground := Ground.data }], guard := none })) (v := ?_) rfl (by kernel_rfl) (by kernel_rfl) (by kernel_rfl) (fun _ _ _ h => h) (Or.inl ⟨by rfl, ?_⟩) (by assumption) ?_
  rotate_left 1
  · (intro w9 hSw; (try dsimp only at hSw); go_simp; try with_reducible rfl)
  try simp only [Act.put, List.setIfInBounds_toArray, List.set_cons_zero, List.set_cons_succ]
  refine wpAnyH_take (i := 2) (oi := ({ dst := some 23, op := Op.fieldAddr 57 (Operand.tmp 22) 0, type := 0, pos := "maps.go:226", after := #[{ on := 1, ground := Ground.data }], guard := none })) (v := ?_) rfl (by kernel_rfl) (by kernel_rfl) (by kernel_rfl) (fun _ _ _ h => h) (Or.inl ⟨by rfl, ?_⟩) (by assumption) ?_
  rotate_left 1
  · (intro w9 hSw; (try dsimp only at hSw); go_simp; try with_reducible rfl)
  try simp only [Act.put, List.setIfInBounds_toArray, List.set_cons_zero, List.set_cons_succ]
  refine wpAnyH_take (i := 3) (oi := ({ dst := some 24, op := Op.load 55 (Operand.tmp 23), type := 55, pos := "maps.go:226", after := #[{ on := 2, ground := Ground.data }], guard := none })) (v := ?_) rfl (by kernel_rfl) (by kernel_rfl) (by kernel_rfl) (fun _ _ _ h => h) (Or.inl ⟨by rfl, ?_⟩) (by assumption) ?_
  rotate_left 1
  · (intro w9 hSw; (try dsimp only at hSw); go_simp; try with_reducible rfl)
  try simp only [Act.put, List.setIfInBounds_toArray, List.set_cons_zero, List.set_cons_succ]
  refine wpAnyH_take (i := 4) (oi := ({ dst := some 25, op := Op.fieldAddr 42 (Operand.tmp 3) 1, type := 0, pos := "maps.go:226", after := #[], guard := none })) (v := ?_) rfl (by kernel_rfl) (by kernel_rfl) (by kernel_rfl) (fun _ _ _ h => h) (Or.inl ⟨by rfl, ?_⟩) (by assumption) ?_
  rotate_left 1
  · (intro w9 hSw; (try dsimp only at hSw); go_simp; try with_reducible rfl)
  try simp only [Act.put, List.setIfInBounds_toArray, List.set_cons_zero, List.set_cons_succ]
  refine wpAnyH_take (i := 5) (oi := ({ dst := some 26, op := Op.fieldAddr 35 (Operand.tmp 25) 1, type := 0, pos := "maps.go:226", after := #[{ on := 4, ground := Ground.data }], guard := none })) (v := ?_) rfl (by kernel_rfl) (by kernel_rfl) (by kernel_rfl) (fun _ _ _ h => h) (Or.inl ⟨by rfl, ?_⟩) (by assumption) ?_
  rotate_left 1
  · (intro w9 hSw; (try dsimp only at hSw); go_simp; try with_reducible rfl)
  try simp only [Act.put, List.setIfInBounds_toArray, List.set_cons_zero, List.set_cons_succ]
  refine wpAnyH_take (i := 6) (oi := ({ dst := some 27, op := Op.load 9 (Operand.tmp 26), type := 9, pos := "maps.go:226", after := #[{ on := 5, ground := Ground.data }], guard := none })) (v := ?_) rfl (by kernel_rfl) (by kernel_rfl) (by kernel_rfl) (fun _ _ _ h => h) (Or.inl ⟨by rfl, ?_⟩) (by assumption) ?_
  rotate_left 1
  · (intro w9 hSw; (try dsimp only at hSw); go_simp; try with_reducible rfl)
  try simp only [Act.put, List.setIfInBounds_toArray, List.set_cons_zero, List.set_cons_succ]
  refine wpAnyH_take (i := 7) (oi := ({ dst := some 28, op := Op.lookup 55 (Operand.tmp 24) (Operand.tmp 27) true, type := 47, pos := "maps.go:226", after := #[{ on := 3, ground := Ground.data }, { on := 6, ground := Ground.data }], guard := none })) (v := (.tuple #[.agg (itC y).toArray, .bool false])) rfl (by kernel_rfl) (by kernel_rfl) (by kernel_rfl) (fun _ _ _ h => h) (Or.inl ⟨by rfl, ?_⟩) (by assumption) ?_
  · (intro w9 hSw; (try dsimp only at hSw); exact exec_lookup rfl rfl rfl (HL.out _ hSw.1))
  try simp only [Act.put, List.setIfInBounds_toArray, List.set_cons_zero, List.set_cons_succ]
  refine wpAnyH_take (i := 8) (oi := ({ dst := some 20, op := Op.move (Operand.tmp 28), type := 47, pos := "maps.go:226", after := #[{ on := 7, ground := Ground.data }], guard := none })) (v := ?_) rfl (by kernel_rfl) (by kernel_rfl) (by kernel_rfl) (fun _ _ _ h => h) (Or.inl ⟨by rfl, ?_⟩) (by assumption) ?_
  rotate_left 1
  · (intro w9 hSw; (try dsimp only at hSw); go_simp; try with_reducible rfl)
  try simp only [Act.put, List.setIfInBounds_toArray, List.set_cons_zero, List.set_cons_succ]
  refine wpAnyH_take (i := 9) (oi := ({ dst := some 29, op := Op.extract (Operand.tmp 20) 0, type := 38, pos := "maps.go:226", after := #[{ on := 8, ground := Ground.data }], guard := none })) (v := ?_) rfl (by kernel_rfl) (by kernel_rfl) (by kernel_rfl) (fun _ _ _ h => h) (Or.inl ⟨by rfl, ?_⟩) (by assumption) ?_
  rotate_left 1
  · (intro w9 hSw; (try dsimp only at hSw); go_simp; try with_reducible rfl)
  try simp only [Act.put, List.setIfInBounds_toArray, List.set_cons_zero, List.set_cons_succ]
  refine wpAnyH_take (i := 10) (oi := ({ dst := some 30, op := Op.extract (Operand.tmp 20) 1, type := 4, pos := "maps.go:226", after := #[{ on := 8, ground := Ground.data }, { on := 12, ground := Ground.gcOnly Departure.lateStores }], guard := none })) (v := ?_) rfl (by kernel_rfl) (by kernel_rfl) (by kernel_rfl) (fun _ _ _ h => h) (Or.inl ⟨by rfl, ?_⟩) (by assumption) ?_
  rotate_left 1
  · (intro w9 hSw; (try dsimp only at hSw); go_simp; try with_reducible rfl)
  try simp only [Act.put, List.setIfInBounds_toArray, List.set_cons_zero, List.set_cons_succ]
  refine wpAnyH_ready (rs := [11]) (by kernel_rfl) (by simp) ?_
  refine AllReadyH.cons (o := ({ dst := some 7, op := Op.alloc 38, type := 0, pos := "maps.go:226", after := #[], guard := none })) rfl (fun K hK => ?_) AllReadyH.nil
  refine step_alloc_bk rfl 38 (itC Itm.none) alloc_it rfl ?_
  intro W6 q6 h6
  have hb6 := fr_new hd5 h6.below
  refine hK.out _ _ (KEEP.out _ hb6) (fun hHeld => ?_)
  clear hK K
  try simp only [Act.put, List.setIfInBounds_toArray, List.set_cons_zero, List.set_cons_succ]
  refine wpAnyH_ready (rs := [12]) (by kernel_rfl) (by simp) ?_
  refine AllReadyH.cons (o := ({ dst := none, op := Op.store 38 (Operand.tmp 7) (Operand.tmp 29), type := 0, pos := "maps.go:226", after := #[{ on := 11, ground := Ground.data }, { on := 9, ground := Ground.data }, { on := 0, ground := Ground.phase }, { on := 1, ground := Ground.phase }, { on := 2, ground := Ground.phase }, { on := 3, ground := Ground.phase }, { on := 4, ground := Ground.phase }, { on := 5, ground := Ground.phase }, { on := 6, ground := Ground.phase }, { on := 7, ground := Ground.phase }, { on := 8, ground := Ground.phase }, { on := 9, ground := Ground.phase }, { on := 10, ground := Ground.textOnly Departure.lateStores }, { on := 11, ground := Ground.phase }], guard := none })) rfl (fun K hK => ?_) AllReadyH.nil
  refine step_store_bk rfl 38 (.tmp 7) (.tmp 29) rfl q6 0 (itC Itm.none) (itC y) (itC y) h6.bk (Nat.le_refl 6) rfl info_it (itC_one _) rfl rfl ?_
  intro W7 h7 k7
  have hb7 := fr_set hb6 k7 (h6.at hd5)
  refine hK.out _ _ (KEEP.out _ hb7) (fun hHeld => ?_)
  clear hK K
  try simp only [Act.put]
  refine wpAnyH_take (i := 13) (oi := ({ dst := some 8, op := Op.assign (Operand.tmp 30), type := 4, pos := "maps.go:226", after := #[{ on := 10, ground := Ground.data }, { on := 12, ground := Ground.chain }, { on := 0, ground := Ground.phase }, { on := 1, ground := Ground.phase }, { on := 2, ground := Ground.phase }, { on := 3, ground := Ground.phase }, { on := 4, ground := Ground.phase }, { on := 5, ground := Ground.phase }, { on := 6, ground := Ground.phase }, { on := 7, ground := Ground.phase }, { on := 8, ground := Ground.phase }, { on := 9, ground := Ground.phase }, { on := 10, ground := Ground.phase }, { on := 11, ground := Ground.phase }, { on := 12, ground := Ground.phase }], guard := none })) (v := ?_) rfl (by kernel_rfl) (by kernel_rfl) (by kernel_rfl) (fun _ _ _ h => h) (Or.inl ⟨by rfl, ?_⟩) (by assumption) ?_
  rotate_left 1
  · (intro w9 hSw; (try dsimp only at hSw); go_simp; try with_reducible rfl)
  try simp only [Act.put, List.setIfInBounds_toArray, List.set_cons_zero, List.set_cons_succ]
  refine wpAnyH_done (by kernel_rfl) ?_ _
  have HB7 := Lib.hid (HB5.out.new hb7)
  have H57 := Lib.hid (H5.out.new hb7)
  have HM7 := Lib.hid (HM5.out.new hb7)
  have HF7 := Lib.hid (fr_new HF5.out hb7)
  obtain ⟨c2, c18⟩ := cld_cells HB7.out
  have y15 := H57.out.at_ 15 _ rfl
  clear hHeld
  go_wp2_with (first
    | ((with_reducible refine at_wp ?_); refine wpList_load_bk rfl 40 (.tmp 35) rfl q1 10 (cldC d) (ansC d.a) HB7.out rfl _ Tryd.underlying40 rfl info_an rfl ?_)
    | ((with_reducible refine at_wp ?_); refine wpList_load_bk rfl 40 (.tmp 37) rfl q4 0 (givC g) (ansC g.a) H57.out rfl _ Tryd.underlying40 rfl info_an rfl ?_)
    | ((with_reducible refine at_wp ?_); refine wpList_load_bk rfl 40 (.tmp 54) rfl q1 10 (cldC d) (ansC d.a) HB7.out rfl _ Tryd.underlying40 rfl info_an rfl ?_)
    | ((with_reducible refine at_wp ?_); refine wpList_givl rfl (.tmp 5) rfl q4 g H57.out rfl ?_)
    | (go_at_call 39; refine (mtakew m mv S d.c.key g _ HM7.out HS.out.uniq hL HC.out.key HK.out).mono ?_; rintro e W8 ⟨rfl, mv', h8, k8, n8⟩))
  go_ret
  refine ⟨rfl, mv', h8, (mk_keeps (m := m) (mv := mv) HF7.out).trans k8 (fun _ _ s => s), ?_⟩
  rcases n8 with n8 | ⟨b, n8, n9⟩
  · exact .inl n8
  · exact .inr ⟨b, n8, Nat.le_trans HF7.out.size n9⟩
set_option maxHeartbeats 4000000 in
set_option maxRecDepth 100000 in
theorem fit_false_st_nr (h : Mp w m mv S) (hS : MOk S) (hc : CalOk d.c) (hx : 0 ≤ d.e ∧ d.e < 18446744073709551616) (htab : Lib.TabIs Tryd.prog w "internal/strconv.uint64pow10" .u64 Lib.pow10Tab) {g : Giv} (ho : mgives S d.c d.e = some g) (ha : ¬ d.a = g.a) (hst : g.st = true) (hn : d.a = Ans.of 5) (hs : (mlook S.L d.c.key).isSome = false) : Calls Tryd.prog 17 #[.pointer (some ⟨m, 0, none⟩), .agg (cldC d).toArray] w (FtP w m mv (true, ⟨S.L, d.e, S.i⟩)) := by
  have hq0 : ∀ W, (binOp .eql 40 (.agg (ansC d.a).toArray) (.agg (ansC g.a).toArray)).run Tryd.prog W = .ok (.bool false) W := fun W => by
    rw [an_eql, decide_eq_false ha]
  have hq1 : ∀ W, (binOp .eql 40 (.agg #[.int .u8 d.a.kind, .int .u64 d.a.num, .string d.a.item.k, .string d.a.item.v, .int .u32 d.a.item.fl, .int .u64 d.a.item.id, .int .i64 d.a.item.dies, .int .i64 d.a.item.gen]) (.agg #[.int .u8 5, .int .u64 0, .string ⟨#[]⟩, .string ⟨#[]⟩, .int .u32 0, .int .u64 0, .int .i64 0, .int .i64 0])).run Tryd.prog W = .ok (.bool true) W := fun W => by
    have := an_eql d.a (Ans.of 5) W
    rw [decide_eq_true hn] at this
    exact this
  clear ha hn
  obtain ⟨y, hy⟩ : ∃ y, (mlook S.L d.c.key).getD Itm.none = y := ⟨_, rfl⟩
  have HL : Hid (∀ X, Mp X m mv S → (Instr.lookup 55 (.map mv) (.string d.c.key) true).run Tryd.prog X = .ok (.tuple #[.agg (itC y).toArray, .bool false]) X) := Lib.hid fun X hX => by
    have := hX.look hc.key
    unfold lkV at this
    rw [hy, hs] at this
    exact this
  have H := Lib.hid h
  have HS := Lib.hid hS
  have HC := Lib.hid hc
  have HX := Lib.hid hx
  have HT := Lib.hid htab
  have HO := Lib.hid ho
  have HSS := Lib.hid hs
  clear h hS hc hx htab ho hs hy
  go_enter Tryd.func17, Tryd.ntmps17
  go_wp2_with (first
    | ((with_reducible refine at_wp ?_); refine wpList_box_bk rfl 42 (.tmp 1) rfl (cldC d) rfl ?_; intro W1 q1 h1; obtain ⟨c2, c18⟩ := cld_cells h1.bk)
    | ((with_reducible refine at_wp ?_); refine wpList_load_bk rfl 35 (.tmp 13) rfl q1 1 (cldC d) (calC d.c) h1.bk rfl _ Tryd.underlying35 rfl info_ca rfl ?_)
    | (go_at_call 36; refine (givesw (H.out.new h1.below) HS.out HC.out HX.out (tab_below HT.out h1.below)).mono ?_; rintro e W3 ⟨rfl, b3⟩; rw [HO.out])
    | ((with_reducible refine at_wp ?_); refine wpList_alloc_bk rfl 83 (givC Giv.none) alloc_giv rfl ?_; intro W4 q4 h4)
    | ((with_reducible refine at_wp ?_); refine wpList_giv rfl (.tmp 5) (.tmp 18) rfl q4 Giv.none g h4.bk rfl rfl ?_; intro W5 h5 k5))
  have e0 := fr_new h1.below b3
  have HF5 := Lib.hid (fr_set (fr_new e0 h4.below) k5 (h4.at e0))
  have HM5 := Lib.hid (H.out.new HF5.out)
  have HB5 := Lib.hid ((h1.bk.new (fr_new b3 h4.below)).keep k5 (by have e1 := h1.bk.lt; have e2 := h4.eq; have e3 := b3.size; omega))
  have H5 := Lib.hid h5
  have hd5 : Below W5.heap.size W5 W5.drew := (Below.refl _ _).drew
  have KEEP : Hid (∀ X, Below W5.heap.size W5 X → Mp X m mv S ∧ X.cell? ⟨m, 0, none⟩ = some (.map mv) ∧ X.cell? ⟨q1, 2, none⟩ = some (.string d.c.key)) := Lib.hid fun X hb => ⟨HM5.out.new hb, (HM5.out.new hb).bk.at_ 0 _ rfl, (HB5.out.new hb).at_ 2 _ rfl⟩
  clear c2 c18 h5 k5 e0
  refine wp_region_held_drew (S := fun X => Mp X m mv S ∧ X.cell? ⟨m, 0, none⟩ = some (.map mv) ∧ X.cell? ⟨q1, 2, none⟩ = some (.string d.c.key)) (by kernel_rfl) (KEEP.out _ hd5) (fun hHeld => ?_)
  refine wpAnyH_take (i := 0) (oi := ({ dst := some 21, op := Op.move (Operand.tmp 0), type := 25, pos := "maps.go:226", after := #[], guard := none })) (v := ?_) rfl (by kernel_rfl) (by kernel_rfl) (by kernel_rfl) (fun _ _ _ h => h) (Or.inl ⟨by rfl, ?_⟩) (by assumption) ?_
  rotate_left 1
  · (intro w9 hSw; (try dsimp only at hSw); go_simp; try with_reducible rfl)
  try simp only [Act.put, List.setIfInBounds_toArray, List.set_cons_zero, List.set_cons_succ]
  refine wpAnyH_take (i := 1) (oi := ({ dst := some 22, op := Op.nilCheck (Operand.tmp 21), type := 0, pos := "maps.go:226", after := #[{ on := 0, ground := Ground.data }], guard := none })) (v := ?_) rfl (by kernel_rfl) (by kernel_rfl) (by kernel_rfl) (fun _ _ _ h => h) (Or.inl ⟨by rfl, ?_⟩) (by assumption) ?_
  rotate_left 1
  · (intro w9 hSw; (try dsimp only at hSw); go_simp; try with_reducible rfl)
  try simp only [Act.put, List.setIfInBounds_toArray, List.set_cons_zero, List.set_cons_succ]
  refine wpAnyH_take (i := 2) (oi := ({ dst := some 23, op := Op.fieldAddr 57 (Operand.tmp 22) 0, type := 0, pos := "maps.go:226", after := #[{ on := 1, ground := Ground.data }], guard := none })) (v := ?_) rfl (by kernel_rfl) (by kernel_rfl) (by kernel_rfl) (fun _ _ _ h => h) (Or.inl ⟨by rfl, ?_⟩) (by assumption) ?_
  rotate_left 1
  · (intro w9 hSw; (try dsimp only at hSw); go_simp; try with_reducible rfl)
  try simp only [Act.put, List.setIfInBounds_toArray, List.set_cons_zero, List.set_cons_succ]
  refine wpAnyH_take (i := 3) (oi := ({ dst := some 24, op := Op.load 55 (Operand.tmp 23), type := 55, pos := "maps.go:226", after := #[{ on := 2, ground := Ground.data }], guard := none })) (v := ?_) rfl (by kernel_rfl) (by kernel_rfl) (by kernel_rfl) (fun _ _ _ h => h) (Or.inl ⟨by rfl, ?_⟩) (by assumption) ?_
  rotate_left 1
  · (intro w9 hSw; (try dsimp only at hSw); go_simp; try with_reducible rfl)
  try simp only [Act.put, List.setIfInBounds_toArray, List.set_cons_zero, List.set_cons_succ]
  refine wpAnyH_take (i := 4) (oi := ({ dst := some 25, op := Op.fieldAddr 42 (Operand.tmp 3) 1, type := 0, pos := "maps.go:226", after := #[], guard := none })) (v := ?_) rfl (by kernel_rfl) (by kernel_rfl) (by kernel_rfl) (fun _ _ _ h => h) (Or.inl ⟨by rfl, ?_⟩) (by assumption) ?_
  rotate_left 1
  · (intro w9 hSw; (try dsimp only at hSw); go_simp; try with_reducible rfl)
  try simp only [Act.put, List.setIfInBounds_toArray, List.set_cons_zero, List.set_cons_succ]
  refine wpAnyH_take (i := 5) (oi := ({ dst := some 26, op := Op.fieldAddr 35 (Operand.tmp 25) 1, type := 0, pos := "maps.go:226", after := #[{ on := 4, ground := Ground.data }], guard := none })) (v := ?_) rfl (by kernel_rfl) (by kernel_rfl) (by kernel_rfl) (fun _ _ _ h => h) (Or.inl ⟨by rfl, ?_⟩) (by assumption) ?_
  rotate_left 1
  · (intro w9 hSw; (try dsimp only at hSw); go_simp; try with_reducible rfl)
  try simp only [Act.put, List.setIfInBounds_toArray, List.set_cons_zero, List.set_cons_succ]
  refine wpAnyH_take (i := 6) (oi := ({ dst := some 27, op := Op.load 9 (Operand.tmp 26), type := 9, pos := "maps.go:226", after := #[{ on := 5, ground := Ground.data }], guard := none })) (v := ?_) rfl (by kernel_rfl) (by kernel_rfl) (by kernel_rfl) (fun _ _ _ h => h) (Or.inl ⟨by rfl, ?_⟩) (by assumption) ?_
  rotate_left 1
  · (intro w9 hSw; (try dsimp only at hSw); go_simp; try with_reducible rfl)
  try simp only [Act.put, List.setIfInBounds_toArray, List.set_cons_zero, List.set_cons_succ]
  refine wpAnyH_take (i := 7) (oi := ({ dst := some 28, op := Op.lookup 55 (Operand.tmp 24) (Operand.tmp 27) true, type := 47, pos := "maps.go:226", after := #[{ on := 3, ground := Ground.data }, { on := 6, ground := Ground.data }], guard := none })) (v := (.tuple #[.agg (itC y).toArray, .bool false])) rfl (by kernel_rfl) (by kernel_rfl) (by kernel_rfl) (fun _ _ _ h => h) (Or.inl ⟨by rfl, ?_⟩) (by assumption) ?_
  · (intro w9 hSw; (try dsimp only at hSw); exact exec_lookup rfl rfl rfl (HL.out _ hSw.1))
  try simp only [Act.put, List.setIfInBounds_toArray, List.set_cons_zero, List.set_cons_succ]
  refine wpAnyH_take (i := 8) (oi := ({ dst := some 20, op := Op.move (Operand.tmp 28), type := 47, pos := "maps.go:226", after := #[{ on := 7, ground := Ground.data }], guard := none })) (v := ?_) rfl (by kernel_rfl) (by kernel_rfl) (by kernel_rfl) (fun _ _ _ h => h) (Or.inl ⟨by rfl, ?_⟩) (by assumption) ?_
  rotate_left 1
  · (intro w9 hSw; (try dsimp only at hSw); go_simp; try with_reducible rfl)
  try simp only [Act.put, List.setIfInBounds_toArray, List.set_cons_zero, List.set_cons_succ]
  refine wpAnyH_take (i := 9) (oi := ({ dst := some 29, op := Op.extract (Operand.tmp 20) 0, type := 38, pos := "maps.go:226", after := #[{ on := 8, ground := Ground.data }], guard := none })) (v := ?_) rfl (by kernel_rfl) (by kernel_rfl) (by kernel_rfl) (fun _ _ _ h => h) (Or.inl ⟨by rfl, ?_⟩) (by assumption) ?_
  rotate_left 1
  · (intro w9 hSw; (try dsimp only at hSw); go_simp; try with_reducible rfl)
  try simp only [Act.put, List.setIfInBounds_toArray, List.set_cons_zero, List.set_cons_succ]
  refine wpAnyH_take (i := 10) (oi := ({ dst := some 30, op := Op.extract (Operand.tmp 20) 1, type := 4, pos := "maps.go:226", after := #[{ on := 8, ground := Ground.data }, { on := 12, ground := Ground.gcOnly Departure.lateStores }], guard := none })) (v := ?_) rfl (by kernel_rfl) (by kernel_rfl) (by kernel_rfl) (fun _ _ _ h => h) (Or.inl ⟨by rfl, ?_⟩) (by assumption) ?_
  rotate_left 1
  · (intro w9 hSw; (try dsimp only at hSw); go_simp; try with_reducible rfl)
  try simp only [Act.put, List.setIfInBounds_toArray, List.set_cons_zero, List.set_cons_succ]
  refine wpAnyH_ready (rs := [11]) (by kernel_rfl) (by simp) ?_
  refine AllReadyH.cons (o := ({ dst := some 7, op := Op.alloc 38, type := 0, pos := "maps.go:226", after := #[], guard := none })) rfl (fun K hK => ?_) AllReadyH.nil
  refine step_alloc_bk rfl 38 (itC Itm.none) alloc_it rfl ?_
  intro W6 q6 h6
  have hb6 := fr_new hd5 h6.below
  refine hK.out _ _ (KEEP.out _ hb6) (fun hHeld => ?_)
  clear hK K
  try simp only [Act.put, List.setIfInBounds_toArray, List.set_cons_zero, List.set_cons_succ]
  refine wpAnyH_ready (rs := [12]) (by kernel_rfl) (by simp) ?_
  refine AllReadyH.cons (o := ({ dst := none, op := Op.store 38 (Operand.tmp 7) (Operand.tmp 29), type := 0, pos := "maps.go:226", after := #[{ on := 11, ground := Ground.data }, { on := 9, ground := Ground.data }, { on := 0, ground := Ground.phase }, { on := 1, ground := Ground.phase }, { on := 2, ground := Ground.phase }, { on := 3, ground := Ground.phase }, { on := 4, ground := Ground.phase }, { on := 5, ground := Ground.phase }, { on := 6, ground := Ground.phase }, { on := 7, ground := Ground.phase }, { on := 8, ground := Ground.phase }, { on := 9, ground := Ground.phase }, { on := 10, ground := Ground.textOnly Departure.lateStores }, { on := 11, ground := Ground.phase }], guard := none })) rfl (fun K hK => ?_) AllReadyH.nil
  refine step_store_bk rfl 38 (.tmp 7) (.tmp 29) rfl q6 0 (itC Itm.none) (itC y) (itC y) h6.bk (Nat.le_refl 6) rfl info_it (itC_one _) rfl rfl ?_
  intro W7 h7 k7
  have hb7 := fr_set hb6 k7 (h6.at hd5)
  refine hK.out _ _ (KEEP.out _ hb7) (fun hHeld => ?_)
  clear hK K
  try simp only [Act.put]
  refine wpAnyH_take (i := 13) (oi := ({ dst := some 8, op := Op.assign (Operand.tmp 30), type := 4, pos := "maps.go:226", after := #[{ on := 10, ground := Ground.data }, { on := 12, ground := Ground.chain }, { on := 0, ground := Ground.phase }, { on := 1, ground := Ground.phase }, { on := 2, ground := Ground.phase }, { on := 3, ground := Ground.phase }, { on := 4, ground := Ground.phase }, { on := 5, ground := Ground.phase }, { on := 6, ground := Ground.phase }, { on := 7, ground := Ground.phase }, { on := 8, ground := Ground.phase }, { on := 9, ground := Ground.phase }, { on := 10, ground := Ground.phase }, { on := 11, ground := Ground.phase }, { on := 12, ground := Ground.phase }], guard := none })) (v := ?_) rfl (by kernel_rfl) (by kernel_rfl) (by kernel_rfl) (fun _ _ _ h => h) (Or.inl ⟨by rfl, ?_⟩) (by assumption) ?_
  rotate_left 1
  · (intro w9 hSw; (try dsimp only at hSw); go_simp; try with_reducible rfl)
  try simp only [Act.put, List.setIfInBounds_toArray, List.set_cons_zero, List.set_cons_succ]
  refine wpAnyH_done (by kernel_rfl) ?_ _
  have HB7 := Lib.hid (HB5.out.new hb7)
  have H57 := Lib.hid (H5.out.new hb7)
  have HM7 := Lib.hid (HM5.out.new hb7)
  have HF7 := Lib.hid (fr_new HF5.out hb7)
  obtain ⟨c2, c18⟩ := cld_cells HB7.out
  have y15 := H57.out.at_ 15 _ rfl
  clear hHeld
  have a10 := HB7.out.at_ 10 _ rfl
  have a11 := HB7.out.at_ 11 _ rfl
  have a12 := HB7.out.at_ 12 _ rfl
  have a13 := HB7.out.at_ 13 _ rfl
  have a14 := HB7.out.at_ 14 _ rfl
  have a15 := HB7.out.at_ 15 _ rfl
  have a16 := HB7.out.at_ 16 _ rfl
  have a17 := HB7.out.at_ 17 _ rfl
  rw [hst] at y15
  go_wp2_with (first
    | ((with_reducible refine at_wp ?_); refine wpList_load_bk rfl 40 (.tmp 35) rfl q1 10 (cldC d) (ansC d.a) HB7.out rfl _ Tryd.underlying40 rfl info_an rfl ?_)
    | ((with_reducible refine at_wp ?_); refine wpList_load_bk rfl 40 (.tmp 37) rfl q4 0 (givC g) (ansC g.a) H57.out rfl _ Tryd.underlying40 rfl info_an rfl ?_)
    | ((with_reducible refine at_wp ?_); refine wpList_load_bk rfl 40 (.tmp 54) rfl q1 10 (cldC d) (ansC d.a) HB7.out rfl _ Tryd.underlying40 rfl info_an rfl ?_)
    | ((with_reducible refine at_wp ?_); refine wpList_set_bk rfl 29 (.tmp 63) (.tmp 61) rfl m 1 (mapC mv S) (.int .u64 d.e) (mapC mv ⟨S.L, d.e, S.i⟩) HM7.out.bk (by show 1 < 3; decide) rfl (by kernel_rfl) rfl rfl rfl ?_; intro W8 h8 k8))
  go_ret
  exact ⟨rfl, mv, HM7.out.cells (S' := ⟨S.L, d.e, S.i⟩) h8 k8 rfl, (mk_keeps (m := m) (mv := mv) HF7.out).trans k8 (fun _ _ e => .inl e), .inl rfl⟩
set_option maxHeartbeats 4000000 in
set_option maxRecDepth 100000 in
theorem fit_false_st_no (h : Mp w m mv S) (hS : MOk S) (hc : CalOk d.c) (hx : 0 ≤ d.e ∧ d.e < 18446744073709551616) (htab : Lib.TabIs Tryd.prog w "internal/strconv.uint64pow10" .u64 Lib.pow10Tab) {g : Giv} (ho : mgives S d.c d.e = some g) (ha : ¬ d.a = g.a) (hst : g.st = true) (hn : ¬ d.a = Ans.of 5) (hs : (mlook S.L d.c.key).isSome = false) : Calls Tryd.prog 17 #[.pointer (some ⟨m, 0, none⟩), .agg (cldC d).toArray] w (FtP w m mv (false, S)) := by
  have hq0 : ∀ W, (binOp .eql 40 (.agg (ansC d.a).toArray) (.agg (ansC g.a).toArray)).run Tryd.prog W = .ok (.bool false) W := fun W => by
    rw [an_eql, decide_eq_false ha]
  have hq1 : ∀ W, (binOp .eql 40 (.agg #[.int .u8 d.a.kind, .int .u64 d.a.num, .string d.a.item.k, .string d.a.item.v, .int .u32 d.a.item.fl, .int .u64 d.a.item.id, .int .i64 d.a.item.dies, .int .i64 d.a.item.gen]) (.agg #[.int .u8 5, .int .u64 0, .string ⟨#[]⟩, .string ⟨#[]⟩, .int .u32 0, .int .u64 0, .int .i64 0, .int .i64 0])).run Tryd.prog W = .ok (.bool false) W := fun W => by
    have := an_eql d.a (Ans.of 5) W
    rw [decide_eq_false hn] at this
    exact this
  clear ha hn
  obtain ⟨y, hy⟩ : ∃ y, (mlook S.L d.c.key).getD Itm.none = y := ⟨_, rfl⟩
  have HL : Hid (∀ X, Mp X m mv S → (Instr.lookup 55 (.map mv) (.string d.c.key) true).run Tryd.prog X = .ok (.tuple #[.agg (itC y).toArray, .bool false]) X) := Lib.hid fun X hX => by
    have := hX.look hc.key
    unfold lkV at this
    rw [hy, hs] at this
    exact this
  have H := Lib.hid h
  have HS := Lib.hid hS
  have HC := Lib.hid hc
  have HX := Lib.hid hx
  have HT := Lib.hid htab
  have HO := Lib.hid ho
  have HSS := Lib.hid hs
  clear h hS hc hx htab ho hs hy
  go_enter Tryd.func17, Tryd.ntmps17
  go_wp2_with (first
    | ((with_reducible refine at_wp ?_); refine wpList_box_bk rfl 42 (.tmp 1) rfl (cldC d) rfl ?_; intro W1 q1 h1; obtain ⟨c2, c18⟩ := cld_cells h1.bk)
    | ((with_reducible refine at_wp ?_); refine wpList_load_bk rfl 35 (.tmp 13) rfl q1 1 (cldC d) (calC d.c) h1.bk rfl _ Tryd.underlying35 rfl info_ca rfl ?_)
    | (go_at_call 36; refine (givesw (H.out.new h1.below) HS.out HC.out HX.out (tab_below HT.out h1.below)).mono ?_; rintro e W3 ⟨rfl, b3⟩; rw [HO.out])
    | ((with_reducible refine at_wp ?_); refine wpList_alloc_bk rfl 83 (givC Giv.none) alloc_giv rfl ?_; intro W4 q4 h4)
    | ((with_reducible refine at_wp ?_); refine wpList_giv rfl (.tmp 5) (.tmp 18) rfl q4 Giv.none g h4.bk rfl rfl ?_; intro W5 h5 k5))
  have e0 := fr_new h1.below b3
  have HF5 := Lib.hid (fr_set (fr_new e0 h4.below) k5 (h4.at e0))
  have HM5 := Lib.hid (H.out.new HF5.out)
  have HB5 := Lib.hid ((h1.bk.new (fr_new b3 h4.below)).keep k5 (by have e1 := h1.bk.lt; have e2 := h4.eq; have e3 := b3.size; omega))
  have H5 := Lib.hid h5
  have hd5 : Below W5.heap.size W5 W5.drew := (Below.refl _ _).drew
  have KEEP : Hid (∀ X, Below W5.heap.size W5 X → Mp X m mv S ∧ X.cell? ⟨m, 0, none⟩ = some (.map mv) ∧ X.cell? ⟨q1, 2, none⟩ = some (.string d.c.key)) := Lib.hid fun X hb => ⟨HM5.out.new hb, (HM5.out.new hb).bk.at_ 0 _ rfl, (HB5.out.new hb).at_ 2 _ rfl⟩
  clear c2 c18 h5 k5 e0
  refine wp_region_held_drew (S := fun X => Mp X m mv S ∧ X.cell? ⟨m, 0, none⟩ = some (.map mv) ∧ X.cell? ⟨q1, 2, none⟩ = some (.string d.c.key)) (by kernel_rfl) (KEEP.out _ hd5) (fun hHeld => ?_)
  refine wpAnyH_take (i := 0) (oi := ({ dst := some 21, op := Op.move (Operand.tmp 0), type := 25, pos := "maps.go:226", after := #[], guard := none })) (v := ?_) rfl (by kernel_rfl) (by kernel_rfl) (by kernel_rfl) (fun _ _ _ h => h) (Or.inl ⟨by rfl, ?_⟩) (by assumption) ?_
  rotate_left 1
  · (intro w9 hSw; (try dsimp only at hSw); go_simp; try with_reducible rfl)
  try simp only [Act.put, List.setIfInBounds_toArray, List.set_cons_zero, List.set_cons_succ]
  refine wpAnyH_take (i := 1) (oi := ({ dst := some 22, op := Op.nilCheck (Operand.tmp 21), type := 0, pos := "maps.go:226", after := #[{ on := 0, ground := Ground.data }], guard := none })) (v := ?_) rfl (by kernel_rfl) (by kernel_rfl) (by kernel_rfl) (fun _ _ _ h => h) (Or.inl ⟨by rfl, ?_⟩) (by assumption) ?_
  rotate_left 1
  · (intro w9 hSw; (try dsimp only at hSw); go_simp; try with_reducible rfl)
  try simp only [Act.put, List.setIfInBounds_toArray, List.set_cons_zero, List.set_cons_succ]
  refine wpAnyH_take (i := 2) (oi := ({ dst := some 23, op := Op.fieldAddr 57 (Operand.tmp 22) 0, type := 0, pos := "maps.go:226", after := #[{ on := 1, ground := Ground.data }], guard := none })) (v := ?_) rfl (by kernel_rfl) (by kernel_rfl) (by kernel_rfl) (fun _ _ _ h => h) (Or.inl ⟨by rfl, ?_⟩) (by assumption) ?_
  rotate_left 1
  · (intro w9 hSw; (try dsimp only at hSw); go_simp; try with_reducible rfl)
  try simp only [Act.put, List.setIfInBounds_toArray, List.set_cons_zero, List.set_cons_succ]
  refine wpAnyH_take (i := 3) (oi := ({ dst := some 24, op := Op.load 55 (Operand.tmp 23), type := 55, pos := "maps.go:226", after := #[{ on := 2, ground := Ground.data }], guard := none })) (v := ?_) rfl (by kernel_rfl) (by kernel_rfl) (by kernel_rfl) (fun _ _ _ h => h) (Or.inl ⟨by rfl, ?_⟩) (by assumption) ?_
  rotate_left 1
  · (intro w9 hSw; (try dsimp only at hSw); go_simp; try with_reducible rfl)
  try simp only [Act.put, List.setIfInBounds_toArray, List.set_cons_zero, List.set_cons_succ]
  refine wpAnyH_take (i := 4) (oi := ({ dst := some 25, op := Op.fieldAddr 42 (Operand.tmp 3) 1, type := 0, pos := "maps.go:226", after := #[], guard := none })) (v := ?_) rfl (by kernel_rfl) (by kernel_rfl) (by kernel_rfl) (fun _ _ _ h => h) (Or.inl ⟨by rfl, ?_⟩) (by assumption) ?_
  rotate_left 1
  · (intro w9 hSw; (try dsimp only at hSw); go_simp; try with_reducible rfl)
  try simp only [Act.put, List.setIfInBounds_toArray, List.set_cons_zero, List.set_cons_succ]
  refine wpAnyH_take (i := 5) (oi := ({ dst := some 26, op := Op.fieldAddr 35 (Operand.tmp 25) 1, type := 0, pos := "maps.go:226", after := #[{ on := 4, ground := Ground.data }], guard := none })) (v := ?_) rfl (by kernel_rfl) (by kernel_rfl) (by kernel_rfl) (fun _ _ _ h => h) (Or.inl ⟨by rfl, ?_⟩) (by assumption) ?_
  rotate_left 1
  · (intro w9 hSw; (try dsimp only at hSw); go_simp; try with_reducible rfl)
  try simp only [Act.put, List.setIfInBounds_toArray, List.set_cons_zero, List.set_cons_succ]
  refine wpAnyH_take (i := 6) (oi := ({ dst := some 27, op := Op.load 9 (Operand.tmp 26), type := 9, pos := "maps.go:226", after := #[{ on := 5, ground := Ground.data }], guard := none })) (v := ?_) rfl (by kernel_rfl) (by kernel_rfl) (by kernel_rfl) (fun _ _ _ h => h) (Or.inl ⟨by rfl, ?_⟩) (by assumption) ?_
  rotate_left 1
  · (intro w9 hSw; (try dsimp only at hSw); go_simp; try with_reducible rfl)
  try simp only [Act.put, List.setIfInBounds_toArray, List.set_cons_zero, List.set_cons_succ]
  refine wpAnyH_take (i := 7) (oi := ({ dst := some 28, op := Op.lookup 55 (Operand.tmp 24) (Operand.tmp 27) true, type := 47, pos := "maps.go:226", after := #[{ on := 3, ground := Ground.data }, { on := 6, ground := Ground.data }], guard := none })) (v := (.tuple #[.agg (itC y).toArray, .bool false])) rfl (by kernel_rfl) (by kernel_rfl) (by kernel_rfl) (fun _ _ _ h => h) (Or.inl ⟨by rfl, ?_⟩) (by assumption) ?_
  · (intro w9 hSw; (try dsimp only at hSw); exact exec_lookup rfl rfl rfl (HL.out _ hSw.1))
  try simp only [Act.put, List.setIfInBounds_toArray, List.set_cons_zero, List.set_cons_succ]
  refine wpAnyH_take (i := 8) (oi := ({ dst := some 20, op := Op.move (Operand.tmp 28), type := 47, pos := "maps.go:226", after := #[{ on := 7, ground := Ground.data }], guard := none })) (v := ?_) rfl (by kernel_rfl) (by kernel_rfl) (by kernel_rfl) (fun _ _ _ h => h) (Or.inl ⟨by rfl, ?_⟩) (by assumption) ?_
  rotate_left 1
  · (intro w9 hSw; (try dsimp only at hSw); go_simp; try with_reducible rfl)
  try simp only [Act.put, List.setIfInBounds_toArray, List.set_cons_zero, List.set_cons_succ]
  refine wpAnyH_take (i := 9) (oi := ({ dst := some 29, op := Op.extract (Operand.tmp 20) 0, type := 38, pos := "maps.go:226", after := #[{ on := 8, ground := Ground.data }], guard := none })) (v := ?_) rfl (by kernel_rfl) (by kernel_rfl) (by kernel_rfl) (fun _ _ _ h => h) (Or.inl ⟨by rfl, ?_⟩) (by assumption) ?_
  rotate_left 1
  · (intro w9 hSw; (try dsimp only at hSw); go_simp; try with_reducible rfl)
  try simp only [Act.put, List.setIfInBounds_toArray, List.set_cons_zero, List.set_cons_succ]
  refine wpAnyH_take (i := 10) (oi := ({ dst := some 30, op := Op.extract (Operand.tmp 20) 1, type := 4, pos := "maps.go:226", after := #[{ on := 8, ground := Ground.data }, { on := 12, ground := Ground.gcOnly Departure.lateStores }], guard := none })) (v := ?_) rfl (by kernel_rfl) (by kernel_rfl) (by kernel_rfl) (fun _ _ _ h => h) (Or.inl ⟨by rfl, ?_⟩) (by assumption) ?_
  rotate_left 1
  · (intro w9 hSw; (try dsimp only at hSw); go_simp; try with_reducible rfl)
  try simp only [Act.put, List.setIfInBounds_toArray, List.set_cons_zero, List.set_cons_succ]
  refine wpAnyH_ready (rs := [11]) (by kernel_rfl) (by simp) ?_
  refine AllReadyH.cons (o := ({ dst := some 7, op := Op.alloc 38, type := 0, pos := "maps.go:226", after := #[], guard := none })) rfl (fun K hK => ?_) AllReadyH.nil
  refine step_alloc_bk rfl 38 (itC Itm.none) alloc_it rfl ?_
  intro W6 q6 h6
  have hb6 := fr_new hd5 h6.below
  refine hK.out _ _ (KEEP.out _ hb6) (fun hHeld => ?_)
  clear hK K
  try simp only [Act.put, List.setIfInBounds_toArray, List.set_cons_zero, List.set_cons_succ]
  refine wpAnyH_ready (rs := [12]) (by kernel_rfl) (by simp) ?_
  refine AllReadyH.cons (o := ({ dst := none, op := Op.store 38 (Operand.tmp 7) (Operand.tmp 29), type := 0, pos := "maps.go:226", after := #[{ on := 11, ground := Ground.data }, { on := 9, ground := Ground.data }, { on := 0, ground := Ground.phase }, { on := 1, ground := Ground.phase }, { on := 2, ground := Ground.phase }, { on := 3, ground := Ground.phase }, { on := 4, ground := Ground.phase }, { on := 5, ground := Ground.phase }, { on := 6, ground := Ground.phase }, { on := 7, ground := Ground.phase }, { on := 8, ground := Ground.phase }, { on := 9, ground := Ground.phase }, { on := 10, ground := Ground.textOnly Departure.lateStores }, { on := 11, ground := Ground.phase }], guard := none })) rfl (fun K hK => ?_) AllReadyH.nil
  refine step_store_bk rfl 38 (.tmp 7) (.tmp 29) rfl q6 0 (itC Itm.none) (itC y) (itC y) h6.bk (Nat.le_refl 6) rfl info_it (itC_one _) rfl rfl ?_
  intro W7 h7 k7
  have hb7 := fr_set hb6 k7 (h6.at hd5)
  refine hK.out _ _ (KEEP.out _ hb7) (fun hHeld => ?_)
  clear hK K
  try simp only [Act.put]
  refine wpAnyH_take (i := 13) (oi := ({ dst := some 8, op := Op.assign (Operand.tmp 30), type := 4, pos := "maps.go:226", after := #[{ on := 10, ground := Ground.data }, { on := 12, ground := Ground.chain }, { on := 0, ground := Ground.phase }, { on := 1, ground := Ground.phase }, { on := 2, ground := Ground.phase }, { on := 3, ground := Ground.phase }, { on := 4, ground := Ground.phase }, { on := 5, ground := Ground.phase }, { on := 6, ground := Ground.phase }, { on := 7, ground := Ground.phase }, { on := 8, ground := Ground.phase }, { on := 9, ground := Ground.phase }, { on := 10, ground := Ground.phase }, { on := 11, ground := Ground.phase }, { on := 12, ground := Ground.phase }], guard := none })) (v := ?_) rfl (by kernel_rfl) (by kernel_rfl) (by kernel_rfl) (fun _ _ _ h => h) (Or.inl ⟨by rfl, ?_⟩) (by assumption) ?_
  rotate_left 1
  · (intro w9 hSw; (try dsimp only at hSw); go_simp; try with_reducible rfl)
  try simp only [Act.put, List.setIfInBounds_toArray, List.set_cons_zero, List.set_cons_succ]
  refine wpAnyH_done (by kernel_rfl) ?_ _
  have HB7 := Lib.hid (HB5.out.new hb7)
  have H57 := Lib.hid (H5.out.new hb7)
  have HM7 := Lib.hid (HM5.out.new hb7)
  have HF7 := Lib.hid (fr_new HF5.out hb7)
  obtain ⟨c2, c18⟩ := cld_cells HB7.out
  have y15 := H57.out.at_ 15 _ rfl
  clear hHeld
  have a10 := HB7.out.at_ 10 _ rfl
  have a11 := HB7.out.at_ 11 _ rfl
  have a12 := HB7.out.at_ 12 _ rfl
  have a13 := HB7.out.at_ 13 _ rfl
  have a14 := HB7.out.at_ 14 _ rfl
  have a15 := HB7.out.at_ 15 _ rfl
  have a16 := HB7.out.at_ 16 _ rfl
  have a17 := HB7.out.at_ 17 _ rfl
  rw [hst] at y15
  go_wp2_with (first
    | ((with_reducible refine at_wp ?_); refine wpList_load_bk rfl 40 (.tmp 35) rfl q1 10 (cldC d) (ansC d.a) HB7.out rfl _ Tryd.underlying40 rfl info_an rfl ?_)
    | ((with_reducible refine at_wp ?_); refine wpList_load_bk rfl 40 (.tmp 37) rfl q4 0 (givC g) (ansC g.a) H57.out rfl _ Tryd.underlying40 rfl info_an rfl ?_)
    | ((with_reducible refine at_wp ?_); refine wpList_load_bk rfl 40 (.tmp 54) rfl q1 10 (cldC d) (ansC d.a) HB7.out rfl _ Tryd.underlying40 rfl info_an rfl ?_))
  go_ret
  exact ⟨rfl, mv, HM7.out, mk_keeps HF7.out, .inl rfl⟩
set_option maxHeartbeats 4000000 in
set_option maxRecDepth 100000 in
theorem fit_false_nost_any (h : Mp w m mv S) (hS : MOk S) (hc : CalOk d.c) (hx : 0 ≤ d.e ∧ d.e < 18446744073709551616) (htab : Lib.TabIs Tryd.prog w "internal/strconv.uint64pow10" .u64 Lib.pow10Tab) {g : Giv} (ho : mgives S d.c d.e = some g) (ha : ¬ d.a = g.a) (hst : g.st = false) (hs : (mlook S.L d.c.key).isSome = false) : Calls Tryd.prog 17 #[.pointer (some ⟨m, 0, none⟩), .agg (cldC d).toArray] w (FtP w m mv (false, S)) := by
  have hq0 : ∀ W, (binOp .eql 40 (.agg (ansC d.a).toArray) (.agg (ansC g.a).toArray)).run Tryd.prog W = .ok (.bool false) W := fun W => by
    rw [an_eql, decide_eq_false ha]
  clear ha
  obtain ⟨y, hy⟩ : ∃ y, (mlook S.L d.c.key).getD Itm.none = y := ⟨_, rfl⟩
  have HL : Hid (∀ X, Mp X m mv S → (Instr.lookup 55 (.map mv) (.string d.c.key) true).run Tryd.prog X = .ok (.tuple #[.agg (itC y).toArray, .bool false]) X) := Lib.hid fun X hX => by
    have := hX.look hc.key
    unfold lkV at this
    rw [hy, hs] at this
    exact this
  have H := Lib.hid h
  have HS := Lib.hid hS
  have HC := Lib.hid hc
  have HX := Lib.hid hx
  have HT := Lib.hid htab
  have HO := Lib.hid ho
  have HSS := Lib.hid hs
  clear h hS hc hx htab ho hs hy
  go_enter Tryd.func17, Tryd.ntmps17
  go_wp2_with (first
    | ((with_reducible refine at_wp ?_); refine wpList_box_bk rfl 42 (.tmp 1) rfl (cldC d) rfl ?_; intro W1 q1 h1; obtain ⟨c2, c18⟩ := cld_cells h1.bk)
    | ((with_reducible refine at_wp ?_); refine wpList_load_bk rfl 35 (.tmp 13) rfl q1 1 (cldC d) (calC d.c) h1.bk rfl _ Tryd.underlying35 rfl info_ca rfl ?_)
    | (go_at_call 36; refine (givesw (H.out.new h1.below) HS.out HC.out HX.out (tab_below HT.out h1.below)).mono ?_; rintro e W3 ⟨rfl, b3⟩; rw [HO.out])
    | ((with_reducible refine at_wp ?_); refine wpList_alloc_bk rfl 83 (givC Giv.none) alloc_giv rfl ?_; intro W4 q4 h4)
    | ((with_reducible refine at_wp ?_); refine wpList_giv rfl (.tmp 5) (.tmp 18) rfl q4 Giv.none g h4.bk rfl rfl ?_; intro W5 h5 k5))
  have e0 := fr_new h1.below b3
  have HF5 := Lib.hid (fr_set (fr_new e0 h4.below) k5 (h4.at e0))
  have HM5 := Lib.hid (H.out.new HF5.out)
  have HB5 := Lib.hid ((h1.bk.new (fr_new b3 h4.below)).keep k5 (by have e1 := h1.bk.lt; have e2 := h4.eq; have e3 := b3.size; omega))
  have H5 := Lib.hid h5
  have hd5 : Below W5.heap.size W5 W5.drew := (Below.refl _ _).drew
  have KEEP : Hid (∀ X, Below W5.heap.size W5 X → Mp X m mv S ∧ X.cell? ⟨m, 0, none⟩ = some (.map mv) ∧ X.cell? ⟨q1, 2, none⟩ = some (.string d.c.key)) := Lib.hid fun X hb => ⟨HM5.out.new hb, (HM5.out.new hb).bk.at_ 0 _ rfl, (HB5.out.new hb).at_ 2 _ rfl⟩
  clear c2 c18 h5 k5 e0
  refine wp_region_held_drew (S := fun X => Mp X m mv S ∧ X.cell? ⟨m, 0, none⟩ = some (.map mv) ∧ X.cell? ⟨q1, 2, none⟩ = some (.string d.c.key)) (by kernel_rfl) (KEEP.out _ hd5) (fun hHeld => ?_)
  refine wpAnyH_take (i := 0) (oi := ({ dst := some 21, op := Op.move (Operand.tmp 0), type := 25, pos := "maps.go:226", after := #[], guard := none })) (v := ?_) rfl (by kernel_rfl) (by kernel_rfl) (by kernel_rfl) (fun _ _ _ h => h) (Or.inl ⟨by rfl, ?_⟩) (by assumption) ?_
  rotate_left 1
  · (intro w9 hSw; (try dsimp only at hSw); go_simp; try with_reducible rfl)
  try simp only [Act.put, List.setIfInBounds_toArray, List.set_cons_zero, List.set_cons_succ]
  refine wpAnyH_take (i := 1) (oi := ({ dst := some 22, op := Op.nilCheck (Operand.tmp 21), type := 0, pos := "maps.go:226", after := #[{ on := 0, ground := Ground.data }], guard := none })) (v := ?_) rfl (by kernel_rfl) (by kernel_rfl) (by kernel_rfl) (fun _ _ _ h => h) (Or.inl ⟨by rfl, ?_⟩) (by assumption) ?_
  rotate_left 1
  · (intro w9 hSw; (try dsimp only at hSw); go_simp; try with_reducible rfl)
  try simp only [Act.put, List.setIfInBounds_toArray, List.set_cons_zero, List.set_cons_succ]
  refine wpAnyH_take (i := 2) (oi := ({ dst := some 23, op := Op.fieldAddr 57 (Operand.tmp 22) 0, type := 0, pos := "maps.go:226", after := #[{ on := 1, ground := Ground.data }], guard := none })) (v := ?_) rfl (by kernel_rfl) (by kernel_rfl) (by kernel_rfl) (fun _ _ _ h => h) (Or.inl ⟨by rfl, ?_⟩) (by assumption) ?_
  rotate_left 1
  · (intro w9 hSw; (try dsimp only at hSw); go_simp; try with_reducible rfl)
  try simp only [Act.put, List.setIfInBounds_toArray, List.set_cons_zero, List.set_cons_succ]
  refine wpAnyH_take (i := 3) (oi := ({ dst := some 24, op := Op.load 55 (Operand.tmp 23), type := 55, pos := "maps.go:226", after := #[{ on := 2, ground := Ground.data }], guard := none })) (v := ?_) rfl (by kernel_rfl) (by kernel_rfl) (by kernel_rfl) (fun _ _ _ h => h) (Or.inl ⟨by rfl, ?_⟩) (by assumption) ?_
  rotate_left 1
  · (intro w9 hSw; (try dsimp only at hSw); go_simp; try with_reducible rfl)
  try simp only [Act.put, List.setIfInBounds_toArray, List.set_cons_zero, List.set_cons_succ]
  refine wpAnyH_take (i := 4) (oi := ({ dst := some 25, op := Op.fieldAddr 42 (Operand.tmp 3) 1, type := 0, pos := "maps.go:226", after := #[], guard := none })) (v := ?_) rfl (by kernel_rfl) (by kernel_rfl) (by kernel_rfl) (fun _ _ _ h => h) (Or.inl ⟨by rfl, ?_⟩) (by assumption) ?_
  rotate_left 1
  · (intro w9 hSw; (try dsimp only at hSw); go_simp; try with_reducible rfl)
  try simp only [Act.put, List.setIfInBounds_toArray, List.set_cons_zero, List.set_cons_succ]
  refine wpAnyH_take (i := 5) (oi := ({ dst := some 26, op := Op.fieldAddr 35 (Operand.tmp 25) 1, type := 0, pos := "maps.go:226", after := #[{ on := 4, ground := Ground.data }], guard := none })) (v := ?_) rfl (by kernel_rfl) (by kernel_rfl) (by kernel_rfl) (fun _ _ _ h => h) (Or.inl ⟨by rfl, ?_⟩) (by assumption) ?_
  rotate_left 1
  · (intro w9 hSw; (try dsimp only at hSw); go_simp; try with_reducible rfl)
  try simp only [Act.put, List.setIfInBounds_toArray, List.set_cons_zero, List.set_cons_succ]
  refine wpAnyH_take (i := 6) (oi := ({ dst := some 27, op := Op.load 9 (Operand.tmp 26), type := 9, pos := "maps.go:226", after := #[{ on := 5, ground := Ground.data }], guard := none })) (v := ?_) rfl (by kernel_rfl) (by kernel_rfl) (by kernel_rfl) (fun _ _ _ h => h) (Or.inl ⟨by rfl, ?_⟩) (by assumption) ?_
  rotate_left 1
  · (intro w9 hSw; (try dsimp only at hSw); go_simp; try with_reducible rfl)
  try simp only [Act.put, List.setIfInBounds_toArray, List.set_cons_zero, List.set_cons_succ]
  refine wpAnyH_take (i := 7) (oi := ({ dst := some 28, op := Op.lookup 55 (Operand.tmp 24) (Operand.tmp 27) true, type := 47, pos := "maps.go:226", after := #[{ on := 3, ground := Ground.data }, { on := 6, ground := Ground.data }], guard := none })) (v := (.tuple #[.agg (itC y).toArray, .bool false])) rfl (by kernel_rfl) (by kernel_rfl) (by kernel_rfl) (fun _ _ _ h => h) (Or.inl ⟨by rfl, ?_⟩) (by assumption) ?_
  · (intro w9 hSw; (try dsimp only at hSw); exact exec_lookup rfl rfl rfl (HL.out _ hSw.1))
  try simp only [Act.put, List.setIfInBounds_toArray, List.set_cons_zero, List.set_cons_succ]
  refine wpAnyH_take (i := 8) (oi := ({ dst := some 20, op := Op.move (Operand.tmp 28), type := 47, pos := "maps.go:226", after := #[{ on := 7, ground := Ground.data }], guard := none })) (v := ?_) rfl (by kernel_rfl) (by kernel_rfl) (by kernel_rfl) (fun _ _ _ h => h) (Or.inl ⟨by rfl, ?_⟩) (by assumption) ?_
  rotate_left 1
  · (intro w9 hSw; (try dsimp only at hSw); go_simp; try with_reducible rfl)
  try simp only [Act.put, List.setIfInBounds_toArray, List.set_cons_zero, List.set_cons_succ]
  refine wpAnyH_take (i := 9) (oi := ({ dst := some 29, op := Op.extract (Operand.tmp 20) 0, type := 38, pos := "maps.go:226", after := #[{ on := 8, ground := Ground.data }], guard := none })) (v := ?_) rfl (by kernel_rfl) (by kernel_rfl) (by kernel_rfl) (fun _ _ _ h => h) (Or.inl ⟨by rfl, ?_⟩) (by assumption) ?_
  rotate_left 1
  · (intro w9 hSw; (try dsimp only at hSw); go_simp; try with_reducible rfl)
  try simp only [Act.put, List.setIfInBounds_toArray, List.set_cons_zero, List.set_cons_succ]
  refine wpAnyH_take (i := 10) (oi := ({ dst := some 30, op := Op.extract (Operand.tmp 20) 1, type := 4, pos := "maps.go:226", after := #[{ on := 8, ground := Ground.data }, { on := 12, ground := Ground.gcOnly Departure.lateStores }], guard := none })) (v := ?_) rfl (by kernel_rfl) (by kernel_rfl) (by kernel_rfl) (fun _ _ _ h => h) (Or.inl ⟨by rfl, ?_⟩) (by assumption) ?_
  rotate_left 1
  · (intro w9 hSw; (try dsimp only at hSw); go_simp; try with_reducible rfl)
  try simp only [Act.put, List.setIfInBounds_toArray, List.set_cons_zero, List.set_cons_succ]
  refine wpAnyH_ready (rs := [11]) (by kernel_rfl) (by simp) ?_
  refine AllReadyH.cons (o := ({ dst := some 7, op := Op.alloc 38, type := 0, pos := "maps.go:226", after := #[], guard := none })) rfl (fun K hK => ?_) AllReadyH.nil
  refine step_alloc_bk rfl 38 (itC Itm.none) alloc_it rfl ?_
  intro W6 q6 h6
  have hb6 := fr_new hd5 h6.below
  refine hK.out _ _ (KEEP.out _ hb6) (fun hHeld => ?_)
  clear hK K
  try simp only [Act.put, List.setIfInBounds_toArray, List.set_cons_zero, List.set_cons_succ]
  refine wpAnyH_ready (rs := [12]) (by kernel_rfl) (by simp) ?_
  refine AllReadyH.cons (o := ({ dst := none, op := Op.store 38 (Operand.tmp 7) (Operand.tmp 29), type := 0, pos := "maps.go:226", after := #[{ on := 11, ground := Ground.data }, { on := 9, ground := Ground.data }, { on := 0, ground := Ground.phase }, { on := 1, ground := Ground.phase }, { on := 2, ground := Ground.phase }, { on := 3, ground := Ground.phase }, { on := 4, ground := Ground.phase }, { on := 5, ground := Ground.phase }, { on := 6, ground := Ground.phase }, { on := 7, ground := Ground.phase }, { on := 8, ground := Ground.phase }, { on := 9, ground := Ground.phase }, { on := 10, ground := Ground.textOnly Departure.lateStores }, { on := 11, ground := Ground.phase }], guard := none })) rfl (fun K hK => ?_) AllReadyH.nil
  refine step_store_bk rfl 38 (.tmp 7) (.tmp 29) rfl q6 0 (itC Itm.none) (itC y) (itC y) h6.bk (Nat.le_refl 6) rfl info_it (itC_one _) rfl rfl ?_
  intro W7 h7 k7
  have hb7 := fr_set hb6 k7 (h6.at hd5)
  refine hK.out _ _ (KEEP.out _ hb7) (fun hHeld => ?_)
  clear hK K
  try simp only [Act.put]
  refine wpAnyH_take (i := 13) (oi := ({ dst := some 8, op := Op.assign (Operand.tmp 30), type := 4, pos := "maps.go:226", after := #[{ on := 10, ground := Ground.data }, { on := 12, ground := Ground.chain }, { on := 0, ground := Ground.phase }, { on := 1, ground := Ground.phase }, { on := 2, ground := Ground.phase }, { on := 3, ground := Ground.phase }, { on := 4, ground := Ground.phase }, { on := 5, ground := Ground.phase }, { on := 6, ground := Ground.phase }, { on := 7, ground := Ground.phase }, { on := 8, ground := Ground.phase }, { on := 9, ground := Ground.phase }, { on := 10, ground := Ground.phase }, { on := 11, ground := Ground.phase }, { on := 12, ground := Ground.phase }], guard := none })) (v := ?_) rfl (by kernel_rfl) (by kernel_rfl) (by kernel_rfl) (fun _ _ _ h => h) (Or.inl ⟨by rfl, ?_⟩) (by assumption) ?_
  rotate_left 1
  · (intro w9 hSw; (try dsimp only at hSw); go_simp; try with_reducible rfl)
  try simp only [Act.put, List.setIfInBounds_toArray, List.set_cons_zero, List.set_cons_succ]
  refine wpAnyH_done (by kernel_rfl) ?_ _
  have HB7 := Lib.hid (HB5.out.new hb7)
  have H57 := Lib.hid (H5.out.new hb7)
  have HM7 := Lib.hid (HM5.out.new hb7)
  have HF7 := Lib.hid (fr_new HF5.out hb7)
  obtain ⟨c2, c18⟩ := cld_cells HB7.out
  have y15 := H57.out.at_ 15 _ rfl
  clear hHeld
  rw [hst] at y15
  go_wp2_with (first
    | ((with_reducible refine at_wp ?_); refine wpList_load_bk rfl 40 (.tmp 35) rfl q1 10 (cldC d) (ansC d.a) HB7.out rfl _ Tryd.underlying40 rfl info_an rfl ?_)
    | ((with_reducible refine at_wp ?_); refine wpList_load_bk rfl 40 (.tmp 37) rfl q4 0 (givC g) (ansC g.a) H57.out rfl _ Tryd.underlying40 rfl info_an rfl ?_)
    | ((with_reducible refine at_wp ?_); refine wpList_load_bk rfl 40 (.tmp 54) rfl q1 10 (cldC d) (ansC d.a) HB7.out rfl _ Tryd.underlying40 rfl info_an rfl ?_))
  go_ret
  exact ⟨rfl, mv, HM7.out, mk_keeps HF7.out, .inl rfl⟩
end
end Go.Proofs.YtmjklkcjinfmaaaDoor
