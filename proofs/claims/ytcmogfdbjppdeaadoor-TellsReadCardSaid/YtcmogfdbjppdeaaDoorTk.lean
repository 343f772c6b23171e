/- Tells: of whatever answer. -/
import Derived.Test.YtcmogfdbjppdeaaDoorTa
namespace Go.Proofs.YtcmogfdbjppdeaaDoor
open Go.RowKit Go.Maps
set_option linter.unusedVariables false

theorem two_facts {w W : World} {CA BA : Array Value} {t1 t2 : TypeId} (hW : (w.alloc (Obj.cells CA t1)).alloc (Obj.cells BA t2) = W) :
    (∀ i, W.cell? ⟨w.heap.size, i, none⟩ = CA[i]?) ∧ (∀ i, W.cell? ⟨w.heap.size + 1, i, none⟩ = BA[i]?) ∧ Below w.heap.size w W ∧ W.heap.size = w.heap.size + 1 + 1 := by
  subst hW
  have s1 : (w.alloc (Obj.cells CA t1)).heap.size = w.heap.size + 1 := by simp
  have b1 := heap_alloc_new w (Obj.cells CA t1)
  have b2 := heap_alloc_new (w.alloc (Obj.cells CA t1)) (Obj.cells BA t2)
  rw [s1] at b2
  have k1 := (Below.heap_alloc (w.alloc (Obj.cells CA t1)) (Obj.cells BA t2) w.heap.size (by omega)).trans b1
  refine ⟨fun i => by simp only [World.cell?, k1]; rfl, fun i => by simp only [World.cell?, b2]; rfl, ((Below.refl _ _).alloc (Nat.le_refl _) _).alloc (by omega) _, by simp⟩
theorem look_ans {w : World} {b : Nat} {k : Int} (h : w.ownsMap Tryd.prog 30 tR b 9 (putAll (.map []) answersT)) (h0 : 0 ≤ k) (h1 : k ≤ 255) :
    (Instr.lookup 64 (.map (some b)) (.int .u8 k) true).run Tryd.prog w = .ok (.tuple #[.agg #[.string ⟨((textOf answersT k).getD []).toArray⟩], .bool (textOf answersT k).isSome]) w := by
  obtain ⟨v, ps, hrun, hv⟩ := h.look_ok (zd := .lit (.string [])) (zp := []) law_answersT Tryd.underlying64 (zeroL _) rfl (key_answersT h0 h1)
  cases hx : textOf answersT k with
  | none =>
    obtain ⟨p1, p2⟩ := putAll_has k answersT (.map []) hx
    rw [p2] at hv
    obtain rfl := tR_inv hv
    rw [p1] at hrun
    exact hrun
  | some l =>
    obtain ⟨p1, p2⟩ := putAll_hit k l answersT (.map []) ⟨[], rfl⟩ onceA hx
    rw [p2] at hv
    obtain rfl := tR_inv hv
    rw [p1] at hrun
    exact hrun
theorem look_none {w : World} {b : Nat} {k : Int} (h : w.ownsMap Tryd.prog 30 tR b 9 (putAll (.map []) answersT)) (h0 : 0 ≤ k) (h1 : k ≤ 255) (hx : textOf answersT k = none) :
    (Instr.lookup 64 (.map (some b)) (.int .u8 k) true).run Tryd.prog w = .ok (.tuple #[.agg #[.string ⟨#[]⟩], .bool false]) w := by
  have := look_ans h h0 h1
  rw [hx] at this
  exact this
theorem look_some {w : World} {b : Nat} {k : Int} {l : List UInt8} (h : w.ownsMap Tryd.prog 30 tR b 9 (putAll (.map []) answersT)) (h0 : 0 ≤ k) (h1 : k ≤ 255) (hx : textOf answersT k = some l) :
    (Instr.lookup 64 (.map (some b)) (.int .u8 k) true).run Tryd.prog w = .ok (.tuple #[.agg #[.string ⟨l.toArray⟩], .bool true]) w := by
  have := look_ans h h0 h1
  rw [hx] at this
  exact this
theorem ans_small {k : Int} {l : List UInt8} (h : textOf answersT k = some l) : l.length ≤ 1000000 :=
  text_small h (by unfold answersT; intro x hx; simp at hx; rcases hx with rfl | rfl | rfl | rfl | rfl | rfl | rfl | rfl | rfl <;> simp)
set_option maxHeartbeats 4000000 in
set_option maxRecDepth 100000 in
theorem answer_kind (v : Int) (ks : Value) (cv : Int) (ck cval : ByteArray) (cf ce ci cb ex : Int) (k n : Int) (ik iv : ByteArray) (f id d e2 : Int) (w : World) (h0 : 0 ≤ k) (h1 : k ≤ 255) (h8 : k ≠ 8) :
    Calls Tryd.prog 11 #[.agg #[.int .u8 v, ks, .int .u8 cv, .string ck, .string cval, .int .u32 cf, .int .i64 ce, .int .u64 ci, .int .u64 cb, .int .i64 ex, .bool false], .agg #[.int .u8 k, .int .u64 n, .string ik, .string iv, .int .u32 f, .int .u64 id, .int .i64 d, .int .i64 e2]] w fun e w' => e = .returned (.string (lineOf answersT k)) ∧ Below w.heap.size w w' := by
  have hz : (k == 8) = false := beq_eq_false_iff_ne.mpr h8
  cases hx : textOf answersT k with
  | none =>
    have hl : Hid (lineOf answersT k = ⟨#[]⟩) := by show _ = _; unfold lineOf; rw [hx]
    have HX := Lib.hid hx
    clear hx h8
    go_enter Tryd.func11, Tryd.ntmps11
    go_wp2_with fail
    generalize hW : (w.alloc _).alloc _ = W
    obtain ⟨F1, F2, hb, hs⟩ := two_facts hW
    have c1 : W.cell? ⟨w.heap.size + 1, 0, none⟩ = some (.int .u8 k) := F2 0
    have hlt : w.heap.size + 1 < W.heap.size := by omega
    have c3 := fun o => (World.cell?_alloc_some W _ o (by simp [c1])).trans c1
    have hsW := hb.size
    clear F1 F2 hW hs
    go_region_held3 (fun w' => w'.cell? ⟨w.heap.size + 1, 0, none⟩ = some (.int .u8 k))
      (first | exact c1 | exact c3 _ | exact c2 | exact (World.cell?_alloc_some _ _ _ (by simp [c2])).trans c2 | exact (World.cell?_setCell_other _ _ _ _ (by intro h; injection h with h; omega)).trans c2 | exact (World.cell?_setCell_other _ _ _ _ (by intro h; injection h with h; have := World.block_lt_of_cell? _ _ c2; simp at this h; omega)).trans ((World.cell?_alloc_some _ _ _ (by simp [c2])).trans c2))
      (first
        | (go_at_call 30; refine (made_answersT _).mono ?_; rintro e w1 ⟨rfl, hown, hb1⟩; have c2 := box_cell hb1 hlt c1; have hr1 : (Instr.lookup 64 (.map (some W.heap.size)) (.int .u8 k) true).run Tryd.prog w1 = .ok (.tuple #[.agg #[.string ⟨#[]⟩], .bool false]) w1 := look_none hown h0 h1 HX.out; have hr2 : ∀ o, (Instr.lookup 64 (.map (some W.heap.size)) (.int .u8 k) true).run Tryd.prog (w1.alloc o) = .ok (.tuple #[.agg #[.string ⟨#[]⟩], .bool false]) (w1.alloc o) := fun o => look_none (hown.alloc o) h0 h1 HX.out; have hnx1 := hb.drew.trans (hb1.mono (B' := w.heap.size) hb.size))
        | (go_at_call 30; refine (made_answersT _).mono ?_; rintro e w1 ⟨rfl, hown, hb1⟩; have c2 := box_cell hb1 (by show w.heap.size + 1 < (W.alloc _).heap.size; simp; omega) (c3 (Obj.cells #[.string ⟨#[]⟩] 58)); have hr1 : (Instr.lookup 64 (.map (some (W.heap.size + 1))) (.int .u8 k) true).run Tryd.prog w1 = .ok (.tuple #[.agg #[.string ⟨#[]⟩], .bool false]) w1 := (by have h := look_none hown h0 h1 HX.out; simpa using h); have d0 : w1.cell? ⟨W.heap.size, 0, none⟩ = some (.string ⟨#[]⟩) := (hb1.cell (p := ⟨W.heap.size, 0, none⟩) (by show W.heap.size < (W.alloc _).heap.size; simp)).trans (by simp); have d1 : w1.frozen? ⟨W.heap.size, 0, none⟩ = false := (hb1.frozen (p := ⟨W.heap.size, 0, none⟩) (by show W.heap.size < (W.alloc _).heap.size; simp)).trans (by simp); have hnx1 := (hb.alloc hb.size (Obj.cells #[.string ⟨#[]⟩] 58)).drew.trans (hb1.mono (B' := w.heap.size) (by show _ ≤ (W.alloc _).heap.size; simp; omega))))
    all_goals
      go_wp2_with fail
      refine (ended_no _ _).mono ?_
      rintro e w2 ⟨rfl, hb2⟩
      go_wp2_with fail
      go_ret
      first
        | exact ⟨by rw [hl.out]; rfl, (hnx1.alloc hnx1.size _).trans (hb2.mono (by have := hnx1.size; simp; omega))⟩
        | exact ⟨by rw [hl.out]; rfl, (hnx1.setCell (p := ⟨W.heap.size, 0, none⟩) hsW _).trans (hb2.mono (by have := hnx1.size; simp; omega))⟩
  | some l =>
    have hl : Hid (lineOf answersT k = ⟨(l ++ [13, 10]).toArray⟩) := by show _ = _; unfold lineOf; rw [hx]
    have hsm := ans_small hx
    have HX := Lib.hid hx
    clear hx h8
    go_enter Tryd.func11, Tryd.ntmps11
    go_wp2_with fail
    generalize hW : (w.alloc _).alloc _ = W
    obtain ⟨F1, F2, hb, hs⟩ := two_facts hW
    have c1 : W.cell? ⟨w.heap.size + 1, 0, none⟩ = some (.int .u8 k) := F2 0
    have hlt : w.heap.size + 1 < W.heap.size := by omega
    have c3 := fun o => (World.cell?_alloc_some W _ o (by simp [c1])).trans c1
    have hsW := hb.size
    clear F1 F2 hW hs
    go_region_held3 (fun w' => w'.cell? ⟨w.heap.size + 1, 0, none⟩ = some (.int .u8 k))
      (first | exact c1 | exact c3 _ | exact c2 | exact (World.cell?_alloc_some _ _ _ (by simp [c2])).trans c2 | exact (World.cell?_setCell_other _ _ _ _ (by intro h; injection h with h; omega)).trans c2 | exact (World.cell?_setCell_other _ _ _ _ (by intro h; injection h with h; have := World.block_lt_of_cell? _ _ c2; simp at this h; omega)).trans ((World.cell?_alloc_some _ _ _ (by simp [c2])).trans c2))
      (first
        | (go_at_call 30; refine (made_answersT _).mono ?_; rintro e w1 ⟨rfl, hown, hb1⟩; have c2 := box_cell hb1 hlt c1; have hr1 : (Instr.lookup 64 (.map (some W.heap.size)) (.int .u8 k) true).run Tryd.prog w1 = .ok (.tuple #[.agg #[.string ⟨l.toArray⟩], .bool true]) w1 := look_some hown h0 h1 HX.out; have hr2 : ∀ o, (Instr.lookup 64 (.map (some W.heap.size)) (.int .u8 k) true).run Tryd.prog (w1.alloc o) = .ok (.tuple #[.agg #[.string ⟨l.toArray⟩], .bool true]) (w1.alloc o) := fun o => look_some (hown.alloc o) h0 h1 HX.out; have hnx1 := hb.drew.trans (hb1.mono (B' := w.heap.size) hb.size))
        | (go_at_call 30; refine (made_answersT _).mono ?_; rintro e w1 ⟨rfl, hown, hb1⟩; have c2 := box_cell hb1 (by show w.heap.size + 1 < (W.alloc _).heap.size; simp; omega) (c3 (Obj.cells #[.string ⟨#[]⟩] 58)); have hr1 : (Instr.lookup 64 (.map (some (W.heap.size + 1))) (.int .u8 k) true).run Tryd.prog w1 = .ok (.tuple #[.agg #[.string ⟨l.toArray⟩], .bool true]) w1 := (by have h := look_some hown h0 h1 HX.out; simpa using h); have d0 : w1.cell? ⟨W.heap.size, 0, none⟩ = some (.string ⟨#[]⟩) := (hb1.cell (p := ⟨W.heap.size, 0, none⟩) (by show W.heap.size < (W.alloc _).heap.size; simp)).trans (by simp); have d1 : w1.frozen? ⟨W.heap.size, 0, none⟩ = false := (hb1.frozen (p := ⟨W.heap.size, 0, none⟩) (by show W.heap.size < (W.alloc _).heap.size; simp)).trans (by simp); have hnx1 := (hb.alloc hb.size (Obj.cells #[.string ⟨#[]⟩] 58)).drew.trans (hb1.mono (B' := w.heap.size) (by show _ ≤ (W.alloc _).heap.size; simp; omega))))
    all_goals
      go_wp2_with fail
      refine (ended_is l hsm _).mono ?_
      rintro e w2 ⟨rfl, hb2⟩
      go_wp2_with fail
      go_ret
      first
        | exact ⟨by rw [hl.out]; rfl, (hnx1.alloc hnx1.size _).trans (hb2.mono (by have := hnx1.size; simp; omega))⟩
        | exact ⟨by rw [hl.out]; rfl, (hnx1.setCell (p := ⟨W.heap.size, 0, none⟩) hsW _).trans (hb2.mono (by have := hnx1.size; simp; omega))⟩
end Go.Proofs.YtcmogfdbjppdeaaDoor
