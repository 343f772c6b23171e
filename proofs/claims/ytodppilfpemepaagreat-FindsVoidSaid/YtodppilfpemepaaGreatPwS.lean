/- A pair of worlds: Same. -/
import Derived.Test.YtodppilfpemepaaGreatPw
import Derived.Deep.RegionHeld3
namespace Go.Proofs.YtodppilfpemepaaGreat
open Go.RowKit Go.Maps
set_option linter.unusedVariables false
theorem nrs_slice {w : World} {p : Nat} {M : List Nv} {T : Nat → Prop} (h : Nrs w p M T) : ∃ a cap, w.cell? ⟨p, 0, none⟩ = some (.slice a M.length cap) := by
  obtain ⟨v, h⟩ := h
  have ho := h.row.2
  rcases ho with ⟨e, h0⟩ | ⟨g, cap, cur, e, _⟩
  · exact ⟨none, 0, by rw [h.c0, e, h0]⟩
  · exact ⟨_, cap, by rw [h.c0, e]⟩
/-- What Same reads. -/
def PwF (w' : World) (A R : Ad) (V : Wv) (ga : Option Addr) (gc : Nat) : Prop := w'.cell? ⟨A.p, 0, none⟩ = some (.pointer (some ⟨A.pc, 0, none⟩)) ∧ w'.cell? ⟨A.p, 1, none⟩ = some (.pointer (some ⟨A.pi, 0, none⟩)) ∧ w'.cell? ⟨A.p, 2, none⟩ = some (.pointer (some ⟨A.pn, 0, none⟩)) ∧ w'.cell? ⟨A.p, 72, none⟩ = some (.int .i64 V.h) ∧ w'.cell? ⟨R.p, 0, none⟩ = some (.pointer (some ⟨R.pc, 0, none⟩)) ∧ w'.cell? ⟨R.p, 1, none⟩ = some (.pointer (some ⟨R.pi, 0, none⟩)) ∧ w'.cell? ⟨R.p, 2, none⟩ = some (.pointer (some ⟨R.pn, 0, none⟩)) ∧ w'.cell? ⟨R.p, 72, none⟩ = some (.int .i64 V.h) ∧ w'.cell? ⟨R.pc, 2, none⟩ = some (.int .u8 V.k) ∧ w'.cell? ⟨R.pc, 3, none⟩ = some (.int .u64 V.a) ∧ w'.cell? ⟨R.pc, 4, none⟩ = some (.int .u64 V.x) ∧ w'.cell? ⟨R.pc, 5, none⟩ = some (.int .u64 V.y) ∧ w'.cell? ⟨R.pn, 0, none⟩ = some (.slice ga V.M.length gc) ∧ w'.rangeAt A.p 8 (tkCells V.tk) ∧ w'.rangeAt R.p 8 (tkCells V.tk)
theorem arr64_agg (w : World) : (isAgg 74).run Tryz.prog w = .ok true w := by
  unfold isAgg
  rw [Sem.run_bind, run_underlying arr64 w]
  simp
theorem arr64_sz (w : World) : (sizeOf 74).run Tryz.prog w = .ok 64 w := by
  have hi := arr64_size
  cases hq : Tryz.prog.info? 74 with
  | none => rw [hq] at hi; simp at hi
  | some i =>
    have hs : i.size = 64 := by rw [hq] at hi; simpa using hi
    simp [sizeOf, typeInfo, hq, hs]
section
variable {w : World} {A R : Ad} {V : Wv} {S T : Nat → Prop}
theorem pw_facts (h : Pw w A R V S T) : ∃ ga gc, ∀ X, Below w.heap.size w X → PwF X A R V ga gc := by
  obtain ⟨L, hr, -⟩ := h.r
  obtain ⟨TC, TI, TN, hr'⟩ := hr
  obtain ⟨ga, gc, hg⟩ := nrs_slice hr'.nt
  refine ⟨ga, gc, fun X hb => ?_⟩
  have hx := h.new hb
  obtain ⟨L', ⟨TC', TI', TN', r⟩, -⟩ := hx.r
  have a := hx.a.box
  have hn : X.cell? ⟨R.pn, 0, none⟩ = some (.slice ga V.M.length gc) := (hb.cell (p := ⟨R.pn, 0, none⟩) (World.block_lt_of_cell? _ _ hg)).trans hg
  exact ⟨a.c0, a.c1, a.c2, a.ch, r.box.c0, r.box.c1, r.box.c2, r.box.ch, r.cel.c2, r.cel.c3, r.cel.c4, r.cel.c5, hn, box_tk a, box_tk r.box⟩
theorem pw_last (h : Pw w A R V S T) : Calls Tryz.prog 74 #[.pointer (some ⟨A.pc, 0, none⟩)] w fun e w' => e = .returned (.agg #[.int .u8 V.k, .int .u64 V.a, .int .u64 V.x, .int .u64 V.y]) ∧ Below w.heap.size w w' := by
  obtain ⟨n, SC, SI, SN, ha⟩ := h.a
  exact last_any ha.cel
theorem pw_ncount (h : Pw w A R V S T) (hM : V.M.length ≤ 1048576) : Calls Tryz.prog 75 #[.pointer (some ⟨A.pn, 0, none⟩)] w fun e w' => e = .returned (.int .i64 V.M.length) ∧ w = w' := by
  obtain ⟨n, SC, SI, SN, ha⟩ := h.a
  exact countT ha.nt hM
theorem pw_icount (h : Pw w A R V S T) {z : Int} (hz : z = V.I.length) : Calls Tryz.prog 76 #[.pointer (some ⟨A.pi, 0, none⟩)] w fun e w' => e = .returned (.int .i64 z) ∧ w = w' := by
  obtain ⟨n, SC, SI, SN, ha⟩ := h.a
  exact icount_any ha.it hz
theorem pw_rcount (h : Pw w A R V S T) {z : Int} (hz : z = V.I.length) : Calls Tryz.prog 34 #[.pointer (some ⟨R.pi, 0, none⟩)] w fun e w' => e = .returned (.int .i64 z) ∧ w = w' := by
  obtain ⟨L, ⟨TC, TI, TN, r⟩, -⟩ := h.r
  exact rcount r.it hz
theorem pw_rsteps (h : Pw w A R V S T) : Calls Tryz.prog 73 #[.pointer (some ⟨R.p, 0, none⟩)] w fun e w' => e = .returned (.int .i64 V.cnt) ∧ w = w' := by
  obtain ⟨L, r, -⟩ := h.r
  exact rsteps r
set_option maxHeartbeats 4000000 in
set_option maxRecDepth 100000 in
theorem pw_same (h : Pw w A R V S T) (hM : V.M.length ≤ 1048576) :
    Calls Tryz.prog 31 #[.agg #[.pointer (some ⟨A.p, 0, none⟩), .pointer (some ⟨R.p, 0, none⟩)]] w fun e w' => e = .returned (.bool true) ∧ Below w.heap.size w w' := by
  obtain ⟨z, hz⟩ : ∃ z : Int, z = V.I.length := ⟨_, rfl⟩
  obtain ⟨B, hB⟩ : ∃ B, B = w.heap.size := ⟨_, rfl⟩
  have HH : Hid (∀ X, Below w.heap.size w X → Pw X A R V S T) := Lib.hid (fun X hb => h.new hb)
  obtain ⟨ga, gc, hf⟩ := pw_facts h
  have HF := Lib.hid hf
  have hE := fun X => tk_eql V.tk X
  have hlen : (Tryz.prog.info? 74).map (·.size) = some (tkCells V.tk).length := by rw [tk_len]; exact arr64_size
  have hund := arr64
  have HZ := Lib.hid hz
  have HM := Lib.hid hM
  have HB := Lib.hid hB
  clear h hf hz hM hB
  go_enter Tryz.func31, Tryz.ntmps31
  go_wp2_with fail
  generalize hW : w.alloc _ = W
  have bW : Below w.heap.size w W := by rw [← hW]; exact (Below.refl _ _).alloc (Nat.le_refl _) _
  have e0 : W.cell? ⟨w.heap.size, 0, none⟩ = some (.pointer (some ⟨A.p, 0, none⟩)) := by rw [← hW]; simp
  have e1 : W.cell? ⟨w.heap.size, 1, none⟩ = some (.pointer (some ⟨R.p, 0, none⟩)) := by rw [← hW]; simp
  rw [show w.heap.size = B from HB.out.symm]
  rw [show w.heap.size = B from HB.out.symm] at e0 e1
  have KEEP : Hid (∀ X, Below W.heap.size W X → (X.cell? ⟨B, 0, none⟩ = some (.pointer (some ⟨A.p, 0, none⟩)) ∧ X.cell? ⟨B, 1, none⟩ = some (.pointer (some ⟨R.p, 0, none⟩)) ∧ X.cell? ⟨A.p, 0, none⟩ = some (.pointer (some ⟨A.pc, 0, none⟩)) ∧ X.cell? ⟨A.p, 1, none⟩ = some (.pointer (some ⟨A.pi, 0, none⟩)) ∧ X.cell? ⟨A.p, 2, none⟩ = some (.pointer (some ⟨A.pn, 0, none⟩)) ∧ X.cell? ⟨A.p, 72, none⟩ = some (.int .i64 V.h) ∧ X.cell? ⟨R.p, 0, none⟩ = some (.pointer (some ⟨R.pc, 0, none⟩)) ∧ X.cell? ⟨R.p, 1, none⟩ = some (.pointer (some ⟨R.pi, 0, none⟩)) ∧ X.cell? ⟨R.p, 2, none⟩ = some (.pointer (some ⟨R.pn, 0, none⟩)) ∧ X.cell? ⟨R.p, 72, none⟩ = some (.int .i64 V.h) ∧ X.cell? ⟨R.pc, 2, none⟩ = some (.int .u8 V.k) ∧ X.cell? ⟨R.pc, 3, none⟩ = some (.int .u64 V.a) ∧ X.cell? ⟨R.pc, 4, none⟩ = some (.int .u64 V.x) ∧ X.cell? ⟨R.pc, 5, none⟩ = some (.int .u64 V.y) ∧ X.cell? ⟨R.pn, 0, none⟩ = some (.slice ga V.M.length gc) ∧ X.rangeAt A.p 8 (tkCells V.tk) ∧ X.rangeAt R.p 8 (tkCells V.tk))) := Lib.hid (fun X hb => ⟨(hb.cell (p := ⟨B, 0, none⟩) (World.block_lt_of_cell? _ _ e0)).trans e0, (hb.cell (p := ⟨B, 1, none⟩) (World.block_lt_of_cell? _ _ e1)).trans e1, HF.out X (below_then bW hb)⟩)
  have HBW := Lib.hid bW
  have hb0 : Below W.heap.size W W.drew := (Below.refl _ _).drew
  have P0 : Pw W.drew A R V S T := HH.out _ (below_then bW hb0)
  have C1 := Lib.hid (wsteps P0.a)
  have C2 := Lib.hid (pw_rsteps P0)
  have C3 := Lib.hid (pw_last P0)
  clear hW bW e0 e1 P0
  simp only [List.append_eq, List.cons_append, List.nil_append]
  obtain ⟨tt, htt⟩ : ∃ tt : TypeId, 74 = tt := ⟨_, rfl⟩
  rw [show Op.load 74 (Operand.tmp 90) = Op.load tt (Operand.tmp 90) from by rw [← htt]]
  obtain ⟨sz, hsz⟩ : ∃ sz : Nat, 64 = sz := ⟨_, rfl⟩
  have hLa : ∀ w', (isAgg tt).run Tryz.prog w' = .ok true w' := fun w' => by rw [← htt]; exact arr64_agg w'
  have hLs : ∀ w', (sizeOf tt).run Tryz.prog w' = .ok sz w' := fun w' => by rw [← htt, ← hsz]; exact arr64_sz w'
  have hLc : ∀ w', w'.rangeAt R.p 8 (tkCells V.tk) → (loadCellsFrom ⟨R.p, 8, none⟩ 0 sz #[]).run Tryz.prog w' = .ok (tkCells V.tk).toArray w' := fun w' h => by
    have := run_loadCells_list (P := Tryz.prog) w' ⟨R.p, 8, none⟩ (tkCells V.tk) (fun j v hv => by rw [Addr.add_mid]; exact h j v hv)
    rw [tk_len] at this
    rw [← hsz]
    exact this
  clear hsz
  clear htt
  go_region_held3 (fun w' => w'.cell? ⟨B, 0, none⟩ = some (.pointer (some ⟨A.p, 0, none⟩)) ∧ w'.cell? ⟨B, 1, none⟩ = some (.pointer (some ⟨R.p, 0, none⟩)) ∧ w'.cell? ⟨A.p, 0, none⟩ = some (.pointer (some ⟨A.pc, 0, none⟩)) ∧ w'.cell? ⟨A.p, 1, none⟩ = some (.pointer (some ⟨A.pi, 0, none⟩)) ∧ w'.cell? ⟨A.p, 2, none⟩ = some (.pointer (some ⟨A.pn, 0, none⟩)) ∧ w'.cell? ⟨A.p, 72, none⟩ = some (.int .i64 V.h) ∧ w'.cell? ⟨R.p, 0, none⟩ = some (.pointer (some ⟨R.pc, 0, none⟩)) ∧ w'.cell? ⟨R.p, 1, none⟩ = some (.pointer (some ⟨R.pi, 0, none⟩)) ∧ w'.cell? ⟨R.p, 2, none⟩ = some (.pointer (some ⟨R.pn, 0, none⟩)) ∧ w'.cell? ⟨R.p, 72, none⟩ = some (.int .i64 V.h) ∧ w'.cell? ⟨R.pc, 2, none⟩ = some (.int .u8 V.k) ∧ w'.cell? ⟨R.pc, 3, none⟩ = some (.int .u64 V.a) ∧ w'.cell? ⟨R.pc, 4, none⟩ = some (.int .u64 V.x) ∧ w'.cell? ⟨R.pc, 5, none⟩ = some (.int .u64 V.y) ∧ w'.cell? ⟨R.pn, 0, none⟩ = some (.slice ga V.M.length gc) ∧ w'.rangeAt A.p 8 (tkCells V.tk) ∧ w'.rangeAt R.p 8 (tkCells V.tk))
    (first | exact KEEP.out _ (by assumption))
    (first
      | (go_at_call 72; ((with_reducible refine C1.out.mono ?_); rintro e w2 ⟨rfl, rfl⟩))
      | (go_at_call 73; ((with_reducible refine C2.out.mono ?_); rintro e w2 ⟨rfl, rfl⟩))
      | (go_at_call 74; ((with_reducible refine C3.out.mono ?_); rintro e w3 ⟨rfl, hk3⟩; have hb1 : Below W.heap.size W w3 := hb0.trans hk3; have P1 := HH.out _ (below_then HBW.out hb1); have C4 := Lib.hid (pw_ncount P1 HM.out); have C5 := Lib.hid (pw_icount P1 HZ.out); have C6 := Lib.hid (pw_rcount P1 HZ.out); clear P1 hk3))
      | (go_at_call 75; ((with_reducible refine C4.out.mono ?_); rintro e w4 ⟨rfl, rfl⟩))
      | (go_at_call 76; ((with_reducible refine C5.out.mono ?_); rintro e w4 ⟨rfl, rfl⟩))
      | (go_at_call 34; ((with_reducible refine C6.out.mono ?_); rintro e w4 ⟨rfl, rfl⟩)))
  all_goals
    go_wp2_with fail
    go_ret
    exact ⟨rfl, below_then HBW.out hb1⟩
end
end Go.Proofs.YtodppilfpemepaaGreat
