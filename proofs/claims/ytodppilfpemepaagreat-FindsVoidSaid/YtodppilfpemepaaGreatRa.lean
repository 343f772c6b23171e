/- The chapter's arena of records: one list. -/
import Derived.Test.YtodppilfpemepaaGreatGAr
import Derived.Deep.RegionLaw
import Derived.Deep.AppendLies
import Derived.BigRegion
import Derived.Deep.RegionHeld
import Derived.IntWalk
namespace Go.Proofs.YtodppilfpemepaaGreat
open Go.RowKit
set_option linter.unusedVariables false

theorem info_item : (Tryz.prog.info? 84).map (fun i => (i.zero, i.size, i.bytes)) = some (some (.agg #[.string ⟨#[]⟩, .string ⟨#[]⟩, .int .u32 0, .int .u64 0, .int .i64 0, .int .i64 0]), 6, 64) := by kernel_rfl
def flatI (L : List It) : List Value := L.flatMap It.cells
theorem flatI_len (L : List It) : (flatI L).length = L.length * 6 := by
  induction L with
  | nil => rfl
  | cons x L ih => show (It.cells x ++ flatI L).length = _; rw [List.length_append, ih, It.len, List.length_cons]; omega
theorem flatI_snoc (L : List It) (x : It) : flatI (L ++ [x]) = flatI L ++ It.cells x := by simp [flatI]
theorem flatI_at : ∀ {L : List It} {i : Nat} {x : It}, L[i]? = some x → ∀ j, j < 6 → (flatI L)[i * 6 + j]? = (It.cells x)[j]?
  | [], _, _, h, _, _ => by simp at h
  | y :: L, 0, x, h, j, hj => by
    simp at h; subst h
    show (It.cells y ++ flatI L)[0 * 6 + j]? = _
    rw [Nat.zero_mul, Nat.zero_add, List.getElem?_append_left (by rw [It.len]; exact hj)]
  | y :: L, i + 1, x, h, j, hj => by
    simp at h
    show (It.cells y ++ flatI L)[(i + 1) * 6 + j]? = _
    rw [List.getElem?_append_right (by rw [It.len]; omega), It.len, show (i + 1) * 6 + j - 6 = i * 6 + j by omega]
    exact flatI_at h j hj
structure IsRa (w : World) (r : Nat) (L : List It) (v : Value) (T : Nat → Prop) : Prop where
  c0 : w.cell? ⟨r, 0, none⟩ = some v
  f0 : w.frozen? ⟨r, 0, none⟩ = false
  row : w.ownsRow 0 84 6 v L.length (flatI L)
  own : ∀ g, v.ownBlock = some g → T g ∧ g ≠ r
  here : T r
  lt : ∀ k, T k → k < w.heap.size
def Ras (w : World) (r : Nat) (L : List It) (T : Nat → Prop) : Prop := ∃ v, IsRa w r L v T
theorem Ras.keep {w W : World} {r : Nat} {L : List It} {T S : Nat → Prop} (h : Ras w r L T) (hk : Keeps S w W) (hT : ∀ k, T k → ¬ S k) : Ras W r L T := by
  obtain ⟨v, h1, h2, h3, h4, h5, h6⟩ := h
  have hr := hT r h5
  exact ⟨v, hk.cell (p := ⟨r, 0, none⟩) hr h1, hk.frozen (p := ⟨r, 0, none⟩) hr (h6 r h5) h2, Keeps.ownsRow h3 hk (fun g hg => hT g (h4 g hg).1), h4, h5, fun k s => Nat.lt_of_lt_of_le (h6 k s) hk.size⟩
theorem Ras.new {w W : World} {r : Nat} {L : List It} {T : Nat → Prop} (h : Ras w r L T) (hk : Below w.heap.size w W) : Ras W r L T := h.keep (Keeps.of_new (S := fun _ => False) hk) (fun _ _ s => s)
theorem ras_made (W : World) (t : TypeId) : Ras (W.alloc (.cells #[.slice none 0 0] t)) W.heap.size [] (fun k => k = W.heap.size) :=
  ⟨_, by simp, by simp, World.ownsRow_nil _ _ _ _, fun g hg => by simp [Value.ownBlock] at hg, rfl, fun k e => by rw [e]; simp⟩
theorem Ras.slice {w : World} {r : Nat} {L : List It} {T : Nat → Prop} (h : Ras w r L T) : ∃ a cap, IsRa w r L (.slice a L.length cap) T := by
  obtain ⟨v, h⟩ := h
  rcases h.row.2 with ⟨e, e'⟩ | ⟨g, cap, cur, e, _⟩
  · rw [e] at h; exact ⟨none, 0, by rw [e']; exact h⟩
  · rw [e] at h; exact ⟨_, cap, h⟩
theorem rcount {w : World} {r : Nat} {L : List It} {T : Nat → Prop} (h : Ras w r L T) {n : Int} (hn : n = L.length) :
    Calls Tryz.prog 34 #[.pointer (some ⟨r, 0, none⟩)] w fun e w' => e = .returned (.int .i64 n) ∧ w = w' := by
  subst hn
  obtain ⟨a, cap, h⟩ := h.slice
  have hc := h.c0
  clear h
  generalize L.length = n at *
  go_enter Tryz.func34, Tryz.ntmps34
  go_wp2_with fail
  go_ret
  exact ⟨rfl, rfl⟩
theorem undrew {w w1 : World} {row : Option Nat} (h : w.drew.grownBy w1 row) : w.grownBy w1 row := ⟨h.os, h.tape, h.output, h.size, h.block⟩
theorem news6 {W : World} {x : It} {t : TypeId} {j : Nat} {u : Value} (hj : (It.cells x)[j]? = some u) : (W.alloc (.cells #[.string x.1, .string x.2.1, .int .u32 x.2.2.1, .int .u64 x.2.2.2.1, .int .i64 x.2.2.2.2.1, .int .i64 x.2.2.2.2.2] t)).cell? ((⟨W.heap.size, 0, none⟩ : Addr).add j) = some u :=
  World.news_of_block (B := W.heap.size) (cs := #[.string x.1, .string x.2.1, .int .u32 x.2.2.1, .int .u64 x.2.2.2.1, .int .i64 x.2.2.2.2.1, .int .i64 x.2.2.2.2.2]) (t := t) (fr := (0, 0)) (by show (W.heap.push _)[W.heap.size]? = _; simp) j u hj
/-- Behind the append and the store. -/
theorem ra_done {w W w1 : World} {r g cap : Nat} {L : List It} {v : Value} {T : Nat → Prop} {x : It} {o : Obj} (h : IsRa w r L v T) (hb : Below w.heap.size w W) (hg : (W.alloc o).grownBy w1 v.ownBlock) (hl : v.ownBlock = some g ∨ g = W.heap.size + 1) (hlt : g < w1.heap.size)
    (own1 : w1.ownsRow 0 84 6 (.slice (some ⟨g, 0, none⟩) (L.length + 1) cap) (L.length + 1) (flatI L ++ It.cells x)) :
    (w1.cell? ⟨r, 0, none⟩ = some v ∧ w1.frozen? ⟨r, 0, none⟩ = false) ∧ ∃ T', Turn T T' w (w1.setCell ⟨r, 0, none⟩ (.slice (some ⟨g, 0, none⟩) (L.length + 1) cap)) ∧ Ras (w1.setCell ⟨r, 0, none⟩ (.slice (some ⟨g, 0, none⟩) (L.length + 1) cap)) r (L ++ [x]) T' := by
  have hr := h.lt r h.here
  have kA : Keeps (fun k => v.ownBlock = some k) w w1 := (((Keeps.of_new hb).alloc o)).grown hg (fun k e => .inl e)
  have rv : ¬ v.ownBlock = some r := fun e => (h.own r e).2 rfl
  have c0 := kA.cell (p := ⟨r, 0, none⟩) rv h.c0
  have f0 := kA.frozen (p := ⟨r, 0, none⟩) rv hr h.f0
  obtain ⟨V, hV⟩ : ∃ V, V = w1.setCell ⟨r, 0, none⟩ (.slice (some ⟨g, 0, none⟩) (L.length + 1) cap) := ⟨_, rfl⟩
  have kV : Keeps (fun k => k = r) w1 V := by rw [hV]; exact Keeps.setCell (S := fun k => k = r) (Keeps.refl _ w1) (p := ⟨r, 0, none⟩) (.inl rfl) _
  have sV : V.heap.size = w1.heap.size := by rw [hV]; simp [World.setCell]
  have hbs := hb.size
  have gr : g ≠ r := by
    rcases hl with e | e
    · exact (h.own g e).2
    · omega
  have hw1 := kA.size
  rw [← hV]
  refine ⟨⟨c0, f0⟩, fun k => T k ∨ (w.heap.size ≤ k ∧ k < V.heap.size), ⟨((kA.mono (fun k _ e => (h.own k e).1)).trans (kV.mono (fun k _ e => by rw [e]; exact h.here)) (fun _ _ s => s)), fun k s => s⟩, .slice (some ⟨g, 0, none⟩) (L.length + 1) cap, ?_, ?_, ?_, fun k hk => ?_, .inl h.here, fun k s => ?_⟩
  · rw [hV]; exact World.cell?_setCell_same _ _ _ c0
  · rw [hV, World.frozen?_setCell]; exact f0
  · rw [List.length_append, List.length_singleton, flatI_snoc]
    exact Keeps.ownsRow own1 kV (fun k hk => by simp [Value.ownBlock] at hk; omega)
  · simp [Value.ownBlock] at hk
    subst hk
    refine ⟨?_, gr⟩
    rcases hl with e | e
    · exact .inl (h.own g e).1
    · exact .inr ⟨by omega, by omega⟩
  · rcases s with s | s
    · have := h.lt k s; omega
    · exact s.2
def RaPost (w : World) (r : Nat) (L : List It) (T : Nat → Prop) (w' : World) : Prop := ∃ T', Turn T T' w w' ∧ Ras w' r L T'
set_option maxHeartbeats 2000000 in
set_option maxRecDepth 100000 in
theorem radd {w : World} {r : Nat} {L : List It} {T : Nat → Prop} (h : Ras w r L T) (hn : L.length < 1048576) (x0 x1 : ByteArray) (x2 x3 x4 x5 : Int) {n : Int} (hl : n = (L.length : Int) + 1) :
    Calls Tryz.prog 58 #[.pointer (some ⟨r, 0, none⟩), .agg #[.string x0, .string x1, .int .u32 x2, .int .u64 x3, .int .i64 x4, .int .i64 x5]] w fun e w' => e = .returned (.tuple #[.int .i64 n, .int .i64 0]) ∧ RaPost w r (L ++ [(x0, x1, x2, x3, x4, x5)]) T w' := by
  subst hl
  obtain ⟨a, cap, h⟩ := h.slice
  obtain ⟨i0, hi, hz0, hz1, hz2⟩ := info_parts info_item
  have hc := h.c0
  have hlt := h.lt r h.here
  have hc' := fun o => (World.cell?_alloc_lt w o ⟨r, 0, none⟩ hlt).trans hc
  have HH := Lib.hid h
  have d1 : decide ((1048576 : Int) ≤ (L.length : Int)) = false := decide_eq_false (by omega)
  have HN := Lib.hid hn
  clear h hn
  go_enter Tryz.func58, Tryz.ntmps58
  go_wp2_with fail
  generalize hW : World.alloc _ _ = W
  have hb : Below w.heap.size w W := by rw [← hW]; exact (Below.refl _ _).alloc (Nat.le_refl _) _
  have e0 : W.cell? ⟨w.heap.size, 0, none⟩ = some (.string x0) := by rw [← hW]; simp
  have e1 : W.cell? ⟨w.heap.size, 1, none⟩ = some (.string x1) := by rw [← hW]; simp
  have e2 : W.cell? ⟨w.heap.size, 2, none⟩ = some (.int .u32 x2) := by rw [← hW]; simp
  have e3 : W.cell? ⟨w.heap.size, 3, none⟩ = some (.int .u64 x3) := by rw [← hW]; simp
  have e4 : W.cell? ⟨w.heap.size, 4, none⟩ = some (.int .i64 x4) := by rw [← hW]; simp
  have e5 : W.cell? ⟨w.heap.size, 5, none⟩ = some (.int .i64 x5) := by rw [← hW]; simp
  have er : W.cell? ⟨r, 0, none⟩ = some (.slice a L.length cap) := by rw [← hW]; exact hc' _
  have hown : W.ownsRow 0 84 6 (.slice a L.length cap) L.length (flatI L) := by rw [← hW]; exact HH.out.row.alloc _
  have hltW : r < W.heap.size := by rw [← hW]; simp; omega
  have er' := fun o => (World.cell?_alloc_lt W o ⟨r, 0, none⟩ hltW).trans er
  have HO := Lib.hid hown
  have HB := Lib.hid hb
  have HLW := Lib.hid hltW
  clear hW hb hc hc' hown hlt hltW
  go_region_law (refine step_append_lies _ rfl (.tmp 16) (.tmp 18) 30 rfl 0 84 i0 _ 6 64 Tryz.underlying30 hi hz0 hz1 hz2 rfl (by decide) (.slice a L.length cap) L.length (flatI L) (by simp [Act.eval]) (HO.out.alloc _) ⟨W.heap.size, 0, none⟩ 1 1 (It.cells (x0, x1, x2, x3, x4, x5)) (by simp [Act.eval]) rfl (by intro j u hj; exact news6 (x := (x0, x1, x2, x3, x4, x5)) hj) (by simp [It.cells, Value.oneCell']) (by decide) (by have := HN.out; unfold maxLen; omega) (by have := HN.out; omega) (Nat.zero_le _) (W.heap.size + 1) (by simp) ?_; intro g cap' w1 own1 hgrow hg hltg; have D := Lib.hid (ra_done (x := (x0, x1, x2, x3, x4, x5)) HH.out HB.out (undrew hgrow) hg hltg own1); obtain ⟨c1, f1⟩ := D.out.1; clear hgrow hg hltg own1)
  all_goals (try go_wp2)
  all_goals
    go_ret2
    exact ⟨rfl, D.out.2⟩
end Go.Proofs.YtodppilfpemepaaGreat
