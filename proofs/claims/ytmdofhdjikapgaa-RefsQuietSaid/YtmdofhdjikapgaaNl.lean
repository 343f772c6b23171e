/- Lists of notes: what a list has; a note behind it. -/
import Derived.Test.YtmdofhdjikapgaaNt
import Derived.Test.YtmdofhdjikapgaaLst
import Derived.Deep.RegionLaw
import Derived.Deep.AppendLies
import Derived.BigRegion
import Derived.Deep.RegionHeld
import Derived.IntWalk
namespace Go.Proofs.Ytmdofhdjikapgaa
open Go.RowKit
set_option linter.unusedVariables false

theorem info_note : (Try.prog.info? 76).map (fun i => (i.zero, i.size, i.bytes)) = some (some (.agg #[.int .i64 0, .int .i64 0, .int .u8 0, .int .i64 0, .int .i64 0, .int .i64 0, .int .i64 0, .int .i64 0]), 8, 64) := by kernel_rfl
theorem own_below {w w' : World} {B e size n : Nat} {v : Value} {xs : List Value} (h : w.ownsRow B e size v n xs) (hb : Below w.heap.size w w') : w'.ownsRow B e size v n xs := by
  obtain ⟨hl, h | ⟨g, cap, cur, rfl, hB, hblk, r⟩⟩ := h
  · exact ⟨hl, .inl h⟩
  · have hlt : g < w.heap.size := by
      rcases Nat.lt_or_ge g w.heap.size with h | h
      · exact h
      · rw [Array.getElem?_eq_none h] at hblk; simp at hblk
    exact ⟨hl, .inr ⟨g, cap, cur, rfl, hB, (hb.block g hlt).trans hblk, r⟩⟩
theorem belowNd {B : Nat} {a w : World} (h : Below B a w) (n : Nat) : Below B a (w.drewN n) := by
  induction n with
  | zero => exact h
  | succ n ih => exact ih.drew
def ncells (s th k r b c d v : Int) : List Value := [.int .i64 s, .int .i64 th, .int .u8 k, .int .i64 r, .int .i64 b, .int .i64 c, .int .i64 d, .int .i64 v]
/-- A list of notes: its block holds a slice of its own, of rows of eight cells. -/
def IsNl (w : World) (p n : Nat) (xs : List Value) : Prop := ∃ v, w.cell? ⟨p, 0, none⟩ = some v ∧ w.frozen? ⟨p, 0, none⟩ = false ∧ w.ownsRow (p + 1) 76 8 v n xs ∧ (n = 0 → v = .slice none 0 0)
/-- A struct's new block, under draws. -/
theorem box_facts {w : World} {s th k r b c d v : Int} {t : TypeId} (nq : Nat) {p n : Nat} {u : Value} {xs : List Value} (hp : w.cell? ⟨p, 0, none⟩ = some u) (hf : w.frozen? ⟨p, 0, none⟩ = false) (hown : w.ownsRow (p + 1) 76 8 u n xs) {W : World} (hW : W = (w.alloc (.cells #[.int .i64 s, .int .i64 th, .int .u8 k, .int .i64 r, .int .i64 b, .int .i64 c, .int .i64 d, .int .i64 v] t)).drewN nq) :
    (W.cell? ⟨w.heap.size, 0, none⟩ = some (.int .i64 s) ∧ W.cell? ⟨w.heap.size, 1, none⟩ = some (.int .i64 th) ∧ W.cell? ⟨w.heap.size, 2, none⟩ = some (.int .u8 k) ∧ W.cell? ⟨w.heap.size, 3, none⟩ = some (.int .i64 r) ∧ W.cell? ⟨w.heap.size, 4, none⟩ = some (.int .i64 b) ∧ W.cell? ⟨w.heap.size, 5, none⟩ = some (.int .i64 c) ∧ W.cell? ⟨w.heap.size, 6, none⟩ = some (.int .i64 d) ∧ W.cell? ⟨w.heap.size, 7, none⟩ = some (.int .i64 v)) ∧
    W.cell? ⟨p, 0, none⟩ = some u ∧ W.frozen? ⟨p, 0, none⟩ = false ∧ W.ownsRow (p + 1) 76 8 u n xs ∧ W.heap.size = w.heap.size + 1 ∧ Below w.heap.size w W := by
  have hlt : p < w.heap.size := World.block_lt_of_cell? _ _ hp
  have hb : Below w.heap.size w W := by rw [hW]; exact belowNd ((Below.refl _ _).alloc (Nat.le_refl _) _) nq
  refine ⟨?_, (hb.cell hlt).trans hp, (hb.frozen hlt).trans hf, own_below hown hb, by rw [hW]; simp, hb⟩
  rw [hW]
  simp [World.cell?_drewN]
theorem grown_undrew {w w1 : World} {row : Option Nat} (h : w.drew.grownBy w1 row) : w.grownBy w1 row := ⟨h.os, h.tape, h.output, h.size, h.block⟩
/-- Behind the append: the list's own cell stands; the store makes it the longer list. -/
theorem nl_cell {W w1 : World} {p n : Nat} {v : Value} {xs : List Value} {o : Obj} (hp : p < W.heap.size) (hown : W.ownsRow (p + 1) 76 8 v n xs) (ep : W.cell? ⟨p, 0, none⟩ = some v) (ef : W.frozen? ⟨p, 0, none⟩ = false) (hgrow : (W.alloc o).grownBy w1 v.ownBlock) :
    w1.cell? ⟨p, 0, none⟩ = some v ∧ w1.frozen? ⟨p, 0, none⟩ = false := by
  have hne : some p ≠ v.ownBlock := fun e => by have := (hown.lt p e.symm).1; omega
  exact ⟨(hgrow.cell_far ⟨p, 0, none⟩ (by simp; omega) hne).trans ((World.cell?_alloc_lt W o ⟨p, 0, none⟩ hp).trans ep), (hgrow.frozen_far ⟨p, 0, none⟩ (by simp; omega) hne).trans (((((Below.refl W.heap.size W).alloc (Nat.le_refl _) o).frozen (p := ⟨p, 0, none⟩) hp)).trans ef)⟩
theorem nl_done {w W w1 : World} {p g cap n m : Nat} {v : Value} {xs ys : List Value} {o : Obj} (hlt : p < w.heap.size) (hbel : Below w.heap.size w W) (hown : W.ownsRow (p + 1) 76 8 v n xs) (hgrow : (W.alloc o).grownBy w1 v.ownBlock) (c1 : w1.cell? ⟨p, 0, none⟩ = some v) (c2 : w1.frozen? ⟨p, 0, none⟩ = false)
    (hown1 : w1.ownsRow (p + 1) 76 8 (.slice (some ⟨g, 0, none⟩) m cap) m ys) (hm : 0 < m) :
    IsNl (w1.setCell ⟨p, 0, none⟩ (.slice (some ⟨g, 0, none⟩) m cap)) p m ys ∧ Below p w (w1.setCell ⟨p, 0, none⟩ (.slice (some ⟨g, 0, none⟩) m cap)) := by
  refine ⟨⟨_, World.cell?_setCell_same _ _ _ c1, by simpa using c2, ownsRow_setCell_below hown1 (by show p < p + 1; omega) _, fun e => absurd e (by omega)⟩, ?_⟩
  have hsz := hbel.size
  exact (((hbel.mono (Nat.le_of_lt hlt)).alloc (by omega) o).grown hgrow (by simp; omega) (fun k hk => by have := (hown.lt k hk).1; omega)).setCell (Nat.le_refl _) _
theorem news8 {W : World} {s th k r b c d v : Int} {t : TypeId} {j : Nat} {u : Value} (hj : (ncells s th k r b c d v)[j]? = some u) :
    (W.alloc (.cells #[.int .i64 s, .int .i64 th, .int .u8 k, .int .i64 r, .int .i64 b, .int .i64 c, .int .i64 d, .int .i64 v] t)).cell? ((⟨W.heap.size, 0, none⟩ : Addr).add j) = some u :=
  World.news_of_block (B := W.heap.size) (cs := #[.int .i64 s, .int .i64 th, .int .u8 k, .int .i64 r, .int .i64 b, .int .i64 c, .int .i64 d, .int .i64 v]) (t := t) (fr := (0, 0)) (by show (W.heap.push _)[W.heap.size]? = _; simp) j u hj
set_option maxHeartbeats 2000000 in
set_option maxRecDepth 100000 in
theorem addl_first (s th k r b c d v : Int) (w : World) (p : Nat) (hp : w.cell? ⟨p, 0, none⟩ = some (.slice none 0 0)) (hf : w.frozen? ⟨p, 0, none⟩ = false) (hk : iskf k = true) :
    Calls Try.prog 65 #[.pointer (some ⟨p, 0, none⟩), .agg #[.int .i64 s, .int .i64 th, .int .u8 k, .int .i64 r, .int .i64 b, .int .i64 c, .int .i64 d, .int .i64 v]] w fun e w' => e = .returned (.int .i64 0) ∧ IsNl w' p 1 (ncells s th k r b c d v) ∧ Below p w w' := by
  obtain ⟨i0, hi, hz0, hz1, hz2⟩ := info_parts info_note
  have hlt : p < w.heap.size := World.block_lt_of_cell? _ _ hp
  have hp' := fun o => (World.cell?_alloc_some w _ o (by simp [hp])).trans hp
  go_enter Try.func65, Try.ntmps65
  go_wp2_with fail
  go_quiet ((go_at_call 93; exact quiet_left (iskw _ _)))
  go_wp2_with fail
  generalize hW : (World.drewN (w.alloc _) nq) = W
  obtain ⟨⟨e0, e1, e2, e3, e4, e5, e6, e7⟩, ep, ef, hown, hsz, hbel⟩ := box_facts nq hp hf (World.ownsRow_nil w (p + 1) _ 8) hW.symm
  have hpW : p < W.heap.size := by omega
  clear hW hp' hp hf
  have HSZ := Lib.hid hsz
  have hbW : w.heap.size < W.heap.size := by omega
  clear hsz
  go_region_law (refine step_append_lies _ rfl (.tmp 41) (.tmp 43) 73 rfl (p + 1) 76 i0 _ 8 64 Try.underlying73 hi hz0 hz1 hz2 rfl (by decide) (.slice none 0 0) 0 [] (by simp [Act.eval]) (hown.alloc _) ⟨W.heap.size, 0, none⟩ 1 1 (ncells s th k r b c d v) (by simp [Act.eval]) rfl (by intro j u hj; exact news8 hj) (by simp [ncells, Value.oneCell']) (by decide) (by unfold maxLen; decide) (by decide) (by simp; omega) _ rfl ?_; intro g cap w1 hown1 hgrow hg hltg; have hgr := grown_undrew hgrow; obtain ⟨c1, c2⟩ := nl_cell hpW hown ep ef hgr)
  all_goals
    go_wp2
    go_ret
    exact ⟨rfl, nl_done hlt hbel hown hgr c1 c2 hown1 (by omega)⟩
set_option maxHeartbeats 4000000 in
set_option maxRecDepth 100000 in
theorem addl_more (s th k r b c d v ls : Int) (w : World) (p n g cap : Nat) (xs : List Value) (hn : 0 < n) (hnM : n < 1048576) (hp : w.cell? ⟨p, 0, none⟩ = some (.slice (some ⟨g, 0, none⟩) n cap)) (hf : w.frozen? ⟨p, 0, none⟩ = false) (hown0 : w.ownsRow (p + 1) 76 8 (.slice (some ⟨g, 0, none⟩) n cap) n xs)
    (hl : xs[(n - 1) * 8]? = some (.int .i64 ls)) (hs : ¬ s < ls) (hk : iskf k = true) :
    Calls Try.prog 65 #[.pointer (some ⟨p, 0, none⟩), .agg #[.int .i64 s, .int .i64 th, .int .u8 k, .int .i64 r, .int .i64 b, .int .i64 c, .int .i64 d, .int .i64 v]] w fun e w' => e = .returned (.int .i64 0) ∧ IsNl w' p (n + 1) (xs ++ ncells s th k r b c d v) ∧ Below p w w' := by
  obtain ⟨i0, hi, hz0, hz1, hz2⟩ := info_parts info_note
  have hlt : p < w.heap.size := World.block_lt_of_cell? _ _ hp
  have hp' := fun o => (World.cell?_alloc_some w _ o (by simp [hp])).trans hp
  have hc0 : w.cell? ⟨g, (n - 1) * 8, none⟩ = some (.int .i64 ls) := by
    have := hown0.cells rfl _ _ hl
    rwa [Addr.add_lit, Nat.zero_add] at this
  have hc' := fun o => (World.cell?_alloc_some w _ o (by simp [hc0])).trans hc0
  have hs' : decide (s < ls) = false := decide_eq_false hs
  have y1 : ((n : Int) - 1).toNat = n - 1 := by omega
  have y2 : IntKind.i64.wrap ((n : Int) - 1) = (n : Int) - 1 := IntWalk.i64_in _ (by omega)
  have y3 : 0 ≤ (n : Int) - 1 := by omega
  have y4 : (n : Int) - 1 < n := by omega
  have y5 : (1 : Int) ≤ n := by omega
  have y6 : decide ((1048576 : Int) ≤ (n : Int)) = false := decide_eq_false (by omega)
  have HNM := Lib.hid hnM
  clear hc0 hnM
  go_enter Try.func65, Try.ntmps65
  go_wp2_with fail
  go_quiet ((go_at_call 93; exact quiet_left (iskw _ _)))
  go_wp2_with fail
  generalize hW : (World.drewN (w.alloc _) nq) = W
  obtain ⟨⟨e0, e1, e2, e3, e4, e5, e6, e7⟩, ep, ef, hown, hsz, hbel⟩ := box_facts nq hp hf hown0 hW.symm
  have hpW : p < W.heap.size := by omega
  clear hW hp' hp hf hc' y1 y2 y3 y4 y5 y6
  have HSZ := Lib.hid hsz
  have hbW : w.heap.size < W.heap.size := by omega
  clear hsz
  go_region_law (refine step_append_lies _ rfl (.tmp 41) (.tmp 43) 73 rfl (p + 1) 76 i0 _ 8 64 Try.underlying73 hi hz0 hz1 hz2 rfl (by decide) (.slice (some ⟨g, 0, none⟩) n cap) n xs (by simp [Act.eval]) (hown.alloc _) ⟨W.heap.size, 0, none⟩ 1 1 (ncells s th k r b c d v) (by simp [Act.eval]) rfl (by intro j u hj; exact news8 hj) (by simp [ncells, Value.oneCell']) (by decide) (by have := HNM.out; unfold maxLen; omega) (by have := HNM.out; omega) (by simp; omega) _ rfl ?_; intro g' cap' w1 hown1 hgrow hg hltg; have hgr := grown_undrew hgrow; obtain ⟨c1, c2⟩ := nl_cell hpW hown ep ef hgr)
  all_goals
    go_wp2
    go_ret
    exact ⟨rfl, nl_done hlt hbel hown hgr c1 c2 hown1 (by omega)⟩
end Go.Proofs.Ytmdofhdjikapgaa
