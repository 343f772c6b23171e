/- Contracts of package notes: names, whether a kind is one. -/
import Derived.Test.YtodppilfpemepaaGreatChecked
import Derived.Test.YtodppilfpemepaaGreatLib
import Derived.Test.YtodppilfpemepaaGreatLst
import Derived.Deep.RegionLaw
import Derived.Deep.AppendLies
import Derived.BigRegion
import Derived.Deep.RegionHeld
import Derived.IntWalk
import Derived.Test.YtodppilfpemepaaGreatKeep
import Derived.LoopN
namespace Go.Proofs.YtodppilfpemepaaGreat
open Go.RowKit
set_option linter.unusedVariables false

def iskf (k : Int) : Bool := decide (1 ≤ k) && decide (k ≤ 9)
theorem iskw (k : Int) (w : World) : Calls Tryz.prog 168 #[.int .u8 k] w fun e w' => e = .returned (.bool (iskf k)) ∧ w = w' := by
  have h : (k < 1 ∧ iskf k = false) ∨ (1 ≤ k ∧ k ≤ 9 ∧ iskf k = true) ∨ (1 ≤ k ∧ 9 < k ∧ iskf k = false) := by unfold iskf; simp; omega
  obtain ⟨r, hr⟩ : ∃ r, iskf k = r := ⟨_, rfl⟩
  rw [hr] at h ⊢
  clear hr
  rcases h with ⟨h1, rfl⟩ | ⟨h1, h2, rfl⟩ | ⟨h1, h2, rfl⟩
  all_goals
    go_enter Tryz.func168, Tryz.ntmps168
    go_wp2_with fail
    go_ret
    exact ⟨ret_bool (by simp <;> omega), rfl⟩
end Go.Proofs.YtodppilfpemepaaGreat
/- Next: Lists of notes: what a list has; a note behind it. -/
namespace Go.Proofs.YtodppilfpemepaaGreat
open Go.RowKit
set_option linter.unusedVariables false

theorem info_note : (Tryz.prog.info? 108).map (fun i => (i.zero, i.size, i.bytes)) = some (some (.agg #[.int .i64 0, .int .i64 0, .int .u8 0, .int .i64 0, .int .i64 0, .int .i64 0, .int .i64 0, .int .i64 0]), 8, 64) := by kernel_rfl
theorem own_below {w w' : World} {B e size n : Nat} {v : Value} {xs : List Value} (h : w.ownsRow B e size v n xs) (hb : Below w.heap.size w w') : w'.ownsRow B e size v n xs := by
  obtain ⟨hl, h | ⟨g, cap, cur, rfl, hB, hblk, r⟩⟩ := h
  · exact ⟨hl, .inl h⟩
  · have hlt : g < w.heap.size := by
      rcases Nat.lt_or_ge g w.heap.size with h | h
      · exact h
      · rw [Array.getElem?_eq_none h] at hblk; simp at hblk
    exact ⟨hl, .inr ⟨g, cap, cur, rfl, hB, (hb.block g hlt).trans hblk, r⟩⟩
theorem belowNd {B : Nat} {a w : World} (h : Below B a w) (n : Nat) : Below B a (w.drewN n) := by
  induction n with
  | zero => exact h
  | succ n ih => exact ih.drew
def ncells (s th k r b c d v : Int) : List Value := [.int .i64 s, .int .i64 th, .int .u8 k, .int .i64 r, .int .i64 b, .int .i64 c, .int .i64 d, .int .i64 v]
/-- A list of notes: its block holds a slice of its own, of rows of eight cells. -/
def IsNl (w : World) (p n : Nat) (xs : List Value) : Prop := ∃ v, w.cell? ⟨p, 0, none⟩ = some v ∧ w.frozen? ⟨p, 0, none⟩ = false ∧ w.ownsRow (p + 1) 108 8 v n xs ∧ (n = 0 → v = .slice none 0 0)
/-- A struct's new block, under draws. -/
theorem box_facts {w : World} {s th k r b c d v : Int} {t : TypeId} (nq : Nat) {p n : Nat} {u : Value} {xs : List Value} (hp : w.cell? ⟨p, 0, none⟩ = some u) (hf : w.frozen? ⟨p, 0, none⟩ = false) (hown : w.ownsRow (p + 1) 108 8 u n xs) {W : World} (hW : W = (w.alloc (.cells #[.int .i64 s, .int .i64 th, .int .u8 k, .int .i64 r, .int .i64 b, .int .i64 c, .int .i64 d, .int .i64 v] t)).drewN nq) :
    (W.cell? ⟨w.heap.size, 0, none⟩ = some (.int .i64 s) ∧ W.cell? ⟨w.heap.size, 1, none⟩ = some (.int .i64 th) ∧ W.cell? ⟨w.heap.size, 2, none⟩ = some (.int .u8 k) ∧ W.cell? ⟨w.heap.size, 3, none⟩ = some (.int .i64 r) ∧ W.cell? ⟨w.heap.size, 4, none⟩ = some (.int .i64 b) ∧ W.cell? ⟨w.heap.size, 5, none⟩ = some (.int .i64 c) ∧ W.cell? ⟨w.heap.size, 6, none⟩ = some (.int .i64 d) ∧ W.cell? ⟨w.heap.size, 7, none⟩ = some (.int .i64 v)) ∧
    W.cell? ⟨p, 0, none⟩ = some u ∧ W.frozen? ⟨p, 0, none⟩ = false ∧ W.ownsRow (p + 1) 108 8 u n xs ∧ W.heap.size = w.heap.size + 1 ∧ Below w.heap.size w W := by
  have hlt : p < w.heap.size := World.block_lt_of_cell? _ _ hp
  have hb : Below w.heap.size w W := by rw [hW]; exact belowNd ((Below.refl _ _).alloc (Nat.le_refl _) _) nq
  refine ⟨?_, (hb.cell hlt).trans hp, (hb.frozen hlt).trans hf, own_below hown hb, by rw [hW]; simp, hb⟩
  rw [hW]
  simp [World.cell?_drewN]
theorem grown_undrew {w w1 : World} {row : Option Nat} (h : w.drew.grownBy w1 row) : w.grownBy w1 row := ⟨h.os, h.tape, h.output, h.size, h.block⟩
/-- Behind the append: the list's own cell stands; the store makes it the longer list. -/
theorem nl_cell {W w1 : World} {p n : Nat} {v : Value} {xs : List Value} {o : Obj} (hp : p < W.heap.size) (hown : W.ownsRow (p + 1) 108 8 v n xs) (ep : W.cell? ⟨p, 0, none⟩ = some v) (ef : W.frozen? ⟨p, 0, none⟩ = false) (hgrow : (W.alloc o).grownBy w1 v.ownBlock) :
    w1.cell? ⟨p, 0, none⟩ = some v ∧ w1.frozen? ⟨p, 0, none⟩ = false := by
  have hne : some p ≠ v.ownBlock := fun e => by have := (hown.lt p e.symm).1; omega
  exact ⟨(hgrow.cell_far ⟨p, 0, none⟩ (by simp; omega) hne).trans ((World.cell?_alloc_lt W o ⟨p, 0, none⟩ hp).trans ep), (hgrow.frozen_far ⟨p, 0, none⟩ (by simp; omega) hne).trans (((((Below.refl W.heap.size W).alloc (Nat.le_refl _) o).frozen (p := ⟨p, 0, none⟩) hp)).trans ef)⟩
theorem nl_done {w W w1 : World} {p g cap n m : Nat} {v : Value} {xs ys : List Value} {o : Obj} (hlt : p < w.heap.size) (hbel : Below w.heap.size w W) (hown : W.ownsRow (p + 1) 108 8 v n xs) (hgrow : (W.alloc o).grownBy w1 v.ownBlock) (c1 : w1.cell? ⟨p, 0, none⟩ = some v) (c2 : w1.frozen? ⟨p, 0, none⟩ = false)
    (hown1 : w1.ownsRow (p + 1) 108 8 (.slice (some ⟨g, 0, none⟩) m cap) m ys) (hm : 0 < m) :
    IsNl (w1.setCell ⟨p, 0, none⟩ (.slice (some ⟨g, 0, none⟩) m cap)) p m ys ∧ Below p w (w1.setCell ⟨p, 0, none⟩ (.slice (some ⟨g, 0, none⟩) m cap)) := by
  refine ⟨⟨_, World.cell?_setCell_same _ _ _ c1, by simpa using c2, ownsRow_setCell_below hown1 (by show p < p + 1; omega) _, fun e => absurd e (by omega)⟩, ?_⟩
  have hsz := hbel.size
  exact (((hbel.mono (Nat.le_of_lt hlt)).alloc (by omega) o).grown hgrow (by simp; omega) (fun k hk => by have := (hown.lt k hk).1; omega)).setCell (Nat.le_refl _) _
theorem news8 {W : World} {s th k r b c d v : Int} {t : TypeId} {j : Nat} {u : Value} (hj : (ncells s th k r b c d v)[j]? = some u) :
    (W.alloc (.cells #[.int .i64 s, .int .i64 th, .int .u8 k, .int .i64 r, .int .i64 b, .int .i64 c, .int .i64 d, .int .i64 v] t)).cell? ((⟨W.heap.size, 0, none⟩ : Addr).add j) = some u :=
  World.news_of_block (B := W.heap.size) (cs := #[.int .i64 s, .int .i64 th, .int .u8 k, .int .i64 r, .int .i64 b, .int .i64 c, .int .i64 d, .int .i64 v]) (t := t) (fr := (0, 0)) (by show (W.heap.push _)[W.heap.size]? = _; simp) j u hj
set_option maxHeartbeats 2000000 in
set_option maxRecDepth 100000 in
theorem addl_first (s th k r b c d v : Int) (w : World) (p : Nat) (hp : w.cell? ⟨p, 0, none⟩ = some (.slice none 0 0)) (hf : w.frozen? ⟨p, 0, none⟩ = false) (hk : iskf k = true) :
    Calls Tryz.prog 152 #[.pointer (some ⟨p, 0, none⟩), .agg #[.int .i64 s, .int .i64 th, .int .u8 k, .int .i64 r, .int .i64 b, .int .i64 c, .int .i64 d, .int .i64 v]] w fun e w' => e = .returned (.int .i64 0) ∧ IsNl w' p 1 (ncells s th k r b c d v) ∧ Below p w w' := by
  obtain ⟨i0, hi, hz0, hz1, hz2⟩ := info_parts info_note
  have hlt : p < w.heap.size := World.block_lt_of_cell? _ _ hp
  have hp' := fun o => (World.cell?_alloc_some w _ o (by simp [hp])).trans hp
  go_enter Tryz.func152, Tryz.ntmps152
  go_wp2_with fail
  go_quiet ((go_at_call 168; exact quiet_left (iskw _ _)))
  go_wp2_with fail
  generalize hW : (World.drewN (w.alloc _) nq) = W
  obtain ⟨⟨e0, e1, e2, e3, e4, e5, e6, e7⟩, ep, ef, hown, hsz, hbel⟩ := box_facts nq hp hf (World.ownsRow_nil w (p + 1) _ 8) hW.symm
  have hpW : p < W.heap.size := by omega
  clear hW hp' hp hf
  have HSZ := Lib.hid hsz
  have hbW : w.heap.size < W.heap.size := by omega
  clear hsz
  go_region_law (refine step_append_lies _ rfl (.tmp 41) (.tmp 43) 99 rfl (p + 1) 108 i0 _ 8 64 Tryz.underlying99 hi hz0 hz1 hz2 rfl (by decide) (.slice none 0 0) 0 [] (by simp [Act.eval]) (hown.alloc _) ⟨W.heap.size, 0, none⟩ 1 1 (ncells s th k r b c d v) (by simp [Act.eval]) rfl (by intro j u hj; exact news8 hj) (by simp [ncells, Value.oneCell']) (by decide) (by unfold maxLen; decide) (by decide) (by simp; omega) _ rfl ?_; intro g cap w1 hown1 hgrow hg hltg; have hgr := grown_undrew hgrow; obtain ⟨c1, c2⟩ := nl_cell hpW hown ep ef hgr)
  all_goals
    go_wp2
    go_ret
    exact ⟨rfl, nl_done hlt hbel hown hgr c1 c2 hown1 (by omega)⟩
set_option maxHeartbeats 4000000 in
set_option maxRecDepth 100000 in
theorem addl_more (s th k r b c d v ls : Int) (w : World) (p n g cap : Nat) (xs : List Value) (hn : 0 < n) (hnM : n < 1048576) (hp : w.cell? ⟨p, 0, none⟩ = some (.slice (some ⟨g, 0, none⟩) n cap)) (hf : w.frozen? ⟨p, 0, none⟩ = false) (hown0 : w.ownsRow (p + 1) 108 8 (.slice (some ⟨g, 0, none⟩) n cap) n xs)
    (hl : xs[(n - 1) * 8]? = some (.int .i64 ls)) (hs : ¬ s < ls) (hk : iskf k = true) :
    Calls Tryz.prog 152 #[.pointer (some ⟨p, 0, none⟩), .agg #[.int .i64 s, .int .i64 th, .int .u8 k, .int .i64 r, .int .i64 b, .int .i64 c, .int .i64 d, .int .i64 v]] w fun e w' => e = .returned (.int .i64 0) ∧ IsNl w' p (n + 1) (xs ++ ncells s th k r b c d v) ∧ Below p w w' := by
  obtain ⟨i0, hi, hz0, hz1, hz2⟩ := info_parts info_note
  have hlt : p < w.heap.size := World.block_lt_of_cell? _ _ hp
  have hp' := fun o => (World.cell?_alloc_some w _ o (by simp [hp])).trans hp
  have hc0 : w.cell? ⟨g, (n - 1) * 8, none⟩ = some (.int .i64 ls) := by
    have := hown0.cells rfl _ _ hl
    rwa [Addr.add_lit, Nat.zero_add] at this
  have hc' := fun o => (World.cell?_alloc_some w _ o (by simp [hc0])).trans hc0
  have hs' : decide (s < ls) = false := decide_eq_false hs
  have y1 : ((n : Int) - 1).toNat = n - 1 := by omega
  have y2 : IntKind.i64.wrap ((n : Int) - 1) = (n : Int) - 1 := IntWalk.i64_in _ (by omega)
  have y3 : 0 ≤ (n : Int) - 1 := by omega
  have y4 : (n : Int) - 1 < n := by omega
  have y5 : (1 : Int) ≤ n := by omega
  have y6 : decide ((1048576 : Int) ≤ (n : Int)) = false := decide_eq_false (by omega)
  have HNM := Lib.hid hnM
  clear hc0 hnM
  go_enter Tryz.func152, Tryz.ntmps152
  go_wp2_with fail
  go_quiet ((go_at_call 168; exact quiet_left (iskw _ _)))
  go_wp2_with fail
  generalize hW : (World.drewN (w.alloc _) nq) = W
  obtain ⟨⟨e0, e1, e2, e3, e4, e5, e6, e7⟩, ep, ef, hown, hsz, hbel⟩ := box_facts nq hp hf hown0 hW.symm
  have hpW : p < W.heap.size := by omega
  clear hW hp' hp hf hc' y1 y2 y3 y4 y5 y6
  have HSZ := Lib.hid hsz
  have hbW : w.heap.size < W.heap.size := by omega
  clear hsz
  go_region_law (refine step_append_lies _ rfl (.tmp 41) (.tmp 43) 99 rfl (p + 1) 108 i0 _ 8 64 Tryz.underlying99 hi hz0 hz1 hz2 rfl (by decide) (.slice (some ⟨g, 0, none⟩) n cap) n xs (by simp [Act.eval]) (hown.alloc _) ⟨W.heap.size, 0, none⟩ 1 1 (ncells s th k r b c d v) (by simp [Act.eval]) rfl (by intro j u hj; exact news8 hj) (by simp [ncells, Value.oneCell']) (by decide) (by have := HNM.out; unfold maxLen; omega) (by have := HNM.out; omega) (by simp; omega) _ rfl ?_; intro g' cap' w1 hown1 hgrow hg hltg; have hgr := grown_undrew hgrow; obtain ⟨c1, c2⟩ := nl_cell hpW hown ep ef hgr)
  all_goals
    go_wp2
    go_ret
    exact ⟨rfl, nl_done hlt hbel hown hgr c1 c2 hown1 (by omega)⟩
end Go.Proofs.YtodppilfpemepaaGreat
/- Next: Lists of notes: what Add tells, and leaves; how many there are. -/
namespace Go.Proofs.YtodppilfpemepaaGreat
open Go.RowKit
set_option linter.unusedVariables false

/-- A note: step, thread, kind, ref, spot (bits, bucket, slot), value. -/
abbrev Nv := Int × Int × Int × Int × Int × Int × Int × Int
def Nv.s (x : Nv) : Int := x.1
def Nv.k (x : Nv) : Int := x.2.2.1
def Nv.r (x : Nv) : Int := x.2.2.2.1
def Nv.cells : Nv → List Value
  | (s, th, k, r, b, c, d, v) => ncells s th k r b c d v
def Nv.agg : Nv → Value
  | (s, th, k, r, b, c, d, v) => .agg #[.int .i64 s, .int .i64 th, .int .u8 k, .int .i64 r, .int .i64 b, .int .i64 c, .int .i64 d, .int .i64 v]
def rowsN (L : List Nv) : List Value := L.flatMap Nv.cells
theorem cells_len (x : Nv) : x.cells.length = 8 := rfl
theorem rowsN_len (L : List Nv) : (rowsN L).length = L.length * 8 := by
  induction L with
  | nil => rfl
  | cons x L ih => simp only [rowsN, List.flatMap_cons, List.length_append] at *; rw [ih, cells_len]; simp; omega
theorem rowsN_snoc (L : List Nv) (x : Nv) : rowsN (L ++ [x]) = rowsN L ++ x.cells := by simp [rowsN]
theorem rowsN_at : ∀ (L : List Nv) (i j : Nat) (hi : i < L.length), j < 8 → (rowsN L)[i * 8 + j]? = L[i].cells[j]?
  | x :: L, 0, j, hi, hj => by
    simp only [rowsN, List.flatMap_cons, Nat.zero_mul, Nat.zero_add, List.getElem_cons_zero]
    rw [List.getElem?_append_left (by rw [cells_len]; exact hj)]
  | x :: L, i + 1, j, hi, hj => by
    have ih := rowsN_at L i j (by simpa using hi) hj
    simp only [rowsN, List.flatMap_cons, List.getElem_cons_succ] at *
    rw [List.getElem?_append_right (by rw [cells_len]; omega), cells_len, ← ih]
    congr 1
    omega
def IsL (w : World) (p : Nat) (L : List Nv) : Prop := IsNl w p L.length (rowsN L)
/-- May a note stand behind these? -/
def lowN (L : List Nv) (x : Nv) : Bool := match L.getLast? with
  | some y => decide (x.s < y.s)
  | none => false
def addF (L : List Nv) (x : Nv) : Int := if iskf x.k = false ∨ lowN L x = true then 1 else if 1048576 ≤ L.length then 3 else 0
def addL (L : List Nv) (x : Nv) : List Nv := if addF L x = 0 then L ++ [x] else L
theorem last_at {L : List Nv} (h : 0 < L.length) : ∃ y : Nv, L.getLast? = some y ∧ (rowsN L)[(L.length - 1) * 8]? = some (.int .i64 y.s) := by
  refine ⟨L[L.length - 1]'(by omega), ?_, ?_⟩
  · rw [List.getLast?_eq_getElem?, List.getElem?_eq_getElem (by omega)]
  · have := rowsN_at L (L.length - 1) 0 (by omega) (by omega)
    rw [Nat.add_zero] at this
    rw [this]
    obtain ⟨s, th, k, r, b, c, d, v⟩ := L[L.length - 1]'(by omega)
    rfl
theorem countl (w : World) (p n : Nat) (xs : List Value) (h : IsNl w p n xs) (hn : n ≤ 9223372036854775807) :
    Calls Tryz.prog 75 #[.pointer (some ⟨p, 0, none⟩)] w fun e w' => e = .returned (.int .i64 n) ∧ w = w' := by
  obtain ⟨u, hp, hf, hown, hnil⟩ := h
  obtain ⟨_, ⟨rfl, rfl⟩ | ⟨g, cap, rfl, _, _, hnc, hc, _⟩⟩ := Lst.of_own hown
  · clear hnil
    go_enter Tryz.func75, Tryz.ntmps75
    go_wp2
    go_ret
    exact ⟨rfl, rfl⟩
  · clear hown hnil
    go_enter Tryz.func75, Tryz.ntmps75
    go_wp2
    go_ret
    exact ⟨rfl, rfl⟩
set_option maxHeartbeats 4000000 in
set_option maxRecDepth 100000 in
/-- A note of no kind. -/
theorem addl_kind (s th k r b c d v : Int) (w : World) (p n : Nat) (xs : List Value) (h : IsNl w p n xs) (hk : iskf k = false) :
    Calls Tryz.prog 152 #[.pointer (some ⟨p, 0, none⟩), .agg #[.int .i64 s, .int .i64 th, .int .u8 k, .int .i64 r, .int .i64 b, .int .i64 c, .int .i64 d, .int .i64 v]] w fun e w' => e = .returned (.int .i64 1) ∧ Below w.heap.size w w' := by
  obtain ⟨u, hp, hf, hown, hnil⟩ := h
  have hp' := fun o => (World.cell?_alloc_some w _ o (by simp [hp])).trans hp
  obtain ⟨_, ⟨rfl, rfl⟩ | ⟨g, cap, rfl, _, _, hnc, hc, _⟩⟩ := Lst.of_own hown
  all_goals
    clear hown hnil
    go_enter Tryz.func152, Tryz.ntmps152
    go_wp2_with fail
    go_quiet ((go_at_call 168; exact quiet_left (iskw _ _)))
    go_wp2_with fail
    go_ret
    exact ⟨rfl, belowNd ((Below.refl w.heap.size w).alloc (Nat.le_refl _) _) nq⟩
set_option maxHeartbeats 4000000 in
set_option maxRecDepth 100000 in
/-- A note of an elder step. -/
theorem addl_low (s th k r b c d v ls : Int) (w : World) (p n g cap : Nat) (xs : List Value) (hn : 0 < n) (hnM : n ≤ 9223372036854775807) (hp : w.cell? ⟨p, 0, none⟩ = some (.slice (some ⟨g, 0, none⟩) n cap)) (hown0 : w.ownsRow (p + 1) 108 8 (.slice (some ⟨g, 0, none⟩) n cap) n xs)
    (hl : xs[(n - 1) * 8]? = some (.int .i64 ls)) (hs : s < ls) (hk : iskf k = true) :
    Calls Tryz.prog 152 #[.pointer (some ⟨p, 0, none⟩), .agg #[.int .i64 s, .int .i64 th, .int .u8 k, .int .i64 r, .int .i64 b, .int .i64 c, .int .i64 d, .int .i64 v]] w fun e w' => e = .returned (.int .i64 1) ∧ Below w.heap.size w w' := by
  have hp' := fun o => (World.cell?_alloc_some w _ o (by simp [hp])).trans hp
  have hc0 : w.cell? ⟨g, (n - 1) * 8, none⟩ = some (.int .i64 ls) := by
    have := hown0.cells rfl _ _ hl
    rwa [Addr.add_lit, Nat.zero_add] at this
  have hc' := fun o => (World.cell?_alloc_some w _ o (by simp [hc0])).trans hc0
  have hs' : decide (s < ls) = true := decide_eq_true hs
  have y1 : ((n : Int) - 1).toNat = n - 1 := by omega
  have y2 : IntKind.i64.wrap ((n : Int) - 1) = (n : Int) - 1 := IntWalk.i64_in _ (by omega)
  have y3 : 0 ≤ (n : Int) - 1 := by omega
  have y4 : (n : Int) - 1 < n := by omega
  have y5 : (1 : Int) ≤ n := by omega
  clear hc0 hnM hs'
  go_enter Tryz.func152, Tryz.ntmps152
  go_wp2_with fail
  go_quiet ((go_at_call 168; exact quiet_left (iskw _ _)))
  go_wp2_with fail
  go_ret
  exact ⟨rfl, belowNd ((Below.refl w.heap.size w).alloc (Nat.le_refl _) _) nq⟩
set_option maxHeartbeats 4000000 in
set_option maxRecDepth 100000 in
/-- A list that is full. -/
theorem addl_full (s th k r b c d v ls : Int) (w : World) (p n g cap : Nat) (xs : List Value) (hnM : n = 1048576) (hp : w.cell? ⟨p, 0, none⟩ = some (.slice (some ⟨g, 0, none⟩) n cap)) (hown0 : w.ownsRow (p + 1) 108 8 (.slice (some ⟨g, 0, none⟩) n cap) n xs)
    (hl : xs[(n - 1) * 8]? = some (.int .i64 ls)) (hs : ¬ s < ls) (hk : iskf k = true) :
    Calls Tryz.prog 152 #[.pointer (some ⟨p, 0, none⟩), .agg #[.int .i64 s, .int .i64 th, .int .u8 k, .int .i64 r, .int .i64 b, .int .i64 c, .int .i64 d, .int .i64 v]] w fun e w' => e = .returned (.int .i64 3) ∧ Below w.heap.size w w' := by
  have hp' := fun o => (World.cell?_alloc_some w _ o (by simp [hp])).trans hp
  have hc0 : w.cell? ⟨g, (n - 1) * 8, none⟩ = some (.int .i64 ls) := by
    have := hown0.cells rfl _ _ hl
    rwa [Addr.add_lit, Nat.zero_add] at this
  have hc' := fun o => (World.cell?_alloc_some w _ o (by simp [hc0])).trans hc0
  have hs' : decide (s < ls) = false := decide_eq_false hs
  have y1 : ((n : Int) - 1).toNat = n - 1 := by omega
  have y2 : IntKind.i64.wrap ((n : Int) - 1) = (n : Int) - 1 := IntWalk.i64_in _ (by omega)
  have y3 : 0 ≤ (n : Int) - 1 := by omega
  have y4 : (n : Int) - 1 < n := by omega
  have y5 : (1 : Int) ≤ n := by omega
  have y6 : decide ((1048576 : Int) ≤ (n : Int)) = true := decide_eq_true (by omega)
  have hn : 0 < n := by omega
  clear hc0 hnM
  go_enter Tryz.func152, Tryz.ntmps152
  go_wp2_with fail
  go_quiet ((go_at_call 168; exact quiet_left (iskw _ _)))
  go_wp2_with fail
  go_ret
  exact ⟨rfl, belowNd ((Below.refl w.heap.size w).alloc (Nat.le_refl _) _) nq⟩
theorem nl_below {w w' : World} {p n : Nat} {xs : List Value} (h : IsNl w p n xs) (hb : Below w.heap.size w w') : IsNl w' p n xs := by
  obtain ⟨u, hp, hf, hown, hnil⟩ := h
  have hlt : p < w.heap.size := World.block_lt_of_cell? _ _ hp
  exact ⟨u, (hb.cell hlt).trans hp, (hb.frozen hlt).trans hf, own_below hown hb, hnil⟩
/-- Add, of whatever note, to whatever list. -/
theorem addl (x : Nv) (w : World) (p : Nat) (L : List Nv) (h : IsL w p L) (hM : L.length ≤ 1048576) :
    Calls Tryz.prog 152 #[.pointer (some ⟨p, 0, none⟩), x.agg] w fun e w' => e = .returned (.int .i64 (addF L x)) ∧ IsL w' p (addL L x) ∧ Below p w w' := by
  obtain ⟨s, th, k, r, b, c, d, v⟩ := x
  have hh := h
  have hlt : p < w.heap.size := by obtain ⟨u, hp, _⟩ := h; exact World.block_lt_of_cell? _ _ hp
  have done1 : ∀ z : Int, addF L (s, th, k, r, b, c, d, v) = z → z ≠ 0 → (Calls Tryz.prog 152 #[.pointer (some ⟨p, 0, none⟩), .agg #[.int .i64 s, .int .i64 th, .int .u8 k, .int .i64 r, .int .i64 b, .int .i64 c, .int .i64 d, .int .i64 v]] w fun e w' => e = .returned (.int .i64 z) ∧ Below w.heap.size w w') →
      Calls Tryz.prog 152 #[.pointer (some ⟨p, 0, none⟩), (Nv.agg (s, th, k, r, b, c, d, v))] w fun e w' => e = .returned (.int .i64 (addF L (s, th, k, r, b, c, d, v))) ∧ IsL w' p (addL L (s, th, k, r, b, c, d, v)) ∧ Below p w w' := by
    intro z hz h0 hcall
    refine hcall.mono fun e w' ⟨he, hb⟩ => ⟨by rw [he, hz], ?_, hb.mono (Nat.le_of_lt hlt)⟩
    unfold addL
    rw [if_neg (by rw [hz]; exact h0)]
    exact nl_below hh hb
  by_cases hk : iskf k = true
  · obtain ⟨u, hp, hf, hown, hnil⟩ := h
    obtain ⟨hlen, ⟨rfl, h0⟩ | ⟨g, cap, rfl, _, _, hnc, hc, _⟩⟩ := Lst.of_own hown
    · have hL : L = [] := List.eq_nil_of_length_eq_zero h0
      subst hL
      have hz : addF [] (s, th, k, r, b, c, d, v) = 0 := by
        unfold addF lowN
        rw [if_neg (by simp [Nv.k, hk]), if_neg (by simp)]
      refine (addl_first s th k r b c d v w p hp hf hk).mono fun e w' ⟨he, hn, hb⟩ => ⟨by rw [he, hz], ?_, hb⟩
      unfold addL
      rw [if_pos hz]
      exact hn
    · by_cases hn0 : 0 < L.length
      · obtain ⟨y, hy1, hy2⟩ := last_at hn0
        by_cases hs : s < y.s
        · refine done1 1 ?_ (by decide) (addl_low s th k r b c d v y.s w p _ g cap _ hn0 (by omega) hp hown hy2 hs hk)
          unfold addF lowN
          rw [hy1, if_pos (.inr (decide_eq_true hs))]
        · have hlo : ¬ (iskf (Nv.k (s, th, k, r, b, c, d, v)) = false ∨ lowN L (s, th, k, r, b, c, d, v) = true) := by
            unfold lowN
            rw [hy1]
            intro e
            rcases e with e | e
            · exact absurd (hk.symm.trans e) (by decide)
            · exact hs (of_decide_eq_true e)
          by_cases hfull : L.length = 1048576
          · refine done1 3 ?_ (by decide) (addl_full s th k r b c d v y.s w p _ g cap _ hfull hp hown hy2 hs hk)
            unfold addF
            rw [if_neg hlo, if_pos (by omega)]
          · have hz : addF L (s, th, k, r, b, c, d, v) = 0 := by
              unfold addF
              rw [if_neg hlo, if_neg (by omega)]
            refine (addl_more s th k r b c d v y.s w p _ g cap _ hn0 (by omega) hp hf hown hy2 hs hk).mono fun e w' ⟨he, hn, hb⟩ => ⟨by rw [he, hz], ?_, hb⟩
            unfold addL
            rw [if_pos hz]
            unfold IsL
            rw [rowsN_snoc, List.length_append]
            exact hn
      · have hL : L = [] := List.eq_nil_of_length_eq_zero (by omega)
        subst hL
        exact absurd (hnil rfl) (by simp)
  · have hk' : iskf k = false := by simpa using hk
    refine done1 1 ?_ (by decide) (addl_kind s th k r b c d v w p _ _ h hk')
    unfold addF
    rw [if_pos (.inl hk')]
end Go.Proofs.YtodppilfpemepaaGreat
/- Next: Lists of notes, framed by sets of blocks: a note behind a list. -/
namespace Go.Proofs.YtodppilfpemepaaGreat
open Go.RowKit
set_option linter.unusedVariables false

/-- A list of notes that owns the blocks of T. -/
structure IsNt (w : World) (p n : Nat) (xs : List Value) (v : Value) (T : Nat → Prop) : Prop where
  c0 : w.cell? ⟨p, 0, none⟩ = some v
  f0 : w.frozen? ⟨p, 0, none⟩ = false
  row : w.ownsRow 0 108 8 v n xs
  nil : n = 0 → v = .slice none 0 0
  own : ∀ g, v.ownBlock = some g → T g ∧ g ≠ p
  here : T p
  lt : ∀ k, T k → k < w.heap.size
theorem IsNt.keep {w W : World} {p n : Nat} {xs : List Value} {v : Value} {T S : Nat → Prop} (h : IsNt w p n xs v T) (hk : Keeps S w W) (hT : ∀ k, T k → ¬ S k) : IsNt W p n xs v T := by
  obtain ⟨h1, h2, h3, h0, h4, h5, h6⟩ := h
  have hr := hT p h5
  exact ⟨hk.cell (p := ⟨p, 0, none⟩) hr h1, hk.frozen (p := ⟨p, 0, none⟩) hr (h6 p h5) h2, Keeps.ownsRow h3 hk (fun g hg => hT g (h4 g hg).1), h0, h4, h5, fun k s => Nat.lt_of_lt_of_le (h6 k s) hk.size⟩
/-- Behind the append and the store. -/
theorem nt_done {w W w1 : World} {p g cap n m : Nat} {v : Value} {xs ys : List Value} {T : Nat → Prop} {o : Obj} (h : IsNt w p n xs v T) (hb : Below w.heap.size w W) (hg : (W.alloc o).grownBy w1 v.ownBlock) (hl : v.ownBlock = some g ∨ w.heap.size < g) (hlt : g < w1.heap.size)
    (own1 : w1.ownsRow 0 108 8 (.slice (some ⟨g, 0, none⟩) m cap) m ys) (hm : 0 < m) :
    (w1.cell? ⟨p, 0, none⟩ = some v ∧ w1.frozen? ⟨p, 0, none⟩ = false) ∧ ∃ T' v', Turn T T' w (w1.setCell ⟨p, 0, none⟩ (.slice (some ⟨g, 0, none⟩) m cap)) ∧ IsNt (w1.setCell ⟨p, 0, none⟩ (.slice (some ⟨g, 0, none⟩) m cap)) p m ys v' T' := by
  have hp := h.lt p h.here
  have kA : Keeps (fun k => v.ownBlock = some k) w w1 := (((Keeps.of_new hb).alloc o)).grown hg (fun k e => .inl e)
  have rv : ¬ v.ownBlock = some p := fun e => (h.own p e).2 rfl
  have c0 := kA.cell (p := ⟨p, 0, none⟩) rv h.c0
  have f0 := kA.frozen (p := ⟨p, 0, none⟩) rv hp h.f0
  obtain ⟨V, hV⟩ : ∃ V, V = w1.setCell ⟨p, 0, none⟩ (.slice (some ⟨g, 0, none⟩) m cap) := ⟨_, rfl⟩
  have kV : Keeps (fun k => k = p) w1 V := by rw [hV]; exact Keeps.setCell (S := fun k => k = p) (Keeps.refl _ w1) (p := ⟨p, 0, none⟩) (.inl rfl) _
  have sV : V.heap.size = w1.heap.size := by rw [hV]; simp [World.setCell]
  have hbs := hb.size
  have gr : g ≠ p := by
    rcases hl with e | e
    · exact (h.own g e).2
    · omega
  have hw1 := kA.size
  rw [← hV]
  refine ⟨⟨c0, f0⟩, fun k => T k ∨ (w.heap.size ≤ k ∧ k < V.heap.size), .slice (some ⟨g, 0, none⟩) m cap, ⟨((kA.mono (fun k _ e => (h.own k e).1)).trans (kV.mono (fun k _ e => by rw [e]; exact h.here)) (fun _ _ s => s)), fun k s => s⟩, ?_, ?_, ?_, fun e => by omega, fun k hk => ?_, .inl h.here, fun k s => ?_⟩
  · rw [hV]; exact World.cell?_setCell_same _ _ _ c0
  · rw [hV, World.frozen?_setCell]; exact f0
  · exact Keeps.ownsRow own1 kV (fun k hk => by simp [Value.ownBlock] at hk; omega)
  · simp [Value.ownBlock] at hk
    subst hk
    refine ⟨?_, gr⟩
    rcases hl with e | e
    · exact .inl (h.own g e).1
    · exact .inr ⟨by omega, by omega⟩
  · rcases s with s | s
    · have := h.lt k s; omega
    · exact s.2
/-- What a note behind a list leaves. -/
def NtPost (w : World) (p n : Nat) (xs : List Value) (T : Nat → Prop) (w' : World) : Prop := ∃ T' v', Turn T T' w w' ∧ IsNt w' p n xs v' T'
theorem box_facts0 {w : World} {s th k r b c d v : Int} {t : TypeId} (nq : Nat) {p n : Nat} {u : Value} {xs : List Value} (hp : w.cell? ⟨p, 0, none⟩ = some u) (hf : w.frozen? ⟨p, 0, none⟩ = false) (hown : w.ownsRow 0 108 8 u n xs) {W : World} (hW : W = (w.alloc (.cells #[.int .i64 s, .int .i64 th, .int .u8 k, .int .i64 r, .int .i64 b, .int .i64 c, .int .i64 d, .int .i64 v] t)).drewN nq) :
    (W.cell? ⟨w.heap.size, 0, none⟩ = some (.int .i64 s) ∧ W.cell? ⟨w.heap.size, 1, none⟩ = some (.int .i64 th) ∧ W.cell? ⟨w.heap.size, 2, none⟩ = some (.int .u8 k) ∧ W.cell? ⟨w.heap.size, 3, none⟩ = some (.int .i64 r) ∧ W.cell? ⟨w.heap.size, 4, none⟩ = some (.int .i64 b) ∧ W.cell? ⟨w.heap.size, 5, none⟩ = some (.int .i64 c) ∧ W.cell? ⟨w.heap.size, 6, none⟩ = some (.int .i64 d) ∧ W.cell? ⟨w.heap.size, 7, none⟩ = some (.int .i64 v)) ∧
    W.cell? ⟨p, 0, none⟩ = some u ∧ W.frozen? ⟨p, 0, none⟩ = false ∧ W.ownsRow 0 108 8 u n xs ∧ W.heap.size = w.heap.size + 1 ∧ Below w.heap.size w W := by
  have hlt : p < w.heap.size := World.block_lt_of_cell? _ _ hp
  have hb : Below w.heap.size w W := by rw [hW]; exact belowNd ((Below.refl _ _).alloc (Nat.le_refl _) _) nq
  refine ⟨?_, (hb.cell hlt).trans hp, (hb.frozen hlt).trans hf, own_below hown hb, by rw [hW]; simp, hb⟩
  rw [hW]
  simp [World.cell?_drewN]
end Go.Proofs.YtodppilfpemepaaGreat
/- Next: Lists of notes, framed by sets of blocks: Add. -/
namespace Go.Proofs.YtodppilfpemepaaGreat
open Go.RowKit
set_option linter.unusedVariables false

set_option maxHeartbeats 4000000 in
set_option maxRecDepth 100000 in
theorem addt_first (s th k r b c d v : Int) (w : World) (p : Nat) {T : Nat → Prop} (h : IsNt w p 0 [] (.slice none 0 0) T) (hk : iskf k = true) :
    Calls Tryz.prog 152 #[.pointer (some ⟨p, 0, none⟩), .agg #[.int .i64 s, .int .i64 th, .int .u8 k, .int .i64 r, .int .i64 b, .int .i64 c, .int .i64 d, .int .i64 v]] w fun e w' => e = .returned (.int .i64 0) ∧ NtPost w p 1 (ncells s th k r b c d v) T w' := by
  obtain ⟨i0, hi, hz0, hz1, hz2⟩ := info_parts info_note
  have hp := h.c0
  have hf := h.f0
  have hown0 := h.row
  have HH := Lib.hid h
  clear h
  have hlt : p < w.heap.size := World.block_lt_of_cell? _ _ hp
  have hp' := fun o => (World.cell?_alloc_some w _ o (by simp [hp])).trans hp
  go_enter Tryz.func152, Tryz.ntmps152
  go_wp2_with fail
  go_quiet ((go_at_call 168; exact quiet_left (iskw _ _)))
  go_wp2_with fail
  generalize hW : (World.drewN (w.alloc _) nq) = W
  obtain ⟨⟨e0, e1, e2, e3, e4, e5, e6, e7⟩, ep, ef, hown, hsz, hbel⟩ := box_facts0 nq hp hf hown0 hW.symm
  have hpW : p < W.heap.size := by omega
  clear hW hp' hp hf
  have HSZ := Lib.hid hsz
  have hbW : w.heap.size < W.heap.size := by omega
  clear hsz
  go_region_law (refine step_append_lies _ rfl (.tmp 41) (.tmp 43) 99 rfl 0 108 i0 _ 8 64 Tryz.underlying99 hi hz0 hz1 hz2 rfl (by decide) (.slice none 0 0) 0 [] (by simp [Act.eval]) (hown.alloc _) ⟨W.heap.size, 0, none⟩ 1 1 (ncells s th k r b c d v) (by simp [Act.eval]) rfl (by intro j u hj; exact news8 hj) (by simp [ncells, Value.oneCell']) (by decide) (by unfold maxLen; decide) (by decide) (Nat.zero_le _) _ rfl ?_; intro g cap w1 hown1 hgrow hg hltg; have hgr := grown_undrew hgrow; have D := Lib.hid (nt_done HH.out hbel hgr (hg.imp id (fun e => by simp at e; omega)) hltg hown1 (by omega)); obtain ⟨c1, c2⟩ := D.out.1)
  all_goals
    go_wp2
    go_ret
    exact ⟨rfl, D.out.2⟩
set_option maxHeartbeats 4000000 in
set_option maxRecDepth 100000 in
theorem addt_more (s th k r b c d v ls : Int) (w : World) (p n g cap : Nat) (xs : List Value) (hn : 0 < n) (hnM : n < 1048576) {T : Nat → Prop} (h : IsNt w p n xs (.slice (some ⟨g, 0, none⟩) n cap) T)
    (hl : xs[(n - 1) * 8]? = some (.int .i64 ls)) (hs : ¬ s < ls) (hk : iskf k = true) :
    Calls Tryz.prog 152 #[.pointer (some ⟨p, 0, none⟩), .agg #[.int .i64 s, .int .i64 th, .int .u8 k, .int .i64 r, .int .i64 b, .int .i64 c, .int .i64 d, .int .i64 v]] w fun e w' => e = .returned (.int .i64 0) ∧ NtPost w p (n + 1) (xs ++ ncells s th k r b c d v) T w' := by
  obtain ⟨i0, hi, hz0, hz1, hz2⟩ := info_parts info_note
  have hp := h.c0
  have hf := h.f0
  have hown0 := h.row
  have HH := Lib.hid h
  clear h
  have hlt : p < w.heap.size := World.block_lt_of_cell? _ _ hp
  have hp' := fun o => (World.cell?_alloc_some w _ o (by simp [hp])).trans hp
  have hc0 : w.cell? ⟨g, (n - 1) * 8, none⟩ = some (.int .i64 ls) := by
    have := hown0.cells rfl _ _ hl
    rwa [Addr.add_lit, Nat.zero_add] at this
  have hc' := fun o => (World.cell?_alloc_some w _ o (by simp [hc0])).trans hc0
  have hs' : decide (s < ls) = false := decide_eq_false hs
  have y1 : ((n : Int) - 1).toNat = n - 1 := by omega
  have y2 : IntKind.i64.wrap ((n : Int) - 1) = (n : Int) - 1 := IntWalk.i64_in _ (by omega)
  have y3 : 0 ≤ (n : Int) - 1 := by omega
  have y4 : (n : Int) - 1 < n := by omega
  have y5 : (1 : Int) ≤ n := by omega
  have y6 : decide ((1048576 : Int) ≤ (n : Int)) = false := decide_eq_false (by omega)
  have HNM := Lib.hid hnM
  clear hc0 hnM
  go_enter Tryz.func152, Tryz.ntmps152
  go_wp2_with fail
  go_quiet ((go_at_call 168; exact quiet_left (iskw _ _)))
  go_wp2_with fail
  generalize hW : (World.drewN (w.alloc _) nq) = W
  obtain ⟨⟨e0, e1, e2, e3, e4, e5, e6, e7⟩, ep, ef, hown, hsz, hbel⟩ := box_facts0 nq hp hf hown0 hW.symm
  have hpW : p < W.heap.size := by omega
  clear hW hp' hp hf hc' y1 y2 y3 y4 y5 y6
  have HSZ := Lib.hid hsz
  have hbW : w.heap.size < W.heap.size := by omega
  clear hsz
  go_region_law (refine step_append_lies _ rfl (.tmp 41) (.tmp 43) 99 rfl 0 108 i0 _ 8 64 Tryz.underlying99 hi hz0 hz1 hz2 rfl (by decide) (.slice (some ⟨g, 0, none⟩) n cap) n xs (by simp [Act.eval]) (hown.alloc _) ⟨W.heap.size, 0, none⟩ 1 1 (ncells s th k r b c d v) (by simp [Act.eval]) rfl (by intro j u hj; exact news8 hj) (by simp [ncells, Value.oneCell']) (by decide) (by have := HNM.out; unfold maxLen; omega) (by have := HNM.out; omega) (Nat.zero_le _) _ rfl ?_; intro g' cap' w1 hown1 hgrow hg hltg; have hgr := grown_undrew hgrow; have D := Lib.hid (nt_done HH.out hbel hgr (hg.imp id (fun e => by simp at e; omega)) hltg hown1 (by omega)); obtain ⟨c1, c2⟩ := D.out.1)
  all_goals
    go_wp2
    go_ret
    exact ⟨rfl, D.out.2⟩
end Go.Proofs.YtodppilfpemepaaGreat
/- Next: Lists of notes, framed by sets of blocks: Add of whatever note, Count. -/
namespace Go.Proofs.YtodppilfpemepaaGreat
open Go.RowKit
set_option linter.unusedVariables false

theorem countt (w : World) (p n : Nat) (xs : List Value) {u : Value} {T : Nat → Prop} (h : IsNt w p n xs u T) (hn : n ≤ 9223372036854775807) :
    Calls Tryz.prog 75 #[.pointer (some ⟨p, 0, none⟩)] w fun e w' => e = .returned (.int .i64 n) ∧ w = w' := by
  have hp := h.c0
  have hf := h.f0
  have hown := h.row
  have hnil := h.nil
  clear h
  obtain ⟨_, ⟨rfl, rfl⟩ | ⟨g, cap, rfl, _, _, hnc, hc, _⟩⟩ := Lst.of_own hown
  · clear hnil
    go_enter Tryz.func75, Tryz.ntmps75
    go_wp2
    go_ret
    exact ⟨rfl, rfl⟩
  · clear hown hnil
    go_enter Tryz.func75, Tryz.ntmps75
    go_wp2
    go_ret
    exact ⟨rfl, rfl⟩
set_option maxHeartbeats 4000000 in
set_option maxRecDepth 100000 in
theorem addt_kind (s th k r b c d v : Int) (w : World) (p n : Nat) (xs : List Value) {u : Value} {T : Nat → Prop} (h : IsNt w p n xs u T) (hk : iskf k = false) :
    Calls Tryz.prog 152 #[.pointer (some ⟨p, 0, none⟩), .agg #[.int .i64 s, .int .i64 th, .int .u8 k, .int .i64 r, .int .i64 b, .int .i64 c, .int .i64 d, .int .i64 v]] w fun e w' => e = .returned (.int .i64 1) ∧ Below w.heap.size w w' := by
  have hp := h.c0
  have hf := h.f0
  have hown := h.row
  have hnil := h.nil
  clear h
  have hp' := fun o => (World.cell?_alloc_some w _ o (by simp [hp])).trans hp
  obtain ⟨_, ⟨rfl, rfl⟩ | ⟨g, cap, rfl, _, _, hnc, hc, _⟩⟩ := Lst.of_own hown
  all_goals
    clear hown hnil
    go_enter Tryz.func152, Tryz.ntmps152
    go_wp2_with fail
    go_quiet ((go_at_call 168; exact quiet_left (iskw _ _)))
    go_wp2_with fail
    go_ret
    exact ⟨rfl, belowNd ((Below.refl w.heap.size w).alloc (Nat.le_refl _) _) nq⟩
set_option maxHeartbeats 4000000 in
set_option maxRecDepth 100000 in
theorem addt_low (s th k r b c d v ls : Int) (w : World) (p n g cap : Nat) (xs : List Value) (hn : 0 < n) (hnM : n ≤ 9223372036854775807) (hp : w.cell? ⟨p, 0, none⟩ = some (.slice (some ⟨g, 0, none⟩) n cap)) (hown0 : w.ownsRow 0 108 8 (.slice (some ⟨g, 0, none⟩) n cap) n xs)
    (hl : xs[(n - 1) * 8]? = some (.int .i64 ls)) (hs : s < ls) (hk : iskf k = true) :
    Calls Tryz.prog 152 #[.pointer (some ⟨p, 0, none⟩), .agg #[.int .i64 s, .int .i64 th, .int .u8 k, .int .i64 r, .int .i64 b, .int .i64 c, .int .i64 d, .int .i64 v]] w fun e w' => e = .returned (.int .i64 1) ∧ Below w.heap.size w w' := by
  have hp' := fun o => (World.cell?_alloc_some w _ o (by simp [hp])).trans hp
  have hc0 : w.cell? ⟨g, (n - 1) * 8, none⟩ = some (.int .i64 ls) := by
    have := hown0.cells rfl _ _ hl
    rwa [Addr.add_lit, Nat.zero_add] at this
  have hc' := fun o => (World.cell?_alloc_some w _ o (by simp [hc0])).trans hc0
  have hs' : decide (s < ls) = true := decide_eq_true hs
  have y1 : ((n : Int) - 1).toNat = n - 1 := by omega
  have y2 : IntKind.i64.wrap ((n : Int) - 1) = (n : Int) - 1 := IntWalk.i64_in _ (by omega)
  have y3 : 0 ≤ (n : Int) - 1 := by omega
  have y4 : (n : Int) - 1 < n := by omega
  have y5 : (1 : Int) ≤ n := by omega
  clear hc0 hnM hs'
  go_enter Tryz.func152, Tryz.ntmps152
  go_wp2_with fail
  go_quiet ((go_at_call 168; exact quiet_left (iskw _ _)))
  go_wp2_with fail
  go_ret
  exact ⟨rfl, belowNd ((Below.refl w.heap.size w).alloc (Nat.le_refl _) _) nq⟩
set_option maxHeartbeats 4000000 in
set_option maxRecDepth 100000 in
theorem addt_full (s th k r b c d v ls : Int) (w : World) (p n g cap : Nat) (xs : List Value) (hnM : n = 1048576) (hp : w.cell? ⟨p, 0, none⟩ = some (.slice (some ⟨g, 0, none⟩) n cap)) (hown0 : w.ownsRow 0 108 8 (.slice (some ⟨g, 0, none⟩) n cap) n xs)
    (hl : xs[(n - 1) * 8]? = some (.int .i64 ls)) (hs : ¬ s < ls) (hk : iskf k = true) :
    Calls Tryz.prog 152 #[.pointer (some ⟨p, 0, none⟩), .agg #[.int .i64 s, .int .i64 th, .int .u8 k, .int .i64 r, .int .i64 b, .int .i64 c, .int .i64 d, .int .i64 v]] w fun e w' => e = .returned (.int .i64 3) ∧ Below w.heap.size w w' := by
  have hp' := fun o => (World.cell?_alloc_some w _ o (by simp [hp])).trans hp
  have hc0 : w.cell? ⟨g, (n - 1) * 8, none⟩ = some (.int .i64 ls) := by
    have := hown0.cells rfl _ _ hl
    rwa [Addr.add_lit, Nat.zero_add] at this
  have hc' := fun o => (World.cell?_alloc_some w _ o (by simp [hc0])).trans hc0
  have hs' : decide (s < ls) = false := decide_eq_false hs
  have y1 : ((n : Int) - 1).toNat = n - 1 := by omega
  have y2 : IntKind.i64.wrap ((n : Int) - 1) = (n : Int) - 1 := IntWalk.i64_in _ (by omega)
  have y3 : 0 ≤ (n : Int) - 1 := by omega
  have y4 : (n : Int) - 1 < n := by omega
  have y5 : (1 : Int) ≤ n := by omega
  have y6 : decide ((1048576 : Int) ≤ (n : Int)) = true := decide_eq_true (by omega)
  have hn : 0 < n := by omega
  clear hc0 hnM
  go_enter Tryz.func152, Tryz.ntmps152
  go_wp2_with fail
  go_quiet ((go_at_call 168; exact quiet_left (iskw _ _)))
  go_wp2_with fail
  go_ret
  exact ⟨rfl, belowNd ((Below.refl w.heap.size w).alloc (Nat.le_refl _) _) nq⟩
/-- A list of these notes, that owns T. -/
def Nts (w : World) (p : Nat) (L : List Nv) (T : Nat → Prop) : Prop := ∃ v, IsNt w p L.length (rowsN L) v T
theorem Nts.keep {w W : World} {p : Nat} {L : List Nv} {T S : Nat → Prop} (h : Nts w p L T) (hk : Keeps S w W) (hT : ∀ k, T k → ¬ S k) : Nts W p L T := by
  obtain ⟨v, h⟩ := h
  exact ⟨v, h.keep hk hT⟩
theorem Nts.new {w W : World} {p : Nat} {L : List Nv} {T : Nat → Prop} (h : Nts w p L T) (hk : Below w.heap.size w W) : Nts W p L T := h.keep (Keeps.of_new (S := fun _ => False) hk) (fun _ _ s => s)
theorem nts_made (W : World) (t : TypeId) : Nts (W.alloc (.cells #[.slice none 0 0] t)) W.heap.size [] (fun k => k = W.heap.size) :=
  ⟨_, by simp, by simp, World.ownsRow_nil _ _ _ _, fun _ => rfl, fun g hg => by simp [Value.ownBlock] at hg, rfl, fun k e => by rw [e]; simp⟩
theorem countT {w : World} {p : Nat} {L : List Nv} {T : Nat → Prop} (h : Nts w p L T) (hM : L.length ≤ 1048576) :
    Calls Tryz.prog 75 #[.pointer (some ⟨p, 0, none⟩)] w fun e w' => e = .returned (.int .i64 L.length) ∧ w = w' := by
  obtain ⟨v, h⟩ := h
  exact countt w p _ _ h (by omega)
/-- Add, of whatever note, to whatever list. -/
theorem addT (x : Nv) {w : World} {p : Nat} {L : List Nv} {T : Nat → Prop} (h : Nts w p L T) (hM : L.length ≤ 1048576) :
    Calls Tryz.prog 152 #[.pointer (some ⟨p, 0, none⟩), x.agg] w fun e w' => e = .returned (.int .i64 (addF L x)) ∧ ∃ T', Turn T T' w w' ∧ Nts w' p (addL L x) T' := by
  obtain ⟨s, th, k, r, b, c, d, v⟩ := x
  have hh := h
  have done1 : ∀ z : Int, addF L (s, th, k, r, b, c, d, v) = z → z ≠ 0 → (Calls Tryz.prog 152 #[.pointer (some ⟨p, 0, none⟩), .agg #[.int .i64 s, .int .i64 th, .int .u8 k, .int .i64 r, .int .i64 b, .int .i64 c, .int .i64 d, .int .i64 v]] w fun e w' => e = .returned (.int .i64 z) ∧ Below w.heap.size w w') →
      Calls Tryz.prog 152 #[.pointer (some ⟨p, 0, none⟩), (Nv.agg (s, th, k, r, b, c, d, v))] w fun e w' => e = .returned (.int .i64 (addF L (s, th, k, r, b, c, d, v))) ∧ ∃ T', Turn T T' w w' ∧ Nts w' p (addL L (s, th, k, r, b, c, d, v)) T' := by
    intro z hz h0 hcall
    refine hcall.mono fun e w' ⟨he, hb⟩ => ⟨by rw [he, hz], T, ⟨Keeps.of_new hb, fun k s => .inl s⟩, ?_⟩
    unfold addL
    rw [if_neg (by rw [hz]; exact h0)]
    exact hh.new hb
  by_cases hk : iskf k = true
  · obtain ⟨u, h⟩ := h
    obtain ⟨hlen, ⟨rfl, h0⟩ | ⟨g, cap, rfl, _, _, hnc, hc, _⟩⟩ := Lst.of_own h.row
    · have hL : L = [] := List.eq_nil_of_length_eq_zero h0
      subst hL
      have hz : addF [] (s, th, k, r, b, c, d, v) = 0 := by
        unfold addF lowN
        rw [if_neg (by simp [Nv.k, hk]), if_neg (by simp)]
      refine (addt_first s th k r b c d v w p h hk).mono fun e w' ⟨he, T', v', ht, hn⟩ => ⟨by rw [he, hz], T', ht, v', ?_⟩
      unfold addL
      rw [if_pos hz]
      exact hn
    · by_cases hn0 : 0 < L.length
      · obtain ⟨y, hy1, hy2⟩ := last_at hn0
        by_cases hs : s < y.s
        · refine done1 1 ?_ (by decide) (addt_low s th k r b c d v y.s w p _ g cap _ hn0 (by omega) h.c0 h.row hy2 hs hk)
          unfold addF lowN
          rw [hy1, if_pos (.inr (decide_eq_true hs))]
        · have hlo : ¬ (iskf (Nv.k (s, th, k, r, b, c, d, v)) = false ∨ lowN L (s, th, k, r, b, c, d, v) = true) := by
            unfold lowN
            rw [hy1]
            intro e
            rcases e with e | e
            · exact absurd (hk.symm.trans e) (by decide)
            · exact hs (of_decide_eq_true e)
          by_cases hfull : L.length = 1048576
          · refine done1 3 ?_ (by decide) (addt_full s th k r b c d v y.s w p _ g cap _ hfull h.c0 h.row hy2 hs hk)
            unfold addF
            rw [if_neg hlo, if_pos (by omega)]
          · have hz : addF L (s, th, k, r, b, c, d, v) = 0 := by
              unfold addF
              rw [if_neg hlo, if_neg (by omega)]
            refine (addt_more s th k r b c d v y.s w p _ g cap _ hn0 (by omega) h hy2 hs hk).mono fun e w' ⟨he, T', v', ht, hn⟩ => ⟨by rw [he, hz], T', ht, v', ?_⟩
            unfold addL
            rw [if_pos hz]
            rw [rowsN_snoc, List.length_append]
            exact hn
      · have hL : L = [] := List.eq_nil_of_length_eq_zero (by omega)
        subst hL
        exact absurd (h.nil rfl) (by simp)
  · have hk' : iskf k = false := by simpa using hk
    obtain ⟨u, h⟩ := h
    refine done1 1 ?_ (by decide) (addt_kind s th k r b c d v w p _ _ h hk')
    unfold addF
    rw [if_pos (.inl hk')]
/-- A list whose blocks are none older than its own is one as the readers' contracts have it. -/
theorem Nts.isL {w : World} {p : Nat} {L : List Nv} {T : Nat → Prop} (h : Nts w p L T) (hT : ∀ k, T k → p ≤ k) : IsL w p L := by
  obtain ⟨v, h⟩ := h
  obtain ⟨hl, h' | ⟨g, cap, cur, e, hB, r⟩⟩ := h.row
  · exact ⟨v, h.c0, h.f0, ⟨hl, .inl h'⟩, h.nil⟩
  · have := h.own g (by rw [e]; rfl)
    have := hT g this.1
    exact ⟨v, h.c0, h.f0, ⟨hl, .inr ⟨g, cap, cur, e, by omega, r⟩⟩, h.nil⟩
end Go.Proofs.YtodppilfpemepaaGreat
/- Next: Lists of notes: where a note is so; the notes of a kind; where an item was dropped. -/
namespace Go.Proofs.YtodppilfpemepaaGreat
open Go.RowKit
set_option linter.unusedVariables false

theorem info_int : (Tryz.prog.info? 3).map (fun i => (i.zero, i.size, i.bytes)) = some (some (.int .i64 0), 1, 8) := by kernel_rfl
theorem ints_snoc (l : List Int) (k : Int) : ints (l ++ [k]) = ints l ++ [.int .i64 k] := by simp [ints]
def soD (ref : Int) (x : Nv) : Bool := (x.k == 1) && (x.r == ref)
def soK (k : Int) (x : Nv) : Bool := x.k == k
/-- The places below k at which a note is so. -/
def idx (so : Nv → Bool) (L : List Nv) : Nat → List Int
  | 0 => []
  | k + 1 => idx so L k ++ match L[k]? with
    | some x => if so x then [(k : Int)] else []
    | none => []
theorem idx_le (so : Nv → Bool) (L : List Nv) : ∀ k, (idx so L k).length ≤ k
  | 0 => by simp [idx]
  | k + 1 => by
    have := idx_le so L k
    unfold idx
    split
    · split <;> simp <;> omega
    · simp; omega
theorem idx_hit {so : Nv → Bool} {L : List Nv} {k : Nat} {x : Nv} (h : L[k]? = some x) (hs : so x = true) : idx so L (k + 1) = idx so L k ++ [(k : Int)] := by simp [idx, h, hs]
theorem idx_miss {so : Nv → Bool} {L : List Nv} {k : Nat} {x : Nv} (h : L[k]? = some x) (hs : so x = false) : idx so L (k + 1) = idx so L k := by simp [idx, h, hs]
end Go.Proofs.YtodppilfpemepaaGreat
/- Next: Lists of notes: where an item was told to be dropped. -/
namespace Go.Proofs.YtodppilfpemepaaGreat
open Go.RowKit
set_option linter.unusedVariables false

theorem idx_mem (so : Nv → Bool) (L : List Nv) : ∀ (k : Nat) (z : Int), z ∈ idx so L k → ∃ m : Nat, z = m ∧ m < k ∧ ∃ x, L[m]? = some x ∧ so x = true
  | 0, z, h => by simp [idx] at h
  | k + 1, z, h => by
    unfold idx at h
    rcases List.mem_append.mp h with h | h
    · obtain ⟨m, h1, h2, h3⟩ := idx_mem so L k z h
      exact ⟨m, h1, by omega, h3⟩
    · split at h
      · next x hx =>
        split at h
        · next hs => simp at h; exact ⟨k, h, by omega, x, hx, hs⟩
        · simp at h
      · simp at h
/-- Where the last NtEvict of an item stands. -/
def dropF (L : List Nv) (ref : Int) : Int × Bool := match (idx (soD ref) L L.length).getLast? with
  | some z => (z, true)
  | none => (0, false)
theorem ret_ib {k : IntKind} {a : Int} {b : Bool} {p : Int × Bool} (h : p = (a, b)) : Ending.returned (.tuple #[.int k a, .bool b]) = .returned (.tuple #[.int k p.1, .bool p.2]) := by rw [h]
end Go.Proofs.YtodppilfpemepaaGreat
/- Next: Lists of notes: the notes of a kind. -/
namespace Go.Proofs.YtodppilfpemepaaGreat
open Go.RowKit
set_option linter.unusedVariables false

theorem clipn (a : Option Addr) (n c : Nat) (w : World) (hn : n ≤ c) (hc : c ≤ maxLen) (h0 : a = none → n = 0 ∧ c = 0) :
    Calls Tryz.prog 119 #[.slice a n c] w fun e w' => e = .returned (.slice a n n) ∧ w = w' := by
  unfold maxLen at hc
  cases a with
  | none =>
    obtain ⟨rfl, rfl⟩ := h0 rfl
    go_enter Tryz.func119, Tryz.ntmps119
    go_wp2
    go_ret
    exact ⟨rfl, rfl⟩
  | some a =>
    clear h0
    go_enter Tryz.func119, Tryz.ntmps119
    go_wp2
    go_ret
    exact ⟨rfl, rfl⟩
/-- The notes at these places. -/
def pick (L : List Nv) (I : List Int) : List Nv := I.filterMap fun z => L[z.toNat]?
theorem pick_idx (so : Nv → Bool) (L : List Nv) : ∀ k, k ≤ L.length → pick L (idx so L k) = (L.take k).filter so
  | 0, _ => by simp [pick, idx]
  | k + 1, h => by
    have ih := pick_idx so L k (by omega)
    have hx : L[k]? = some L[k] := List.getElem?_eq_getElem (by omega)
    rw [List.take_succ_eq_append_getElem (by omega), List.filter_append, ← ih]
    have e : idx so L (k + 1) = idx so L k ++ if so L[k] then [(k : Int)] else [] := by simp [idx, hx]
    rw [e]
    unfold pick
    rw [List.filterMap_append]
    cases hs : so L[k] with
    | true => simp [hs, hx]
    | false => simp [hs]
theorem pick_all (so : Nv → Bool) (L : List Nv) : pick L (idx so L L.length) = L.filter so := by
  rw [pick_idx so L L.length (Nat.le_refl _), List.take_length]
theorem pick_snoc {L : List Nv} {I : List Int} {m : Nat} {x : Nv} (h : L[m]? = some x) : pick L (I ++ [(m : Int)]) = pick L I ++ [x] := by
  simp [pick, h]
theorem pick_len (L : List Nv) (I : List Int) : (pick L I).length ≤ I.length := List.length_filterMap_le _ _
end Go.Proofs.YtodppilfpemepaaGreat
/- Next: Lists of notes: those from a place on. -/
namespace Go.Proofs.YtodppilfpemepaaGreat
open Go.RowKit
set_option linter.unusedVariables false

theorem cells_one {x : Nv} {u : Value} (h : u ∈ x.cells) : u.oneCell' = true := by
  obtain ⟨s, th, k, r, b, c, d, v⟩ := x
  simp only [Nv.cells, ncells, List.mem_cons, List.not_mem_nil, or_false] at h
  rcases h with rfl | rfl | rfl | rfl | rfl | rfl | rfl | rfl <;> rfl
theorem rowsN_one {L : List Nv} {u : Value} (h : u ∈ rowsN L) : u.oneCell' = true := by
  simp only [rowsN, List.mem_flatMap] at h
  obtain ⟨x, _, hx⟩ := h
  exact cells_one hx
set_option maxHeartbeats 2000000 in
set_option maxRecDepth 100000 in
theorem clonen (g off n c : Nat) (xs : List Value) (w : World) (hx : xs.length = n * 8) (hc : ∀ j u, xs[j]? = some u → w.cell? ⟨g, off + j, none⟩ = some u) (h1 : ∀ u ∈ xs, u.oneCell' = true) (hn : n ≤ 1048576) :
    Calls Tryz.prog 120 #[.slice (some ⟨g, off, none⟩) n c] w fun e w' => ∃ v, e = .returned v ∧ w'.ownsRow w.heap.size 108 8 v n xs ∧ Below w.heap.size w w' := by
  obtain ⟨i0, hi, hz0, hz1, hz2⟩ := info_parts info_note
  have HC := Lib.hid hc
  have H1 := Lib.hid h1
  have HX := Lib.hid hx
  have hnil : ∀ W, (binOp .eql 99 (.slice (some ⟨g, off, none⟩) n c) (.slice none 0 0)).run Tryz.prog W = .ok (.bool false) W := fun W => by kernel_rfl
  clear hc h1 hx
  go_enter Tryz.func120, Tryz.ntmps120
  have hmade := World.ownsRow_made (base := w.heap.size) (e := 108) (size := 8) w #[] 0 (Nat.le_refl _) (by unfold maxLen; decide) (by simp)
  go_wp2_with (at_builtin; refine wpList_append_own _ rfl _ _ 99 rfl w.heap.size 108 i0 (.agg #[.int .i64 0, .int .i64 0, .int .u8 0, .int .i64 0, .int .i64 0, .int .i64 0, .int .i64 0, .int .i64 0]) 8 64 Tryz.underlying99 hi hz0 hz1 hz2 rfl (by decide) _ _ _ rfl hmade ⟨g, off, none⟩ n c xs rfl HX.out ?c1 ?c2 ?c3 ?c4 ?c5 ?_)
  case c1 =>
    intro j u hj
    have h := HC.out j u hj
    rw [Addr.add_lit]
    exact (World.cell?_alloc_some w _ _ (by simp [h])).trans h
  case c2 => exact H1.out
  case c3 => unfold maxLen; omega
  case c4 => omega
  case c5 => simp
  intro v' w3 hown' hgrow _
  have R : Below w.heap.size w w3 := ((Below.refl w.heap.size w).alloc (Nat.le_refl _) _).grown hgrow (by simp) (fun k hk => (hmade.lt k hk).1)
  clear hgrow hmade
  go_wp2
  go_ret
  exact ⟨_, rfl, hown', R⟩
theorem clonen_nil (w : World) :
    Calls Tryz.prog 120 #[.slice none 0 0] w fun e w' => e = .returned (.slice none 0 0) ∧ w = w' := by
  have hnil : ∀ W, (binOp .eql 99 (.slice none 0 0) (.slice none 0 0)).run Tryz.prog W = .ok (.bool true) W := fun W => by kernel_rfl
  go_enter Tryz.func120, Tryz.ntmps120
  go_wp2
  go_ret
  exact ⟨rfl, rfl⟩
theorem rowsN_drop (L : List Nv) (m : Nat) : rowsN (L.drop m) = (rowsN L).drop (m * 8) := by
  induction m generalizing L with
  | zero => simp
  | succ m ih =>
    cases L with
    | nil => simp [rowsN]
    | cons x L =>
      rw [List.drop_succ_cons, ih]
      have : rowsN (x :: L) = x.cells ++ rowsN L := by simp [rowsN]
      have hx : x.cells.drop (8 + m * 8) = [] := List.drop_eq_nil_of_le (by rw [cells_len]; omega)
      rw [this, show (m + 1) * 8 = 8 + m * 8 by omega, List.drop_append, hx, cells_len, List.nil_append]
      congr 1
      omega
set_option maxHeartbeats 4000000 in
set_option maxRecDepth 100000 in
theorem sincew (w : World) (p : Nat) (L : List Nv) (z : Int) (h : IsL w p L) (hM : L.length ≤ 1048576) :
    Calls Tryz.prog 80 #[.pointer (some ⟨p, 0, none⟩), .int .i64 z] w (IsLst w 8 (L.drop z.toNat).length (rowsN (L.drop z.toNat))) := by
  obtain ⟨u, hp, hf, hown, hnil⟩ := h
  obtain ⟨_, ⟨rfl, h0⟩ | ⟨g, cap, rfl, hgB, hg, hnc, hcm, _⟩⟩ := Lst.of_own hown
  · have hL : L = [] := List.eq_nil_of_length_eq_zero h0
    subst hL
    clear hnil hown hf
    rw [List.drop_nil]
    by_cases hz : 0 ≤ z
    · have hz' : decide (0 ≤ z) = true := decide_eq_true hz
      go_enter Tryz.func80, Tryz.ntmps80
      go_wp2_with fail
      go_ret
      exact ⟨_, rfl, ⟨rfl, .inl ⟨rfl, rfl⟩⟩, Below.refl _ _⟩
    · have hz' : decide (0 ≤ z) = false := decide_eq_false hz
      have hm : max z 0 = 0 := by omega
      clear hz
      go_enter Tryz.func80, Tryz.ntmps80
      go_wp2_with fail
      all_goals
        refine (clonen_nil _).mono ?_
        rintro e w1 ⟨rfl, rfl⟩
        go_wp2_with fail
        refine (clipn none 0 0 _ (by omega) (by unfold maxLen; omega) (fun _ => ⟨rfl, rfl⟩)).mono ?_
        rintro e w2 ⟨rfl, rfl⟩
        go_wp2_with fail
        go_ret
        exact ⟨_, rfl, ⟨rfl, .inl ⟨rfl, rfl⟩⟩, Below.refl _ _⟩
  · have hLp : 0 < L.length := by
      rcases Nat.eq_zero_or_pos L.length with e | e
      · exact absurd (hnil e) (by simp)
      · exact e
    by_cases hz : (L.length : Int) ≤ z
    · have hd : L.drop z.toNat = [] := List.drop_eq_nil_of_le (by omega)
      rw [hd]
      have hz' : decide ((L.length : Int) ≤ z) = true := decide_eq_true hz
      clear hz hd hown hnil hf
      go_enter Tryz.func80, Tryz.ntmps80
      go_wp2_with fail
      go_ret
      exact ⟨_, rfl, ⟨rfl, .inl ⟨rfl, rfl⟩⟩, Below.refl _ _⟩
    · have hz' : decide ((L.length : Int) ≤ z) = false := decide_eq_false hz
      obtain ⟨m, hm⟩ : ∃ m : Nat, m = z.toNat := ⟨_, rfl⟩
      have hml : m < L.length := by omega
      have hmz : max z 0 = (m : Int) := by omega
      have hcm' : ¬ cap = m := by omega
      have hdl : (rowsN (L.drop m)).length = (L.length - m) * 8 := by rw [rowsN_len, List.length_drop]
      have hdc : ∀ j u, (rowsN (L.drop m))[j]? = some u → w.cell? ⟨g, m * 8 + j, none⟩ = some u := by
        intro j u hj
        rw [rowsN_drop, List.getElem?_drop] at hj
        have := hown.cells rfl _ _ hj
        rwa [Addr.add_lit, Nat.zero_add] at this
      have HDC := Lib.hid hdc
      have HDL := Lib.hid hdl
      rw [← hm]
      have hlen : (L.drop m).length = L.length - m := List.length_drop
      rw [hlen]
      have hmc : m ≤ cap := by omega
      have hmL : m ≤ L.length := by omega
      have hln : (L.length - m) ≤ 1048576 := by omega
      have hway : z = (m : Int) ∨ z < 0 ∧ m = 0 := by omega
      unfold maxLen at hcm
      clear hz hown hnil hf hdc hdl hlen hm hmz hLp
      rcases hway with rfl | ⟨hz0, rfl⟩
      · go_enter Tryz.func80, Tryz.ntmps80
        go_wp2_with fail
        refine (clonen g (m * 8) (L.length - m) (cap - m) (rowsN (L.drop m)) w HDL.out HDC.out (fun u h => rowsN_one h) hln).mono ?_
        rintro e w1 ⟨v, rfl, hown1, hb1⟩
        obtain ⟨a, n, c, hv, hn, hc, h0, L'⟩ := lst_clip hown1
        rw [hv]
        clear hv hown1
        go_wp2_with fail
        refine (clipn _ _ _ _ hn hc h0).mono ?_
        rintro e w2 ⟨rfl, rfl⟩
        go_wp2_with fail
        go_ret
        exact ⟨_, rfl, L', hb1⟩
      · have hz1 : decide ((L.length : Int) ≤ z) = false := hz'
        have hD0 : ∀ j u, (rowsN (L.drop 0))[j]? = some u → w.cell? ⟨g, 0 + j, none⟩ = some u := fun j u h => by have := HDC.out j u h; rwa [Nat.zero_mul] at this
        have HD0 := Lib.hid hD0
        clear hD0
        go_enter Tryz.func80, Tryz.ntmps80
        go_wp2_with fail
        all_goals
          refine (clonen g 0 (L.length - 0) _ (rowsN (L.drop 0)) w HDL.out HD0.out (fun u h => rowsN_one h) hln).mono ?_
          rintro e w1 ⟨v, rfl, hown1, hb1⟩
          obtain ⟨a, n, c, hv, hn, hc, h0, L'⟩ := lst_clip hown1
          rw [hv]
          clear hv hown1
          go_wp2_with fail
          refine (clipn _ _ _ _ hn hc h0).mono ?_
          rintro e w2 ⟨rfl, rfl⟩
          go_wp2_with fail
          go_ret
          exact ⟨_, rfl, L', hb1⟩
end Go.Proofs.YtodppilfpemepaaGreat
/- Next: All the notes; a note as the chapter has it. -/
namespace Go.Proofs.YtodppilfpemepaaGreat
open Go.RowKit
set_option linter.unusedVariables false

theorem allw (w : World) (p : Nat) (L : List Nv) (h : IsL w p L) (hM : L.length ≤ 1048576) :
    Calls Tryz.prog 33 #[.pointer (some ⟨p, 0, none⟩)] w (IsLst w 8 L.length (rowsN L)) := by
  have hS := sincew w p L 0 h hM
  have HS := Lib.hid hS
  clear hS h
  go_enter Tryz.func33, Tryz.ntmps33
  go_wp2_with fail
  refine HS.out.mono ?_
  rintro e w1 ⟨u, rfl, hL, hb⟩
  go_wp2_with fail
  go_ret
  exact ⟨_, rfl, hL, hb⟩
end Go.Proofs.YtodppilfpemepaaGreat
/- Next: Lists of notes: a new one; the chapter's examples. -/
namespace Go.Proofs.YtodppilfpemepaaGreat
open Go.RowKit
set_option linter.unusedVariables false

theorem newl (w : World) : Calls Tryz.prog 56 #[] w fun e w' => e = .returned (.pointer (some ⟨w.heap.size, 0, none⟩)) ∧ IsL w' w.heap.size [] ∧ Below w.heap.size w w' := by
  go_enter Tryz.func56, Tryz.ntmps56
  go_wp2_with fail
  go_ret
  exact ⟨rfl, ⟨.slice none 0 0, by simp, by simp, World.ownsRow_nil _ _ _ _, fun _ => rfl⟩, (Below.refl _ _).alloc (Nat.le_refl _) _⟩
abbrev nt (s k r : Int) : Nv := (s, 0, k, r, 0, 0, 0, 0)
theorem ex09 : addF [] (nt 4 1 9) = 0 ∧ addL [] (nt 4 1 9) = [nt 4 1 9] ∧ addF [nt 4 1 9] (nt 3 9 0) = 1 ∧ addL [nt 4 1 9] (nt 3 9 0) = [nt 4 1 9] ∧ addF [nt 4 1 9] (nt 4 10 0) = 1 ∧ addL [nt 4 1 9] (nt 4 10 0) = [nt 4 1 9] ∧ addF [nt 4 1 9] (nt 4 9 0) = 0 ∧ addL [nt 4 1 9] (nt 4 9 0) = [nt 4 1 9, nt 4 9 0] := ⟨by decide, by rfl, by decide, by rfl, by decide, by rfl, by decide, by rfl⟩
theorem ex09b : [nt 4 1 9, nt 4 9 0].filter (soK 9) = [nt 4 9 0] ∧ dropF [nt 4 1 9, nt 4 9 0] 9 = (0, true) ∧ dropF [nt 4 1 9, nt 4 9 0] 4 = (0, false) := ⟨by rfl, by rfl, by rfl⟩
end Go.Proofs.YtodppilfpemepaaGreat
