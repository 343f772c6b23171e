/- The chapter's lists of notes: what a list has; a note behind it. -/
import Derived.Test.YtodppilfpemepaaGreatGNl
import Derived.Deep.RegionLaw
import Derived.Deep.AppendLies
import Derived.BigRegion
import Derived.Deep.RegionHeld
import Derived.IntWalk
import Derived.Test.YtodppilfpemepaaGreatKeep
namespace Go.Proofs.YtodppilfpemepaaGreat
open Go.RowKit
set_option linter.unusedVariables false

theorem info_rnote : (Tryz.prog.info? 105).map (fun i => (i.zero, i.size, i.bytes)) = some (some (.agg #[.int .i64 0, .int .i64 0, .int .i64 0, .int .i64 0, .int .i64 0, .int .i64 0, .int .i64 0, .int .i64 0]), 8, 64) := by kernel_rfl
def rcells (s th k r b c d v : Int) : List Value := [.int .i64 s, .int .i64 th, .int .i64 k, .int .i64 r, .int .i64 b, .int .i64 c, .int .i64 d, .int .i64 v]
/-- A list of notes: its block holds a slice of its own, of rows of eight cells. -/
def IsNr (w : World) (p n : Nat) (xs : List Value) : Prop := ∃ v, w.cell? ⟨p, 0, none⟩ = some v ∧ w.frozen? ⟨p, 0, none⟩ = false ∧ w.ownsRow (p + 1) 105 8 v n xs ∧ (n = 0 → v = .slice none 0 0)
/-- A struct's new block, under draws. -/
theorem box_factsR {w : World} {s th k r b c d v : Int} {t : TypeId} (nq : Nat) {p n : Nat} {u : Value} {xs : List Value} (hp : w.cell? ⟨p, 0, none⟩ = some u) (hf : w.frozen? ⟨p, 0, none⟩ = false) (hown : w.ownsRow (p + 1) 105 8 u n xs) {W : World} (hW : W = (w.alloc (.cells #[.int .i64 s, .int .i64 th, .int .i64 k, .int .i64 r, .int .i64 b, .int .i64 c, .int .i64 d, .int .i64 v] t)).drewN nq) :
    (W.cell? ⟨w.heap.size, 0, none⟩ = some (.int .i64 s) ∧ W.cell? ⟨w.heap.size, 1, none⟩ = some (.int .i64 th) ∧ W.cell? ⟨w.heap.size, 2, none⟩ = some (.int .i64 k) ∧ W.cell? ⟨w.heap.size, 3, none⟩ = some (.int .i64 r) ∧ W.cell? ⟨w.heap.size, 4, none⟩ = some (.int .i64 b) ∧ W.cell? ⟨w.heap.size, 5, none⟩ = some (.int .i64 c) ∧ W.cell? ⟨w.heap.size, 6, none⟩ = some (.int .i64 d) ∧ W.cell? ⟨w.heap.size, 7, none⟩ = some (.int .i64 v)) ∧
    W.cell? ⟨p, 0, none⟩ = some u ∧ W.frozen? ⟨p, 0, none⟩ = false ∧ W.ownsRow (p + 1) 105 8 u n xs ∧ W.heap.size = w.heap.size + 1 ∧ Below w.heap.size w W := by
  have hlt : p < w.heap.size := World.block_lt_of_cell? _ _ hp
  have hb : Below w.heap.size w W := by rw [hW]; exact belowNd ((Below.refl _ _).alloc (Nat.le_refl _) _) nq
  refine ⟨?_, (hb.cell hlt).trans hp, (hb.frozen hlt).trans hf, own_below hown hb, by rw [hW]; simp, hb⟩
  rw [hW]
  simp [World.cell?_drewN]
/-- Behind the append: the list's own cell stands; the store makes it the longer list. -/
theorem nr_cell {W w1 : World} {p n : Nat} {v : Value} {xs : List Value} {o : Obj} (hp : p < W.heap.size) (hown : W.ownsRow (p + 1) 105 8 v n xs) (ep : W.cell? ⟨p, 0, none⟩ = some v) (ef : W.frozen? ⟨p, 0, none⟩ = false) (hgrow : (W.alloc o).grownBy w1 v.ownBlock) :
    w1.cell? ⟨p, 0, none⟩ = some v ∧ w1.frozen? ⟨p, 0, none⟩ = false := by
  have hne : some p ≠ v.ownBlock := fun e => by have := (hown.lt p e.symm).1; omega
  exact ⟨(hgrow.cell_far ⟨p, 0, none⟩ (by simp; omega) hne).trans ((World.cell?_alloc_lt W o ⟨p, 0, none⟩ hp).trans ep), (hgrow.frozen_far ⟨p, 0, none⟩ (by simp; omega) hne).trans (((((Below.refl W.heap.size W).alloc (Nat.le_refl _) o).frozen (p := ⟨p, 0, none⟩) hp)).trans ef)⟩
theorem nr_done {w W w1 : World} {p g cap n m : Nat} {v : Value} {xs ys : List Value} {o : Obj} (hlt : p < w.heap.size) (hbel : Below w.heap.size w W) (hown : W.ownsRow (p + 1) 105 8 v n xs) (hgrow : (W.alloc o).grownBy w1 v.ownBlock) (c1 : w1.cell? ⟨p, 0, none⟩ = some v) (c2 : w1.frozen? ⟨p, 0, none⟩ = false)
    (hown1 : w1.ownsRow (p + 1) 105 8 (.slice (some ⟨g, 0, none⟩) m cap) m ys) (hm : 0 < m) :
    IsNr (w1.setCell ⟨p, 0, none⟩ (.slice (some ⟨g, 0, none⟩) m cap)) p m ys ∧ Below p w (w1.setCell ⟨p, 0, none⟩ (.slice (some ⟨g, 0, none⟩) m cap)) := by
  refine ⟨⟨_, World.cell?_setCell_same _ _ _ c1, by simpa using c2, ownsRow_setCell_below hown1 (by show p < p + 1; omega) _, fun e => absurd e (by omega)⟩, ?_⟩
  have hsz := hbel.size
  exact (((hbel.mono (Nat.le_of_lt hlt)).alloc (by omega) o).grown hgrow (by simp; omega) (fun k hk => by have := (hown.lt k hk).1; omega)).setCell (Nat.le_refl _) _
theorem news8R {W : World} {s th k r b c d v : Int} {t : TypeId} {j : Nat} {u : Value} (hj : (rcells s th k r b c d v)[j]? = some u) :
    (W.alloc (.cells #[.int .i64 s, .int .i64 th, .int .i64 k, .int .i64 r, .int .i64 b, .int .i64 c, .int .i64 d, .int .i64 v] t)).cell? ((⟨W.heap.size, 0, none⟩ : Addr).add j) = some u :=
  World.news_of_block (B := W.heap.size) (cs := #[.int .i64 s, .int .i64 th, .int .i64 k, .int .i64 r, .int .i64 b, .int .i64 c, .int .i64 d, .int .i64 v]) (t := t) (fr := (0, 0)) (by show (W.heap.push _)[W.heap.size]? = _; simp) j u hj
end Go.Proofs.YtodppilfpemepaaGreat
/- Next: The chapter's lists of notes, framed by sets of blocks: a note behind a list. -/
namespace Go.Proofs.YtodppilfpemepaaGreat
open Go.RowKit
set_option linter.unusedVariables false

/-- A list of notes that owns the blocks of T. -/
structure IsNrt (w : World) (p n : Nat) (xs : List Value) (v : Value) (T : Nat → Prop) : Prop where
  c0 : w.cell? ⟨p, 0, none⟩ = some v
  f0 : w.frozen? ⟨p, 0, none⟩ = false
  row : w.ownsRow 0 105 8 v n xs
  nil : n = 0 → v = .slice none 0 0
  own : ∀ g, v.ownBlock = some g → T g ∧ g ≠ p
  here : T p
  lt : ∀ k, T k → k < w.heap.size
theorem IsNrt.keep {w W : World} {p n : Nat} {xs : List Value} {v : Value} {T S : Nat → Prop} (h : IsNrt w p n xs v T) (hk : Keeps S w W) (hT : ∀ k, T k → ¬ S k) : IsNrt W p n xs v T := by
  obtain ⟨h1, h2, h3, h0, h4, h5, h6⟩ := h
  have hr := hT p h5
  exact ⟨hk.cell (p := ⟨p, 0, none⟩) hr h1, hk.frozen (p := ⟨p, 0, none⟩) hr (h6 p h5) h2, Keeps.ownsRow h3 hk (fun g hg => hT g (h4 g hg).1), h0, h4, h5, fun k s => Nat.lt_of_lt_of_le (h6 k s) hk.size⟩
/-- Behind the append and the store. -/
theorem nrt_done {w W w1 : World} {p g cap n m : Nat} {v : Value} {xs ys : List Value} {T : Nat → Prop} {o : Obj} (h : IsNrt w p n xs v T) (hb : Below w.heap.size w W) (hg : (W.alloc o).grownBy w1 v.ownBlock) (hl : v.ownBlock = some g ∨ w.heap.size < g) (hlt : g < w1.heap.size)
    (own1 : w1.ownsRow 0 105 8 (.slice (some ⟨g, 0, none⟩) m cap) m ys) (hm : 0 < m) :
    (w1.cell? ⟨p, 0, none⟩ = some v ∧ w1.frozen? ⟨p, 0, none⟩ = false) ∧ ∃ T' v', Turn T T' w (w1.setCell ⟨p, 0, none⟩ (.slice (some ⟨g, 0, none⟩) m cap)) ∧ IsNrt (w1.setCell ⟨p, 0, none⟩ (.slice (some ⟨g, 0, none⟩) m cap)) p m ys v' T' := by
  have hp := h.lt p h.here
  have kA : Keeps (fun k => v.ownBlock = some k) w w1 := (((Keeps.of_new hb).alloc o)).grown hg (fun k e => .inl e)
  have rv : ¬ v.ownBlock = some p := fun e => (h.own p e).2 rfl
  have c0 := kA.cell (p := ⟨p, 0, none⟩) rv h.c0
  have f0 := kA.frozen (p := ⟨p, 0, none⟩) rv hp h.f0
  obtain ⟨V, hV⟩ : ∃ V, V = w1.setCell ⟨p, 0, none⟩ (.slice (some ⟨g, 0, none⟩) m cap) := ⟨_, rfl⟩
  have kV : Keeps (fun k => k = p) w1 V := by rw [hV]; exact Keeps.setCell (S := fun k => k = p) (Keeps.refl _ w1) (p := ⟨p, 0, none⟩) (.inl rfl) _
  have sV : V.heap.size = w1.heap.size := by rw [hV]; simp [World.setCell]
  have hbs := hb.size
  have gr : g ≠ p := by
    rcases hl with e | e
    · exact (h.own g e).2
    · omega
  have hw1 := kA.size
  rw [← hV]
  refine ⟨⟨c0, f0⟩, fun k => T k ∨ (w.heap.size ≤ k ∧ k < V.heap.size), .slice (some ⟨g, 0, none⟩) m cap, ⟨((kA.mono (fun k _ e => (h.own k e).1)).trans (kV.mono (fun k _ e => by rw [e]; exact h.here)) (fun _ _ s => s)), fun k s => s⟩, ?_, ?_, ?_, fun e => by omega, fun k hk => ?_, .inl h.here, fun k s => ?_⟩
  · rw [hV]; exact World.cell?_setCell_same _ _ _ c0
  · rw [hV, World.frozen?_setCell]; exact f0
  · exact Keeps.ownsRow own1 kV (fun k hk => by simp [Value.ownBlock] at hk; omega)
  · simp [Value.ownBlock] at hk
    subst hk
    refine ⟨?_, gr⟩
    rcases hl with e | e
    · exact .inl (h.own g e).1
    · exact .inr ⟨by omega, by omega⟩
  · rcases s with s | s
    · have := h.lt k s; omega
    · exact s.2
/-- What a note behind a list leaves. -/
def NrtPost (w : World) (p n : Nat) (xs : List Value) (T : Nat → Prop) (w' : World) : Prop := ∃ T' v', Turn T T' w w' ∧ IsNrt w' p n xs v' T'
theorem box_factsR0 {w : World} {s th k r b c d v : Int} {t : TypeId} (nq : Nat) {p n : Nat} {u : Value} {xs : List Value} (hp : w.cell? ⟨p, 0, none⟩ = some u) (hf : w.frozen? ⟨p, 0, none⟩ = false) (hown : w.ownsRow 0 105 8 u n xs) {W : World} (hW : W = (w.alloc (.cells #[.int .i64 s, .int .i64 th, .int .i64 k, .int .i64 r, .int .i64 b, .int .i64 c, .int .i64 d, .int .i64 v] t)).drewN nq) :
    (W.cell? ⟨w.heap.size, 0, none⟩ = some (.int .i64 s) ∧ W.cell? ⟨w.heap.size, 1, none⟩ = some (.int .i64 th) ∧ W.cell? ⟨w.heap.size, 2, none⟩ = some (.int .i64 k) ∧ W.cell? ⟨w.heap.size, 3, none⟩ = some (.int .i64 r) ∧ W.cell? ⟨w.heap.size, 4, none⟩ = some (.int .i64 b) ∧ W.cell? ⟨w.heap.size, 5, none⟩ = some (.int .i64 c) ∧ W.cell? ⟨w.heap.size, 6, none⟩ = some (.int .i64 d) ∧ W.cell? ⟨w.heap.size, 7, none⟩ = some (.int .i64 v)) ∧
    W.cell? ⟨p, 0, none⟩ = some u ∧ W.frozen? ⟨p, 0, none⟩ = false ∧ W.ownsRow 0 105 8 u n xs ∧ W.heap.size = w.heap.size + 1 ∧ Below w.heap.size w W := by
  have hlt : p < w.heap.size := World.block_lt_of_cell? _ _ hp
  have hb : Below w.heap.size w W := by rw [hW]; exact belowNd ((Below.refl _ _).alloc (Nat.le_refl _) _) nq
  refine ⟨?_, (hb.cell hlt).trans hp, (hb.frozen hlt).trans hf, own_below hown hb, by rw [hW]; simp, hb⟩
  rw [hW]
  simp [World.cell?_drewN]
end Go.Proofs.YtodppilfpemepaaGreat
/- Next: The chapter's lists of notes, framed by sets of blocks: Add. -/
namespace Go.Proofs.YtodppilfpemepaaGreat
open Go.RowKit
set_option linter.unusedVariables false

end Go.Proofs.YtodppilfpemepaaGreat
/- Next: The chapter's list: a note that may not be; two lists without a note. -/
namespace Go.Proofs.YtodppilfpemepaaGreat
open Go.RowKit
set_option linter.unusedVariables false

end Go.Proofs.YtodppilfpemepaaGreat
/- Next: The chapter's lists of notes, framed by sets of blocks: Add of whatever note. -/
namespace Go.Proofs.YtodppilfpemepaaGreat
open Go.RowKit
set_option linter.unusedVariables false

def Nv.rcells : Nv → List Value
  | (s, th, k, r, b, c, d, v) => Proofs.YtodppilfpemepaaGreat.rcells s th k r b c d v
def Nv.ragg : Nv → Value
  | (s, th, k, r, b, c, d, v) => .agg #[.int .i64 s, .int .i64 th, .int .i64 k, .int .i64 r, .int .i64 b, .int .i64 c, .int .i64 d, .int .i64 v]
def rowsR (L : List Nv) : List Value := L.flatMap Nv.rcells
theorem rcells_len (x : Nv) : x.rcells.length = 8 := rfl
theorem rowsR_len (L : List Nv) : (rowsR L).length = L.length * 8 := by
  induction L with
  | nil => rfl
  | cons x L ih => simp only [rowsR, List.flatMap_cons, List.length_append] at *; rw [ih, rcells_len]; simp; omega
theorem rowsR_snoc (L : List Nv) (x : Nv) : rowsR (L ++ [x]) = rowsR L ++ x.rcells := by simp [rowsR]
theorem rowsR_at : ∀ (L : List Nv) (i j : Nat) (hi : i < L.length), j < 8 → (rowsR L)[i * 8 + j]? = L[i].rcells[j]?
  | x :: L, 0, j, hi, hj => by
    simp only [rowsR, List.flatMap_cons, Nat.zero_mul, Nat.zero_add, List.getElem_cons_zero]
    rw [List.getElem?_append_left (by rw [rcells_len]; exact hj)]
  | x :: L, i + 1, j, hi, hj => by
    have ih := rowsR_at L i j (by simpa using hi) hj
    simp only [rowsR, List.flatMap_cons, List.getElem_cons_succ] at *
    rw [List.getElem?_append_right (by rw [rcells_len]; omega), rcells_len, ← ih]
    congr 1
    omega
theorem last_atR {L : List Nv} (h : 0 < L.length) : ∃ y : Nv, L.getLast? = some y ∧ (rowsR L)[(L.length - 1) * 8]? = some (.int .i64 y.s) := by
  refine ⟨L[L.length - 1]'(by omega), ?_, ?_⟩
  · rw [List.getLast?_eq_getElem?, List.getElem?_eq_getElem (by omega)]
  · have := rowsR_at L (L.length - 1) 0 (by omega) (by omega)
    rw [Nat.add_zero] at this
    rw [this]
    obtain ⟨s, th, k, r, b, c, d, v⟩ := L[L.length - 1]'(by omega)
    rfl
/-- A list of the chapter's, of these notes, that owns T. -/
def Nrs (w : World) (p : Nat) (L : List Nv) (T : Nat → Prop) : Prop := ∃ v, IsNrt w p L.length (rowsR L) v T
theorem Nrs.keep {w W : World} {p : Nat} {L : List Nv} {T S : Nat → Prop} (h : Nrs w p L T) (hk : Keeps S w W) (hT : ∀ k, T k → ¬ S k) : Nrs W p L T := by
  obtain ⟨v, h⟩ := h
  exact ⟨v, h.keep hk hT⟩
theorem Nrs.new {w W : World} {p : Nat} {L : List Nv} {T : Nat → Prop} (h : Nrs w p L T) (hk : Below w.heap.size w W) : Nrs W p L T := h.keep (Keeps.of_new (S := fun _ => False) hk) (fun _ _ s => s)
theorem nrs_made (W : World) (t : TypeId) : Nrs (W.alloc (.cells #[.slice none 0 0] t)) W.heap.size [] (fun k => k = W.heap.size) :=
  ⟨_, by simp, by simp, World.ownsRow_nil _ _ _ _, fun _ => rfl, fun g hg => by simp [Value.ownBlock] at hg, rfl, fun k e => by rw [e]; simp⟩
end Go.Proofs.YtodppilfpemepaaGreat
