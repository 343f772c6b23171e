/- Lists of notes, framed by sets of blocks: a note behind a list. -/
import Derived.Test.YtmdofhdjikapgaaNlL
import Derived.Test.YtmdofhdjikapgaaKeep
namespace Go.Proofs.Ytmdofhdjikapgaa
open Go.RowKit
set_option linter.unusedVariables false

/-- A list of notes that owns the blocks of T. -/
structure IsNt (w : World) (p n : Nat) (xs : List Value) (v : Value) (T : Nat → Prop) : Prop where
  c0 : w.cell? ⟨p, 0, none⟩ = some v
  f0 : w.frozen? ⟨p, 0, none⟩ = false
  row : w.ownsRow 0 76 8 v n xs
  nil : n = 0 → v = .slice none 0 0
  own : ∀ g, v.ownBlock = some g → T g ∧ g ≠ p
  here : T p
  lt : ∀ k, T k → k < w.heap.size
theorem IsNt.keep {w W : World} {p n : Nat} {xs : List Value} {v : Value} {T S : Nat → Prop} (h : IsNt w p n xs v T) (hk : Keeps S w W) (hT : ∀ k, T k → ¬ S k) : IsNt W p n xs v T := by
  obtain ⟨h1, h2, h3, h0, h4, h5, h6⟩ := h
  have hr := hT p h5
  exact ⟨hk.cell (p := ⟨p, 0, none⟩) hr h1, hk.frozen (p := ⟨p, 0, none⟩) hr (h6 p h5) h2, Keeps.ownsRow h3 hk (fun g hg => hT g (h4 g hg).1), h0, h4, h5, fun k s => Nat.lt_of_lt_of_le (h6 k s) hk.size⟩
/-- Behind the append and the store. -/
theorem nt_done {w W w1 : World} {p g cap n m : Nat} {v : Value} {xs ys : List Value} {T : Nat → Prop} {o : Obj} (h : IsNt w p n xs v T) (hb : Below w.heap.size w W) (hg : (W.alloc o).grownBy w1 v.ownBlock) (hl : v.ownBlock = some g ∨ w.heap.size < g) (hlt : g < w1.heap.size)
    (own1 : w1.ownsRow 0 76 8 (.slice (some ⟨g, 0, none⟩) m cap) m ys) (hm : 0 < m) :
    (w1.cell? ⟨p, 0, none⟩ = some v ∧ w1.frozen? ⟨p, 0, none⟩ = false) ∧ ∃ T' v', Turn T T' w (w1.setCell ⟨p, 0, none⟩ (.slice (some ⟨g, 0, none⟩) m cap)) ∧ IsNt (w1.setCell ⟨p, 0, none⟩ (.slice (some ⟨g, 0, none⟩) m cap)) p m ys v' T' := by
  have hp := h.lt p h.here
  have kA : Keeps (fun k => v.ownBlock = some k) w w1 := (((Keeps.of_new hb).alloc o)).grown hg (fun k e => .inl e)
  have rv : ¬ v.ownBlock = some p := fun e => (h.own p e).2 rfl
  have c0 := kA.cell (p := ⟨p, 0, none⟩) rv h.c0
  have f0 := kA.frozen (p := ⟨p, 0, none⟩) rv hp h.f0
  obtain ⟨V, hV⟩ : ∃ V, V = w1.setCell ⟨p, 0, none⟩ (.slice (some ⟨g, 0, none⟩) m cap) := ⟨_, rfl⟩
  have kV : Keeps (fun k => k = p) w1 V := by rw [hV]; exact Keeps.setCell (S := fun k => k = p) (Keeps.refl _ w1) (p := ⟨p, 0, none⟩) (.inl rfl) _
  have sV : V.heap.size = w1.heap.size := by rw [hV]; simp [World.setCell]
  have hbs := hb.size
  have gr : g ≠ p := by
    rcases hl with e | e
    · exact (h.own g e).2
    · omega
  have hw1 := kA.size
  rw [← hV]
  refine ⟨⟨c0, f0⟩, fun k => T k ∨ (w.heap.size ≤ k ∧ k < V.heap.size), .slice (some ⟨g, 0, none⟩) m cap, ⟨((kA.mono (fun k _ e => (h.own k e).1)).trans (kV.mono (fun k _ e => by rw [e]; exact h.here)) (fun _ _ s => s)), fun k s => s⟩, ?_, ?_, ?_, fun e => by omega, fun k hk => ?_, .inl h.here, fun k s => ?_⟩
  · rw [hV]; exact World.cell?_setCell_same _ _ _ c0
  · rw [hV, World.frozen?_setCell]; exact f0
  · exact Keeps.ownsRow own1 kV (fun k hk => by simp [Value.ownBlock] at hk; omega)
  · simp [Value.ownBlock] at hk
    subst hk
    refine ⟨?_, gr⟩
    rcases hl with e | e
    · exact .inl (h.own g e).1
    · exact .inr ⟨by omega, by omega⟩
  · rcases s with s | s
    · have := h.lt k s; omega
    · exact s.2
/-- What a note behind a list leaves. -/
def NtPost (w : World) (p n : Nat) (xs : List Value) (T : Nat → Prop) (w' : World) : Prop := ∃ T' v', Turn T T' w w' ∧ IsNt w' p n xs v' T'
theorem box_facts0 {w : World} {s th k r b c d v : Int} {t : TypeId} (nq : Nat) {p n : Nat} {u : Value} {xs : List Value} (hp : w.cell? ⟨p, 0, none⟩ = some u) (hf : w.frozen? ⟨p, 0, none⟩ = false) (hown : w.ownsRow 0 76 8 u n xs) {W : World} (hW : W = (w.alloc (.cells #[.int .i64 s, .int .i64 th, .int .u8 k, .int .i64 r, .int .i64 b, .int .i64 c, .int .i64 d, .int .i64 v] t)).drewN nq) :
    (W.cell? ⟨w.heap.size, 0, none⟩ = some (.int .i64 s) ∧ W.cell? ⟨w.heap.size, 1, none⟩ = some (.int .i64 th) ∧ W.cell? ⟨w.heap.size, 2, none⟩ = some (.int .u8 k) ∧ W.cell? ⟨w.heap.size, 3, none⟩ = some (.int .i64 r) ∧ W.cell? ⟨w.heap.size, 4, none⟩ = some (.int .i64 b) ∧ W.cell? ⟨w.heap.size, 5, none⟩ = some (.int .i64 c) ∧ W.cell? ⟨w.heap.size, 6, none⟩ = some (.int .i64 d) ∧ W.cell? ⟨w.heap.size, 7, none⟩ = some (.int .i64 v)) ∧
    W.cell? ⟨p, 0, none⟩ = some u ∧ W.frozen? ⟨p, 0, none⟩ = false ∧ W.ownsRow 0 76 8 u n xs ∧ W.heap.size = w.heap.size + 1 ∧ Below w.heap.size w W := by
  have hlt : p < w.heap.size := World.block_lt_of_cell? _ _ hp
  have hb : Below w.heap.size w W := by rw [hW]; exact belowNd ((Below.refl _ _).alloc (Nat.le_refl _) _) nq
  refine ⟨?_, (hb.cell hlt).trans hp, (hb.frozen hlt).trans hf, own_below hown hb, by rw [hW]; simp, hb⟩
  rw [hW]
  simp [World.cell?_drewN]
end Go.Proofs.Ytmdofhdjikapgaa
