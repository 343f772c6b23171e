/- What a call may turn: a set of blocks, and new ones. -/
import Derived.Test.YtmjklkcjinfmaaaDoorLib
import Derived.Maps.OwnSet
namespace Go.Proofs.YtmjklkcjinfmaaaDoor
open Go.RowKit
set_option linter.unusedVariables false

/-- Of the blocks that were there just those of S may have turned. -/
structure Keeps (S : Nat → Prop) (w w' : World) : Prop where
  os : w'.os = w.os
  tape : w'.tape = w.tape
  output : w'.output = w.output
  size : w.heap.size ≤ w'.heap.size
  block : ∀ k, k < w.heap.size → ¬ S k → w'.heap[k]? = w.heap[k]?

theorem Keeps.refl (S : Nat → Prop) (w : World) : Keeps S w w := ⟨rfl, rfl, rfl, Nat.le_refl _, fun _ _ _ => rfl⟩
theorem Keeps.mono {S T : Nat → Prop} {w w' : World} (h : Keeps S w w') (hS : ∀ k, k < w.heap.size → S k → T k) : Keeps T w w' :=
  ⟨h.os, h.tape, h.output, h.size, fun k hk hn => h.block k hk (fun s => hn (hS k hk s))⟩
theorem Keeps.trans {S T : Nat → Prop} {a b c : World} (h : Keeps S a b) (k : Keeps T b c) (hT : ∀ i, i < a.heap.size → T i → S i) : Keeps S a c :=
  ⟨k.os.trans h.os, k.tape.trans h.tape, k.output.trans h.output, Nat.le_trans h.size k.size, fun i hi hn => (k.block i (Nat.lt_of_lt_of_le hi h.size) (fun t => hn (hT i hi t))).trans (h.block i hi hn)⟩
theorem Keeps.of_below {B : Nat} {w w' : World} (h : Below B w w') : Keeps (fun k => B ≤ k) w w' := ⟨h.os, h.tape, h.output, h.size, fun k _ hn => h.block k (Nat.lt_of_not_le hn)⟩
theorem Keeps.of_new {S : Nat → Prop} {w w' : World} (h : Below w.heap.size w w') : Keeps S w w' := ⟨h.os, h.tape, h.output, h.size, fun k hk _ => h.block k hk⟩
theorem Keeps.to_below {S : Nat → Prop} {B : Nat} {w w' : World} (h : Keeps S w w') (hB : ∀ k, k < w.heap.size → S k → B ≤ k) (hw : B ≤ w.heap.size) : Below B w w' :=
  ⟨h.os, h.tape, h.output, h.size, fun k hk => h.block k (Nat.lt_of_lt_of_le hk hw) (fun s => absurd (hB k (Nat.lt_of_lt_of_le hk hw) s) (Nat.not_le_of_lt hk))⟩
theorem Keeps.alloc {S : Nat → Prop} {a w : World} (h : Keeps S a w) (o : Obj) : Keeps S a (w.alloc o) :=
  ⟨h.os, h.tape, h.output, by have := h.size; simp; omega, fun k hk hn => (Below.heap_alloc w o k (Nat.lt_of_lt_of_le hk h.size)).trans (h.block k hk hn)⟩
theorem Keeps.drew {S : Nat → Prop} {a w : World} (h : Keeps S a w) : Keeps S a w.drew := ⟨h.os, h.tape, h.output, h.size, h.block⟩
theorem Keeps.drewN {S : Nat → Prop} {a w : World} (h : Keeps S a w) (n : Nat) : Keeps S a (w.drewN n) := by
  induction n with
  | zero => exact h
  | succ n ih => exact ih.drew
theorem Keeps.setCell {S : Nat → Prop} {a w : World} (h : Keeps S a w) {p : Addr} (hp : S p.block ∨ a.heap.size ≤ p.block) (u : Value) : Keeps S a (w.setCell p u) :=
  ⟨h.os, h.tape, h.output, by have := h.size; simpa [World.setCell] using this, fun k hk hn => (Below.heap_setCell w p u k (by rintro rfl; rcases hp with hp | hp; exact hn hp; omega)).trans (h.block k hk hn)⟩
theorem Keeps.grown {S : Nat → Prop} {a w w' : World} {row : Option Nat} (h : Keeps S a w) (hg : w.grownBy w' row) (hr : ∀ k, row = some k → S k ∨ a.heap.size ≤ k) : Keeps S a w' :=
  ⟨hg.os.trans h.os, hg.tape.trans h.tape, hg.output.trans h.output, Nat.le_trans h.size hg.size, fun k hk hn => (hg.block k (Nat.lt_of_lt_of_le hk h.size) (fun e => by rcases hr k e.symm with s | s; exact hn s; omega)).trans (h.block k hk hn)⟩
theorem Keeps.below {S : Nat → Prop} {B : Nat} {a w w' : World} (h : Keeps S a w) (k : Below B w w') (hB : ∀ i, i < a.heap.size → B ≤ i → S i) : Keeps S a w' :=
  h.trans (Keeps.of_below k) hB
theorem Keeps.new {S : Nat → Prop} {a w w' : World} (h : Keeps S a w) (k : Below w.heap.size w w') : Keeps S a w' :=
  h.trans (S := S) (Keeps.of_new (S := S) k) (fun _ _ s => s)
theorem Keeps.cell {S : Nat → Prop} {w w' : World} (h : Keeps S w w') {p : Addr} {v : Value} (hp : ¬ S p.block) (hc : w.cell? p = some v) : w'.cell? p = some v :=
  (World.cell?_of_block (w := w) (h.block p.block (World.block_lt_of_cell? _ _ hc) hp)).trans hc
theorem Keeps.frozen {S : Nat → Prop} {w w' : World} (h : Keeps S w w') {p : Addr} {b : Bool} (hp : ¬ S p.block) (hlt : p.block < w.heap.size) (hf : w.frozen? p = b) : w'.frozen? p = b :=
  (World.frozen?_of_block (w := w) (h.block p.block hlt hp)).trans hf
theorem Keeps.ownsRow {S : Nat → Prop} {w w' : World} {B e size n : Nat} {v : Value} {xs : List Value} (h : w.ownsRow B e size v n xs) (hk : Keeps S w w') (hv : ∀ g, v.ownBlock = some g → ¬ S g) : w'.ownsRow B e size v n xs := by
  obtain ⟨hl, h | ⟨g, cap, cur, rfl, hB, hblk, r⟩⟩ := h
  · exact ⟨hl, .inl h⟩
  · have hlt : g < w.heap.size := by
      rcases Nat.lt_or_ge g w.heap.size with h | h
      · exact h
      · rw [Array.getElem?_eq_none h] at hblk; simp at hblk
    exact ⟨hl, .inr ⟨g, cap, cur, rfl, hB, (hk.block g hlt (hv g rfl)).trans hblk, r⟩⟩
theorem Keeps.ownsMap {H : Type} {S : Nat → Prop} {w w' : World} {P : Program} {k : TypeId} {R : Value → Option (DataW H × List MemPlace)} {b n : Nat} {D : DataW H} (h : w.ownsMap P k R b n D) (hk : Keeps S w w') (hb : ¬ S b) : w'.ownsMap P k R b n D := by
  have hlt := h.lt
  obtain ⟨es, clock, hb', F, hs, hD⟩ := h
  exact ⟨es, clock, (hk.block b hlt hb).trans hb', F, hs, hD⟩

/-- A step of what owns S: S' is S, and new blocks. -/
structure Turn (S S' : Nat → Prop) (w w' : World) : Prop where
  keeps : Keeps S w w'
  only : ∀ k, S' k → S k ∨ (w.heap.size ≤ k ∧ k < w'.heap.size)
theorem Turn.refl (S : Nat → Prop) (w : World) : Turn S S w w := ⟨Keeps.refl _ _, fun _ h => .inl h⟩
theorem Turn.trans {S S' S'' : Nat → Prop} {a b c : World} (h : Turn S S' a b) (k : Turn S' S'' b c) : Turn S S'' a c :=
  ⟨h.keeps.trans k.keeps (fun i hi hs => by rcases h.only i hs with s | s; exact s; omega), fun i hs => by
    rcases k.only i hs with s | s
    · rcases h.only i s with s | s
      · exact .inl s
      · have := k.keeps.size; exact .inr (by omega)
    · have := h.keeps.size; exact .inr (by omega)⟩
/-- Whatever else turns, that makes new blocks alone. -/
theorem Turn.new {S S' : Nat → Prop} {a b c : World} (h : Turn S S' a b) (k : Below b.heap.size b c) : Turn S S' a c :=
  h.trans ⟨Keeps.of_new k, fun _ s => .inl s⟩
theorem Turn.after {S S' : Nat → Prop} {a b c : World} (k : Below a.heap.size a b) (h : Turn S S' b c) : Turn S S' a c :=
  ⟨(Keeps.of_new k).trans h.keeps (fun _ _ s => s), fun i hs => by rcases h.only i hs with s | s; exact .inl s; (have := k.size; exact .inr (by omega))⟩
theorem Turn.to_below {S S' : Nat → Prop} {B : Nat} {w w' : World} (h : Turn S S' w w') (hB : ∀ k, S k → B ≤ k) (hw : B ≤ w.heap.size) : Below B w w' ∧ ∀ k, S' k → B ≤ k :=
  ⟨h.keeps.to_below (fun k _ s => hB k s) hw, fun k s => by rcases h.only k s with s | s; exact hB k s; omega⟩

end Go.Proofs.YtmjklkcjinfmaaaDoor
