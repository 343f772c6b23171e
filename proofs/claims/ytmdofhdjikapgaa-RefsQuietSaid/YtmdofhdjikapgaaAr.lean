/- An arena of records: blocks of 256 records of six cells. -/
import Derived.Test.YtmdofhdjikapgaaKeep
import Derived.Deep.MidRow
namespace Go.Proofs.Ytmdofhdjikapgaa
open Go.RowKit
set_option linter.unusedVariables false

abbrev It := ByteArray × ByteArray × Int × Int × Int × Int
def It.cells (x : It) : List Value := [.string x.1, .string x.2.1, .int .u32 x.2.2.1, .int .u64 x.2.2.2.1, .int .i64 x.2.2.2.2.1, .int .i64 x.2.2.2.2.2]
theorem It.len (x : It) : x.cells.length = 6 := rfl
def ptrs (bs : List Nat) : List Value := bs.map fun b => .pointer (some ⟨b, 0, none⟩)
theorem ptrs_at {bs : List Nat} {j b : Nat} (h : bs[j]? = some b) : (ptrs bs)[j]? = some (.pointer (some ⟨b, 0, none⟩)) := by simp [ptrs, h]
/-- The arena's struct lies in block p; its records; its blocks; the slice of pointers; all that it owns: S. -/
structure IsAr (t : TypeId) (w : World) (p : Nat) (its : List It) (bs : List Nat) (v : Value) (S : Nat → Prop) : Prop where
  c0 : w.cell? ⟨p, 0, none⟩ = some v
  c1 : w.cell? ⟨p, 1, none⟩ = some (.int .i64 its.length)
  f0 : w.frozen? ⟨p, 0, none⟩ = false
  f1 : w.frozen? ⟨p, 1, none⟩ = false
  row : w.ownsRow 0 t 1 v bs.length (ptrs bs)
  own : ∀ g, v.ownBlock = some g → S g ∧ g ≠ p
  here : S p
  blk : ∀ (j b : Nat), bs[j]? = some b → w.there b 0 1536 ∧ S b ∧ b ≠ p ∧ v.ownBlock ≠ some b
  inj : ∀ (i j b : Nat), bs[i]? = some b → bs[j]? = some b → i = j
  at_ : ∀ (i : Nat) x, its[i]? = some x → ∃ b : Nat, bs[i / 256]? = some b ∧ w.rangeAt b (i % 256 * 6) (It.cells x)
theorem Keeps.rangeAt {S : Nat → Prop} {w w' : World} (h : Keeps S w w') {b o : Nat} {cs : List Value} (hb : ¬ S b) (hr : w.rangeAt b o cs) : w'.rangeAt b o cs := fun j v hv => h.cell (p := ⟨b, o + j, none⟩) hb (hr j v hv)
theorem Keeps.there {S : Nat → Prop} {w w' : World} (h : Keeps S w w') {b o n : Nat} (hb : ¬ S b) (hr : w.there b o n) : w'.there b o n := fun j hj => by
  obtain ⟨h1, h2⟩ := hr j hj
  obtain ⟨u, hu⟩ := Option.isSome_iff_exists.1 h1
  exact ⟨by rw [h.cell (p := ⟨b, o + j, none⟩) hb hu]; rfl, h.frozen (p := ⟨b, o + j, none⟩) hb (World.block_lt_of_cell? _ _ hu) h2⟩
section
variable {t : TypeId} {w W : World} {p : Nat} {its : List It} {bs : List Nat} {v : Value} {S : Nat → Prop}
theorem IsAr.lt (h : IsAr t w p its bs v S) : p < w.heap.size := World.block_lt_of_cell? _ _ h.c0
theorem IsAr.keep (h : IsAr t w p its bs v S) {T : Nat → Prop} (hk : Keeps T w W) (hT : ∀ k, S k → ¬ T k) : IsAr t W p its bs v S := by
  have hp := hT p h.here
  refine ⟨hk.cell (p := ⟨p, 0, none⟩) hp h.c0, hk.cell (p := ⟨p, 1, none⟩) hp h.c1, hk.frozen (p := ⟨p, 0, none⟩) hp h.lt h.f0, hk.frozen (p := ⟨p, 1, none⟩) hp h.lt h.f1, Keeps.ownsRow h.row hk (fun g hg => hT g (h.own g hg).1), h.own, h.here, fun j b hj => ?_, h.inj, fun i x hi => ?_⟩
  · obtain ⟨a1, a2, a3, a4⟩ := h.blk j b hj
    exact ⟨hk.there (hT b a2) a1, a2, a3, a4⟩
  · obtain ⟨b, hb, hr⟩ := h.at_ i x hi
    exact ⟨b, hb, hk.rangeAt (hT b (h.blk _ b hb).2.1) hr⟩
theorem IsAr.blt (h : IsAr t w p its bs v S) {j b : Nat} (hj : bs[j]? = some b) : b < w.heap.size := by
  obtain ⟨u, hu⟩ := Option.isSome_iff_exists.1 ((h.blk j b hj).1 0 (by omega)).1
  exact World.block_lt_of_cell? _ _ hu
/-- One block more. -/
theorem IsAr.grow (h : IsAr t w p its bs v S) {b0 : Nat} {v' : Value} {S' : Nat → Prop} (hk : Keeps (fun k => k = p ∨ v.ownBlock = some k) w W) (hb0 : w.heap.size ≤ b0) (ht : W.there b0 0 1536) (hS : ∀ k, S k → S' k) (s0 : S' b0)
    (c0 : W.cell? ⟨p, 0, none⟩ = some v') (c1 : W.cell? ⟨p, 1, none⟩ = some (.int .i64 its.length)) (f0 : W.frozen? ⟨p, 0, none⟩ = false) (f1 : W.frozen? ⟨p, 1, none⟩ = false)
    (row : W.ownsRow 0 t 1 v' (bs.length + 1) (ptrs bs ++ [.pointer (some ⟨b0, 0, none⟩)])) (hv' : ∀ g, v'.ownBlock = some g → S' g ∧ (v.ownBlock = some g ∨ w.heap.size ≤ g) ∧ g ≠ b0) : IsAr t W p its (bs ++ [b0]) v' S' := by
  have hlt := h.lt
  refine ⟨c0, c1, f0, f1, by simpa [ptrs] using row, fun g hg => ⟨(hv' g hg).1, ?_⟩, hS p h.here, fun j b hj => ?_, fun i j b hi hj => ?_, fun i x hi => ?_⟩
  · rcases (hv' g hg).2.1 with e | e
    · exact (h.own g e).2
    · omega
  · rcases Nat.lt_or_ge j bs.length with hl | hl
    · rw [List.getElem?_append_left hl] at hj
      obtain ⟨a1, a2, a3, a4⟩ := h.blk j b hj
      refine ⟨hk.there (by rintro (e | e); exact a3 e; exact a4 e) a1, hS b a2, a3, fun e => ?_⟩
      rcases (hv' b e).2.1 with e' | e'
      · exact a4 e'
      · have := h.blt hj; omega
    · rw [List.getElem?_append_right hl] at hj
      have hz : j - bs.length = 0 := by
        rcases Nat.eq_zero_or_pos (j - bs.length) with e | e
        · exact e
        · rw [List.getElem?_eq_none (by simp; omega)] at hj; simp at hj
      rw [hz] at hj
      simp at hj
      subst hj
      exact ⟨ht, s0, by omega, fun e => (hv' b0 e).2.2 rfl⟩
  · have key : ∀ i b, (bs ++ [b0])[i]? = some b → (bs[i]? = some b ∧ b < w.heap.size) ∨ (i = bs.length ∧ b = b0) := by
      intro i b hi
      rcases Nat.lt_or_ge i bs.length with hl | hl
      · rw [List.getElem?_append_left hl] at hi
        exact .inl ⟨hi, h.blt hi⟩
      · rw [List.getElem?_append_right hl] at hi
        have hz : i - bs.length = 0 := by
          rcases Nat.eq_zero_or_pos (i - bs.length) with e | e
          · exact e
          · rw [List.getElem?_eq_none (by simp; omega)] at hi; simp at hi
        rw [hz] at hi
        simp at hi
        exact .inr ⟨by omega, hi.symm⟩
    rcases key i b hi with ⟨a1, a2⟩ | ⟨a1, a2⟩ <;> rcases key j b hj with ⟨d1, d2⟩ | ⟨d1, d2⟩
    · exact h.inj i j b a1 d1
    · omega
    · omega
    · omega
  · obtain ⟨b, hb, hr⟩ := h.at_ i x hi
    have hl : i / 256 < bs.length := by
      rcases Nat.lt_or_ge (i / 256) bs.length with h | h
      · exact h
      · rw [List.getElem?_eq_none h] at hb; simp at hb
    obtain ⟨a1, a2, a3, a4⟩ := h.blk _ b hb
    exact ⟨b, by rw [List.getElem?_append_left hl]; exact hb, hk.rangeAt (by rintro (e | e); exact a3 e; exact a4 e) hr⟩
/-- One record more, in the last block. -/
theorem IsAr.put (h : IsAr t w p its bs v S) {b : Nat} {x : It} (hb : bs[its.length / 256]? = some b) (hk : Keeps (fun k => k = p ∨ k = b) w W) (c0 : W.cell? ⟨p, 0, none⟩ = some v) (c1 : W.cell? ⟨p, 1, none⟩ = some (.int .i64 (its.length + 1 : Nat))) (f0 : W.frozen? ⟨p, 0, none⟩ = false) (f1 : W.frozen? ⟨p, 1, none⟩ = false)
    (hr : W.rangeAt b (its.length % 256 * 6) (It.cells x)) (ht : W.there b 0 1536) (hother : ∀ o cs, w.rangeAt b o cs → o + cs.length ≤ its.length % 256 * 6 → W.rangeAt b o cs) : IsAr t W p (its ++ [x]) bs v S := by
  refine ⟨c0, by simpa using c1, f0, f1, Keeps.ownsRow h.row hk (fun g hg => ?_), h.own, h.here, fun j b' hj => ?_, h.inj, fun i y hi => ?_⟩
  · rintro (e | e)
    · exact (h.own g hg).2 e
    · subst e; exact (h.blk _ g hb).2.2.2 hg
  · obtain ⟨a1, a2, a3, a4⟩ := h.blk j b' hj
    by_cases e : b' = b
    · subst e; exact ⟨ht, a2, a3, a4⟩
    · exact ⟨hk.there (by rintro (e' | e'); exact a3 e'; exact e e') a1, a2, a3, a4⟩
  · rcases Nat.lt_or_ge i its.length with hl | hl
    · rw [List.getElem?_append_left hl] at hi
      obtain ⟨b', hb', hr'⟩ := h.at_ i y hi
      refine ⟨b', hb', ?_⟩
      by_cases e : b' = b
      · subst e
        have hii := h.inj _ _ _ hb' hb
        exact hother _ _ hr' (by rw [It.len]; omega)
      · exact hk.rangeAt (by rintro (e' | e'); exact (h.blk _ b' hb').2.2.1 e'; exact e e') hr'
    · rw [List.getElem?_append_right hl] at hi
      have hz : i - its.length = 0 := by
        rcases Nat.eq_zero_or_pos (i - its.length) with e | e
        · exact e
        · rw [List.getElem?_eq_none (by simp; omega)] at hi; simp at hi
      rw [hz] at hi
      simp at hi
      obtain rfl : i = its.length := by omega
      subst hi
      exact ⟨b, hb, hr⟩
end
/-- Six stores behind one another. -/
def six (w : World) (b o : Nat) (u0 u1 u2 u3 u4 u5 : Value) : World := (((((w.setCell ⟨b, o, none⟩ u0).setCell ⟨b, o + 1, none⟩ u1).setCell ⟨b, o + 2, none⟩ u2).setCell ⟨b, o + 3, none⟩ u3).setCell ⟨b, o + 4, none⟩ u4).setCell ⟨b, o + 5, none⟩ u5
theorem six_is (w : World) (b o : Nat) (u0 u1 u2 u3 u4 u5 : Value) : six w b o u0 u1 u2 u3 u4 u5 = w.setCells b o [u0, u1, u2, u3, u4, u5] := by
  simp [six, World.setCells]
end Go.Proofs.Ytmdofhdjikapgaa
