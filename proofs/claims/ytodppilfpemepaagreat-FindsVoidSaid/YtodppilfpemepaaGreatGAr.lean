/- An arena of records: blocks of 256 records of six cells. -/
import Derived.Test.YtodppilfpemepaaGreatKeep
import Derived.Deep.MidRow
import Derived.Test.YtodppilfpemepaaGreatChecked
import Derived.Handy
import Derived.BigQuiet
import Derived.IntWalk
import Derived.RegionTactic
import Derived.BigRegion
import Derived.Deep.AppendLies
import Derived.Deep.Cut
import Derived.Deep.CutBlock
import Derived.Test.YtodppilfpemepaaGreatOpen
namespace Go.Proofs.YtodppilfpemepaaGreat
open Go.RowKit
set_option linter.unusedVariables false

abbrev It := ByteArray × ByteArray × Int × Int × Int × Int
def It.cells (x : It) : List Value := [.string x.1, .string x.2.1, .int .u32 x.2.2.1, .int .u64 x.2.2.2.1, .int .i64 x.2.2.2.2.1, .int .i64 x.2.2.2.2.2]
theorem It.len (x : It) : x.cells.length = 6 := rfl
def ptrs (bs : List Nat) : List Value := bs.map fun b => .pointer (some ⟨b, 0, none⟩)
theorem ptrs_at {bs : List Nat} {j b : Nat} (h : bs[j]? = some b) : (ptrs bs)[j]? = some (.pointer (some ⟨b, 0, none⟩)) := by simp [ptrs, h]
/-- The arena's struct lies in block p; its records; its blocks; the slice of pointers; all that it owns: S. -/
structure IsAr (t : TypeId) (w : World) (p : Nat) (its : List It) (bs : List Nat) (v : Value) (S : Nat → Prop) : Prop where
  c0 : w.cell? ⟨p, 0, none⟩ = some v
  c1 : w.cell? ⟨p, 1, none⟩ = some (.int .i64 its.length)
  f0 : w.frozen? ⟨p, 0, none⟩ = false
  f1 : w.frozen? ⟨p, 1, none⟩ = false
  row : w.ownsRow 0 t 1 v bs.length (ptrs bs)
  own : ∀ g, v.ownBlock = some g → S g ∧ g ≠ p
  here : S p
  blk : ∀ (j b : Nat), bs[j]? = some b → w.there b 0 1536 ∧ S b ∧ b ≠ p ∧ v.ownBlock ≠ some b
  inj : ∀ (i j b : Nat), bs[i]? = some b → bs[j]? = some b → i = j
  at_ : ∀ (i : Nat) x, its[i]? = some x → ∃ b : Nat, bs[i / 256]? = some b ∧ w.rangeAt b (i % 256 * 6) (It.cells x)
theorem Keeps.rangeAt {S : Nat → Prop} {w w' : World} (h : Keeps S w w') {b o : Nat} {cs : List Value} (hb : ¬ S b) (hr : w.rangeAt b o cs) : w'.rangeAt b o cs := fun j v hv => h.cell (p := ⟨b, o + j, none⟩) hb (hr j v hv)
theorem Keeps.there {S : Nat → Prop} {w w' : World} (h : Keeps S w w') {b o n : Nat} (hb : ¬ S b) (hr : w.there b o n) : w'.there b o n := fun j hj => by
  obtain ⟨h1, h2⟩ := hr j hj
  obtain ⟨u, hu⟩ := Option.isSome_iff_exists.1 h1
  exact ⟨by rw [h.cell (p := ⟨b, o + j, none⟩) hb hu]; rfl, h.frozen (p := ⟨b, o + j, none⟩) hb (World.block_lt_of_cell? _ _ hu) h2⟩
section
variable {t : TypeId} {w W : World} {p : Nat} {its : List It} {bs : List Nat} {v : Value} {S : Nat → Prop}
theorem IsAr.lt (h : IsAr t w p its bs v S) : p < w.heap.size := World.block_lt_of_cell? _ _ h.c0
theorem IsAr.keep (h : IsAr t w p its bs v S) {T : Nat → Prop} (hk : Keeps T w W) (hT : ∀ k, S k → ¬ T k) : IsAr t W p its bs v S := by
  have hp := hT p h.here
  refine ⟨hk.cell (p := ⟨p, 0, none⟩) hp h.c0, hk.cell (p := ⟨p, 1, none⟩) hp h.c1, hk.frozen (p := ⟨p, 0, none⟩) hp h.lt h.f0, hk.frozen (p := ⟨p, 1, none⟩) hp h.lt h.f1, Keeps.ownsRow h.row hk (fun g hg => hT g (h.own g hg).1), h.own, h.here, fun j b hj => ?_, h.inj, fun i x hi => ?_⟩
  · obtain ⟨a1, a2, a3, a4⟩ := h.blk j b hj
    exact ⟨hk.there (hT b a2) a1, a2, a3, a4⟩
  · obtain ⟨b, hb, hr⟩ := h.at_ i x hi
    exact ⟨b, hb, hk.rangeAt (hT b (h.blk _ b hb).2.1) hr⟩
theorem IsAr.blt (h : IsAr t w p its bs v S) {j b : Nat} (hj : bs[j]? = some b) : b < w.heap.size := by
  obtain ⟨u, hu⟩ := Option.isSome_iff_exists.1 ((h.blk j b hj).1 0 (by omega)).1
  exact World.block_lt_of_cell? _ _ hu
/-- One block more. -/
theorem IsAr.grow (h : IsAr t w p its bs v S) {b0 : Nat} {v' : Value} {S' : Nat → Prop} (hk : Keeps (fun k => k = p ∨ v.ownBlock = some k) w W) (hb0 : w.heap.size ≤ b0) (ht : W.there b0 0 1536) (hS : ∀ k, S k → S' k) (s0 : S' b0)
    (c0 : W.cell? ⟨p, 0, none⟩ = some v') (c1 : W.cell? ⟨p, 1, none⟩ = some (.int .i64 its.length)) (f0 : W.frozen? ⟨p, 0, none⟩ = false) (f1 : W.frozen? ⟨p, 1, none⟩ = false)
    (row : W.ownsRow 0 t 1 v' (bs.length + 1) (ptrs bs ++ [.pointer (some ⟨b0, 0, none⟩)])) (hv' : ∀ g, v'.ownBlock = some g → S' g ∧ (v.ownBlock = some g ∨ w.heap.size ≤ g) ∧ g ≠ b0) : IsAr t W p its (bs ++ [b0]) v' S' := by
  have hlt := h.lt
  refine ⟨c0, c1, f0, f1, by simpa [ptrs] using row, fun g hg => ⟨(hv' g hg).1, ?_⟩, hS p h.here, fun j b hj => ?_, fun i j b hi hj => ?_, fun i x hi => ?_⟩
  · rcases (hv' g hg).2.1 with e | e
    · exact (h.own g e).2
    · omega
  · rcases Nat.lt_or_ge j bs.length with hl | hl
    · rw [List.getElem?_append_left hl] at hj
      obtain ⟨a1, a2, a3, a4⟩ := h.blk j b hj
      refine ⟨hk.there (by rintro (e | e); exact a3 e; exact a4 e) a1, hS b a2, a3, fun e => ?_⟩
      rcases (hv' b e).2.1 with e' | e'
      · exact a4 e'
      · have := h.blt hj; omega
    · rw [List.getElem?_append_right hl] at hj
      have hz : j - bs.length = 0 := by
        rcases Nat.eq_zero_or_pos (j - bs.length) with e | e
        · exact e
        · rw [List.getElem?_eq_none (by simp; omega)] at hj; simp at hj
      rw [hz] at hj
      simp at hj
      subst hj
      exact ⟨ht, s0, by omega, fun e => (hv' b0 e).2.2 rfl⟩
  · have key : ∀ i b, (bs ++ [b0])[i]? = some b → (bs[i]? = some b ∧ b < w.heap.size) ∨ (i = bs.length ∧ b = b0) := by
      intro i b hi
      rcases Nat.lt_or_ge i bs.length with hl | hl
      · rw [List.getElem?_append_left hl] at hi
        exact .inl ⟨hi, h.blt hi⟩
      · rw [List.getElem?_append_right hl] at hi
        have hz : i - bs.length = 0 := by
          rcases Nat.eq_zero_or_pos (i - bs.length) with e | e
          · exact e
          · rw [List.getElem?_eq_none (by simp; omega)] at hi; simp at hi
        rw [hz] at hi
        simp at hi
        exact .inr ⟨by omega, hi.symm⟩
    rcases key i b hi with ⟨a1, a2⟩ | ⟨a1, a2⟩ <;> rcases key j b hj with ⟨d1, d2⟩ | ⟨d1, d2⟩
    · exact h.inj i j b a1 d1
    · omega
    · omega
    · omega
  · obtain ⟨b, hb, hr⟩ := h.at_ i x hi
    have hl : i / 256 < bs.length := by
      rcases Nat.lt_or_ge (i / 256) bs.length with h | h
      · exact h
      · rw [List.getElem?_eq_none h] at hb; simp at hb
    obtain ⟨a1, a2, a3, a4⟩ := h.blk _ b hb
    exact ⟨b, by rw [List.getElem?_append_left hl]; exact hb, hk.rangeAt (by rintro (e | e); exact a3 e; exact a4 e) hr⟩
/-- One record more, in the last block. -/
theorem IsAr.put (h : IsAr t w p its bs v S) {b : Nat} {x : It} (hb : bs[its.length / 256]? = some b) (hk : Keeps (fun k => k = p ∨ k = b) w W) (c0 : W.cell? ⟨p, 0, none⟩ = some v) (c1 : W.cell? ⟨p, 1, none⟩ = some (.int .i64 (its.length + 1 : Nat))) (f0 : W.frozen? ⟨p, 0, none⟩ = false) (f1 : W.frozen? ⟨p, 1, none⟩ = false)
    (hr : W.rangeAt b (its.length % 256 * 6) (It.cells x)) (ht : W.there b 0 1536) (hother : ∀ o cs, w.rangeAt b o cs → o + cs.length ≤ its.length % 256 * 6 → W.rangeAt b o cs) : IsAr t W p (its ++ [x]) bs v S := by
  refine ⟨c0, by simpa using c1, f0, f1, Keeps.ownsRow h.row hk (fun g hg => ?_), h.own, h.here, fun j b' hj => ?_, h.inj, fun i y hi => ?_⟩
  · rintro (e | e)
    · exact (h.own g hg).2 e
    · subst e; exact (h.blk _ g hb).2.2.2 hg
  · obtain ⟨a1, a2, a3, a4⟩ := h.blk j b' hj
    by_cases e : b' = b
    · subst e; exact ⟨ht, a2, a3, a4⟩
    · exact ⟨hk.there (by rintro (e' | e'); exact a3 e'; exact e e') a1, a2, a3, a4⟩
  · rcases Nat.lt_or_ge i its.length with hl | hl
    · rw [List.getElem?_append_left hl] at hi
      obtain ⟨b', hb', hr'⟩ := h.at_ i y hi
      refine ⟨b', hb', ?_⟩
      by_cases e : b' = b
      · subst e
        have hii := h.inj _ _ _ hb' hb
        exact hother _ _ hr' (by rw [It.len]; omega)
      · exact hk.rangeAt (by rintro (e' | e'); exact (h.blk _ b' hb').2.2.1 e'; exact e e') hr'
    · rw [List.getElem?_append_right hl] at hi
      have hz : i - its.length = 0 := by
        rcases Nat.eq_zero_or_pos (i - its.length) with e | e
        · exact e
        · rw [List.getElem?_eq_none (by simp; omega)] at hi; simp at hi
      rw [hz] at hi
      simp at hi
      obtain rfl : i = its.length := by omega
      subst hi
      exact ⟨b, hb, hr⟩
end
/-- Six stores behind one another. -/
def six (w : World) (b o : Nat) (u0 u1 u2 u3 u4 u5 : Value) : World := (((((w.setCell ⟨b, o, none⟩ u0).setCell ⟨b, o + 1, none⟩ u1).setCell ⟨b, o + 2, none⟩ u2).setCell ⟨b, o + 3, none⟩ u3).setCell ⟨b, o + 4, none⟩ u4).setCell ⟨b, o + 5, none⟩ u5
theorem six_is (w : World) (b o : Nat) (u0 u1 u2 u3 u4 u5 : Value) : six w b o u0 u1 u2 u3 u4 u5 = w.setCells b o [u0, u1, u2, u3, u4, u5] := by
  simp [six, World.setCells]
end Go.Proofs.YtodppilfpemepaaGreat
/- Next: Contracts of package items: the zero block; what is told of nothing. -/
namespace Go.Proofs.YtodppilfpemepaaGreat
open Go.RowKit
set_option linter.unusedVariables false

theorem zinfo : (Tryz.prog.info? 167).map (fun i => (match i.zero with | some (.agg Z) => Z.size | _ => 0)) = some 1536 := by kernel_rfl
theorem zblock : ∃ Z : Array Value, Z.size = 1536 ∧ (∀ w, (zeroValue 167).run Tryz.prog w = .ok (.agg Z) w) ∧ (∀ w, (Instr.build 167 #[]).run Tryz.prog w = .ok (.agg Z) w) ∧ (∀ w, (Instr.box 167 (.agg Z)).run Tryz.prog w = .ok (.pointer (some ⟨w.heap.size, 0, none⟩)) (w.alloc (.cells Z 167))) := by
  have h := zinfo
  obtain ⟨i, hi, hz⟩ := Option.map_eq_some_iff.1 h
  cases hq : i.zero with
  | none => rw [hq] at hz; simp at hz
  | some v =>
    rw [hq] at hz
    cases v with
    | agg Z =>
      simp at hz
      have e1 : ∀ w, (zeroValue 167).run Tryz.prog w = .ok (.agg Z) w := fun w => by simp [zeroValue, typeInfo, hi, hq, Result.andThen]
      refine ⟨Z, hz, e1, fun w => ?_, fun w => ?_⟩
      · have hs := Tryz.sizeOf84 w
        simp [Instr.build, e1, run_underlying Tryz.underlying167, hs, Instr.fill, Value.cells, Result.andThen]
      · simp [Instr.box, newVar, newRow, Value.cells, Result.andThen]
    | _ => simp at hz
theorem there_alloc {w : World} {Z : Array Value} {T : TypeId} (hz : Z.size = 1536) : (w.alloc (.cells Z T)).there w.heap.size 0 1536 := by
  intro j hj
  refine ⟨?_, by simp⟩
  have : (w.alloc (.cells Z T)).cell? ⟨w.heap.size, 0 + j, none⟩ = Z[0 + j]? := by
    have hg : (w.alloc (.cells Z T)).heap[w.heap.size]? = some (.cells Z T) := (MapKept.heap_alloc w _).1
    unfold World.cell?
    rw [hg]
    simp
  rw [this, Array.getElem?_eq_getElem (by omega)]
  rfl
theorem icount_nil (w : World) : Calls Tryz.prog 76 #[.pointer none] w fun e w' => e = .returned (.int .i64 0) ∧ w = w' := by
  go_enter Tryz.func76, Tryz.ntmps76
  go_wp2_with fail
  go_ret
  exact ⟨rfl, rfl⟩
theorem icount (n : Int) (p : Nat) (w : World) (hc : w.cell? ⟨p, 1, none⟩ = some (.int .i64 n)) : Calls Tryz.prog 76 #[.pointer (some ⟨p, 0, none⟩)] w fun e w' => e = .returned (.int .i64 n) ∧ w = w' := by
  go_enter Tryz.func76, Tryz.ntmps76
  go_wp2_with fail
  go_ret
  exact ⟨rfl, rfl⟩
theorem iadd_nil (k v : ByteArray) (fl id di ge : Int) (w : World) : Calls Tryz.prog 44 #[.pointer none, .agg #[.string k, .string v, .int .u32 fl, .int .u64 id, .int .i64 di, .int .i64 ge]] w fun e w' => e = .returned (.tuple #[.int .i64 0, .int .i64 2]) ∧ Below w.heap.size w w' := by
  go_enter Tryz.func44, Tryz.ntmps44
  go_wp2_with fail
  go_ret2
  exact ⟨rfl, (Below.refl _ _).alloc (Nat.le_refl _) _⟩
theorem iadd_full (n : Int) (p : Nat) (k v : ByteArray) (fl id di ge : Int) (w : World) (hc : w.cell? ⟨p, 1, none⟩ = some (.int .i64 n)) (hn : decide ((1048576 : Int) ≤ n) = true) : Calls Tryz.prog 44 #[.pointer (some ⟨p, 0, none⟩), .agg #[.string k, .string v, .int .u32 fl, .int .u64 id, .int .i64 di, .int .i64 ge]] w fun e w' => e = .returned (.tuple #[.int .i64 0, .int .i64 3]) ∧ Below w.heap.size w w' := by
  have hc' : ∀ o, (w.alloc o).cell? ⟨p, 1, none⟩ = some (.int .i64 n) := fun o => ((Keeps.refl (fun _ => False) w).alloc o).cell (p := ⟨p, 1, none⟩) (by simp) hc
  go_enter Tryz.func44, Tryz.ntmps44
  go_wp2_with fail
  go_ret2
  exact ⟨rfl, (Below.refl _ _).alloc (Nat.le_refl _) _⟩
theorem inew (w : World) : Calls Tryz.prog 55 #[] w fun e w' => e = .returned (.pointer (some ⟨w.heap.size, 0, none⟩)) ∧ w' = w.alloc (.cells #[.slice none 0 0, .int .i64 0] 165) := by
  go_enter Tryz.func55, Tryz.ntmps55
  go_wp2_with fail
  go_ret
  exact ⟨rfl, rfl⟩
/-- The arena's struct, as it is made. -/
theorem made_ar (t T : TypeId) (W : World) : IsAr t (W.alloc (.cells #[.slice none 0 0, .int .i64 0] T)) W.heap.size [] [] (.slice none 0 0) (fun k => k = W.heap.size) := by
  refine ⟨by simp, by simp, by simp, by simp, World.ownsRow_nil _ _ _ _, fun g hg => by simp [Value.ownBlock] at hg, rfl, fun j b h => by simp at h, fun i j b h => by simp at h, fun i x h => by simp at h⟩
end Go.Proofs.YtodppilfpemepaaGreat
/- Next: Contracts of package items: a record's place; a record of a number. -/
namespace Go.Proofs.YtodppilfpemepaaGreat
open Go.RowKit
set_option linter.unusedVariables false

theorem iplace (i j r b g nb cap p : Nat) (w : World) (hi : (i : Int) < 2000000) (hj : (i : Int) / 256 = j) (hr : (i : Int) % 256 = r) (hjn : j < nb) (hc : w.cell? ⟨p, 0, none⟩ = some (.slice (some ⟨g, 0, none⟩) nb cap)) (hb : w.cell? ⟨g, j, none⟩ = some (.pointer (some ⟨b, 0, none⟩))) :
    Calls Tryz.prog 81 #[.pointer (some ⟨p, 0, none⟩), .int .i64 ((i : Int) + 1)] w fun e w' => e = .returned (.tuple #[.pointer (some ⟨b, 0, none⟩), .int .i64 r]) ∧ w = w' := by
  have hj0 : (0 : Int) ≤ (j : Int) := by omega
  have hjn' : (j : Int) < (nb : Int) := by omega
  go_enter Tryz.func81, Tryz.ntmps81
  go_wp2_with fail
  go_ret2
  exact ⟨by simp; omega, rfl⟩
theorem iat_nil (ref : Int) (w : World) : Calls Tryz.prog 35 #[.pointer none, .int .i64 ref] w fun e w' => e = .returned (.tuple #[.agg #[.string ⟨#[]⟩, .string ⟨#[]⟩, .int .u32 0, .int .u64 0, .int .i64 0, .int .i64 0], .bool false]) ∧ Below w.heap.size w w' := by
  by_cases h : ref < 1
  · have h1 : decide (ref < 1) = true := decide_eq_true h
    go_enter Tryz.func35, Tryz.ntmps35
    go_wp2_with (go_at_call 76; refine (icount_nil _).mono ?_; rintro e w' ⟨rfl, rfl⟩)
    refine bodyPost_ret (v := .tuple #[.agg #[.string ⟨#[]⟩, .string ⟨#[]⟩, .int .u32 0, .int .u64 0, .int .i64 0, .int .i64 0], .bool false]) (by simp [results, Tryz.results35, go_sem]) rfl ⟨rfl, ?_⟩
    exact (Below.refl w.heap.size w).alloc (Nat.le_refl _) _
  · have h1 : decide (ref < 1) = false := decide_eq_false h
    have h2 : decide (0 < ref) = true := decide_eq_true (by omega)
    go_enter Tryz.func35, Tryz.ntmps35
    go_wp2_with (go_at_call 76; refine (icount_nil _).mono ?_; rintro e w' ⟨rfl, rfl⟩)
    refine bodyPost_ret (v := .tuple #[.agg #[.string ⟨#[]⟩, .string ⟨#[]⟩, .int .u32 0, .int .u64 0, .int .i64 0, .int .i64 0], .bool false]) (by simp [results, Tryz.results35, go_sem]) rfl ⟨rfl, ?_⟩
    exact (Below.refl w.heap.size w).alloc (Nat.le_refl _) _
theorem iat_none (ref n : Int) (p : Nat) (w : World) (hc : w.cell? ⟨p, 1, none⟩ = some (.int .i64 n)) (hr : ref < 1 ∨ n < ref) : Calls Tryz.prog 35 #[.pointer (some ⟨p, 0, none⟩), .int .i64 ref] w fun e w' => e = .returned (.tuple #[.agg #[.string ⟨#[]⟩, .string ⟨#[]⟩, .int .u32 0, .int .u64 0, .int .i64 0, .int .i64 0], .bool false]) ∧ Below w.heap.size w w' := by
  have hc' : ∀ o, (w.alloc o).cell? ⟨p, 1, none⟩ = some (.int .i64 n) := fun o => ((Keeps.refl (fun _ => False) w).alloc o).cell (p := ⟨p, 1, none⟩) (by simp) hc
  have hk := fun o => Lib.hid (icount n p (w.alloc o) (hc' o))
  by_cases h : ref < 1
  · have h1 : decide (ref < 1) = true := decide_eq_true h
    clear hr
    go_enter Tryz.func35, Tryz.ntmps35
    go_wp2_with (go_at_call 76; refine (hk _).out.mono ?_; rintro e w' ⟨rfl, rfl⟩)
    refine bodyPost_ret (v := .tuple #[.agg #[.string ⟨#[]⟩, .string ⟨#[]⟩, .int .u32 0, .int .u64 0, .int .i64 0, .int .i64 0], .bool false]) (by simp [results, Tryz.results35, go_sem]) rfl ⟨rfl, ?_⟩
    exact (Below.refl w.heap.size w).alloc (Nat.le_refl _) _
  · have h1 : decide (ref < 1) = false := decide_eq_false h
    have h2 : decide (n < ref) = true := decide_eq_true (by omega)
    clear hr
    go_enter Tryz.func35, Tryz.ntmps35
    go_wp2_with (go_at_call 76; refine (hk _).out.mono ?_; rintro e w' ⟨rfl, rfl⟩)
    refine bodyPost_ret (v := .tuple #[.agg #[.string ⟨#[]⟩, .string ⟨#[]⟩, .int .u32 0, .int .u64 0, .int .i64 0, .int .i64 0], .bool false]) (by simp [results, Tryz.results35, go_sem]) rfl ⟨rfl, ?_⟩
    exact (Below.refl w.heap.size w).alloc (Nat.le_refl _) _
theorem iat_some {w : World} {p : Nat} {its : List It} {bs : List Nat} {v : Value} {S : Nat → Prop} (h : IsAr 152 w p its bs v S) (i : Nat) (hi : (i : Int) < 2000000) {k vl : ByteArray} {fl id di ge : Int} (hx : its[i]? = some (k, vl, fl, id, di, ge)) :
    Calls Tryz.prog 35 #[.pointer (some ⟨p, 0, none⟩), .int .i64 ((i : Int) + 1)] w fun e w' => e = .returned (.tuple #[.agg #[.string k, .string vl, .int .u32 fl, .int .u64 id, .int .i64 di, .int .i64 ge], .bool true]) ∧ Below w.heap.size w w' := by
  obtain ⟨b, hb, hr⟩ := h.at_ i _ hx
  have hil : i < its.length := by
    rcases Nat.lt_or_ge i its.length with h | h
    · exact h
    · rw [List.getElem?_eq_none h] at hx; simp at hx
  have hbl : i / 256 < bs.length := by
    rcases Nat.lt_or_ge (i / 256) bs.length with h | h
    · exact h
    · rw [List.getElem?_eq_none h] at hb; simp at hb
  obtain ⟨g, cap, hv⟩ : ∃ g cap, v = .slice (some ⟨g, 0, none⟩) bs.length cap := by
    rcases h.row.2 with ⟨_, e⟩ | ⟨g, cap, cur, e, _⟩
    · omega
    · exact ⟨g, cap, e⟩
  have hcell : w.cell? ⟨g, i / 256, none⟩ = some (.pointer (some ⟨b, 0, none⟩)) := by
    have := h.row.cells (g := g) (by rw [hv]; rfl) _ _ (ptrs_at hb)
    rwa [Addr.add_mid, Nat.zero_add] at this
  have hc0 := h.c0
  rw [hv] at hc0
  have hc1 := h.c1
  have r0 : w.cell? ⟨b, i % 256 * 6, none⟩ = some (.string k) := hr 0 _ rfl
  have r1 : w.cell? ⟨b, i % 256 * 6 + 1, none⟩ = some (.string vl) := hr 1 _ rfl
  have r2 : w.cell? ⟨b, i % 256 * 6 + 2, none⟩ = some (.int .u32 fl) := hr 2 _ rfl
  have r3 : w.cell? ⟨b, i % 256 * 6 + 3, none⟩ = some (.int .u64 id) := hr 3 _ rfl
  have r4 : w.cell? ⟨b, i % 256 * 6 + 4, none⟩ = some (.int .i64 di) := hr 4 _ rfl
  have r5 : w.cell? ⟨b, i % 256 * 6 + 5, none⟩ = some (.int .i64 ge) := hr 5 _ rfl
  generalize hj : i / 256 = j at *
  generalize hrr : i % 256 = r at *
  have hr256 : r < 256 := by omega
  have hr0 : (0 : Int) ≤ (r : Int) := by omega
  have hr1 : (r : Int) < 256 := by omega
  have up : ∀ (o : Obj) (q : Addr) (u : Value), w.cell? q = some u → (w.alloc o).cell? q = some u := fun o q u hq => ((Keeps.refl (fun _ => False) w).alloc o).cell (p := q) (by simp) hq
  have HK := fun o => Lib.hid (icount its.length p (w.alloc o) (up o _ _ hc1))
  have HP := fun o => Lib.hid (iplace i j r b g bs.length cap p (w.alloc o) hi (by omega) (by omega) hbl (up o _ _ hc0) (up o _ _ hcell))
  have q0 := fun o => up o _ _ r0
  have q1 := fun o => up o _ _ r1
  have q2 := fun o => up o _ _ r2
  have q3 := fun o => up o _ _ r3
  have q4 := fun o => up o _ _ r4
  have q5 := fun o => up o _ _ r5
  have d1 : decide ((i : Int) + 1 < 1) = false := decide_eq_false (by omega)
  have d2 : decide ((its.length : Int) < (i : Int) + 1) = false := decide_eq_false (by omega)
  have hblt : b < w.heap.size := World.block_lt_of_cell? _ _ r0
  have HB := Lib.hid hblt
  clear h hr hb hcell hc0 hc1 r0 r1 r2 r3 r4 r5 up hv hx hj hrr hbl hil hblt
  generalize hn : its.length = n at *
  generalize bs.length = nb at *
  clear hn
  go_enter Tryz.func35, Tryz.ntmps35
  go_wp2_with (first
    | (go_at_call 76; refine (HK _).out.mono ?_; rintro e w' ⟨rfl, rfl⟩)
    | (go_at_call 81; refine (HP _).out.mono ?_; rintro e w' ⟨rfl, rfl⟩))
  refine bodyPost_ret (v := .tuple #[.agg #[.string k, .string vl, .int .u32 fl, .int .u64 id, .int .i64 di, .int .i64 ge], .bool true]) (by simp [results, Tryz.results35, go_sem]) rfl ⟨rfl, ?_⟩
  exact (Below.refl w.heap.size w).alloc (Nat.le_refl _) _
end Go.Proofs.YtodppilfpemepaaGreat
/- Next: Contracts of package items: a record comes. -/
namespace Go.Proofs.YtodppilfpemepaaGreat
open Go.RowKit
set_option linter.unusedVariables false

theorem put_facts {W2 W3 : World} {b r : Nat} {x : It} (hW : W3 = (W2.setCells b (r * 6) (It.cells x)).drew) (bt : W2.there b 0 1536) (hr : r < 256) :
    Keeps (fun k => k = b) W2 W3 ∧ W3.rangeAt b (r * 6) (It.cells x) ∧ W3.there b 0 1536 ∧ (∀ o cs, W2.rangeAt b o cs → o + cs.length ≤ r * 6 → W3.rangeAt b o cs) ∧ (∀ q, W3.frozen? q = W2.frozen? q) ∧ (∀ q : Addr, q.block ≠ b → ∀ u, W2.cell? q = some u → W3.cell? q = some u) := by
  have hl : (It.cells x).length = 6 := rfl
  have hk : ∀ (cs : List Value) (o : Nat) (W : World), Keeps (fun k => k = b) W2 W → Keeps (fun k => k = b) W2 (W.setCells b o cs) := by
    intro cs
    induction cs with
    | nil => intro o W h; exact h
    | cons c cs ih => intro o W h; exact ih (o + 1) _ (Keeps.setCell (S := fun k => k = b) h (p := ⟨b, o, none⟩) (.inl rfl) c)
  generalize It.cells x = cs at hW hl ⊢
  obtain ⟨V, hV⟩ : ∃ V, V = W2.setCells b (r * 6) cs := ⟨_, rfl⟩
  have kV : Keeps (fun k => k = b) W2 V := by rw [hV]; exact hk _ _ _ (Keeps.refl _ _)
  have g1 : V.rangeAt b (r * 6) cs := by
    rw [hV]
    refine World.rangeAt_setCells_same W2 b (r * 6) cs (fun j hj => ?_)
    rw [hl] at hj
    have := bt (r * 6 + j) (by omega)
    rwa [Nat.zero_add] at this
  have g2 : V.there b 0 1536 := by rw [hV]; exact World.there_setCells bt b (r * 6) cs
  have g3 : ∀ o cs', W2.rangeAt b o cs' → o + cs'.length ≤ r * 6 → V.rangeAt b o cs' := fun o cs' hrg ho => by rw [hV]; exact World.rangeAt_setCells_apart hrg b (r * 6) cs (.inr (.inl ho))
  have g4 : ∀ q, V.frozen? q = W2.frozen? q := fun q => by rw [hV]; exact World.frozen?_setCells ..
  rw [← hV] at hW
  subst hW
  exact ⟨kV.drew, g1, g2, g3, g4, fun q hq u hu => kV.drew.cell (p := q) hq hu⟩
/-- What an added record leaves. -/
def AddPost (w : World) (p : Nat) (its : List It) (n : Nat) (S : Nat → Prop) (w' : World) : Prop := ∃ bs v S', Turn S S' w w' ∧ IsAr 152 w' p its bs v S' ∧ bs.length = n
set_option maxRecDepth 100000 in
set_option maxHeartbeats 1000000 in
theorem iadd_in {w : World} {p : Nat} {its : List It} {bs : List Nat} {v : Value} {S : Nat → Prop} (h : IsAr 152 w p its bs v S) (hn : its.length < 1048576) (hm : its.length % 256 ≠ 0) (hbs : its.length ≤ 256 * bs.length) (k vl : ByteArray) (fl id di ge : Int) :
    Calls Tryz.prog 44 #[.pointer (some ⟨p, 0, none⟩), .agg #[.string k, .string vl, .int .u32 fl, .int .u64 id, .int .i64 di, .int .i64 ge]] w fun e w' => e = .returned (.tuple #[.int .i64 ((its.length : Int) + 1), .int .i64 0]) ∧ AddPost w p (its ++ [(k, vl, fl, id, di, ge)]) bs.length S w' := by
  have hbl : its.length / 256 < bs.length := by omega
  obtain ⟨b, hb⟩ : ∃ b, bs[its.length / 256]? = some b := ⟨_, List.getElem?_eq_getElem hbl⟩
  obtain ⟨bt, bS, bp, bv⟩ := h.blk _ b hb
  obtain ⟨g, cap, hv⟩ : ∃ g cap, v = .slice (some ⟨g, 0, none⟩) bs.length cap := by
    rcases h.row.2 with ⟨_, e⟩ | ⟨g, cap, cur, e, _⟩
    · omega
    · exact ⟨g, cap, e⟩
  have hcell : w.cell? ⟨g, its.length / 256, none⟩ = some (.pointer (some ⟨b, 0, none⟩)) := by
    have := h.row.cells (g := g) (by rw [hv]; rfl) _ _ (ptrs_at hb)
    rwa [Addr.add_mid, Nat.zero_add] at this
  have hgp : g ≠ p := (h.own g (by rw [hv]; rfl)).2
  have hc0 := h.c0
  rw [hv] at hc0
  have hc1 := h.c1
  have hf1 := h.f1
  have hlt := h.lt
  have hblt := h.blt hb
  have up : ∀ (o : Obj) (q : Addr) (u : Value), w.cell? q = some u → (w.alloc o).cell? q = some u := fun o q u hq => ((Keeps.refl (fun _ => False) w).alloc o).cell (p := q) (by simp) hq
  have HH := Lib.hid h
  have HN := Lib.hid hn
  have HB := Lib.hid hb
  have HV := Lib.hid hv
  have HLT := Lib.hid hlt
  have HBLT := Lib.hid hblt
  have HBT := Lib.hid bt
  generalize hj : its.length / 256 = j at *
  generalize hr : its.length % 256 = r at *
  generalize hl : its.length = n at *
  have HJ := Lib.hid hj
  have HR := Lib.hid hr
  have HL := Lib.hid hl
  generalize hnb : bs.length = nb at *
  have HNB := Lib.hid hnb
  clear hnb
  have hr0 : (0 : Int) ≤ (r : Int) := by omega
  have hr1 : (r : Int) < 256 := by omega
  have d1 : decide ((1048576 : Int) ≤ (n : Int)) = false := decide_eq_false (by omega)
  have e1 : (n : Int) % 256 = (r : Int) := by omega
  have e1' : (n : Int).tmod 256 = (r : Int) := by rw [Int.tmod_eq_emod_of_nonneg (by omega)]; exact e1
  have d2 : ((r : Int) == 0) = false := beq_eq_false_iff_ne.2 (by omega)
  have d3 : decide ((r : Int) = 0) = false := decide_eq_false (by omega)
  have y1 : IntKind.i64.wrap ((n : Int) + 1) = (n : Int) + 1 := IntWalk.i64_in _ (by omega)
  have e2 : (n : Int) / 256 = (j : Int) := by omega
  have hn2 : (n : Int) < 2000000 := by omega
  have m1 := fun o => up o _ _ hc1
  have m2 : ∀ o, (w.alloc o).frozen? ⟨p, 1, none⟩ = false := fun o => ((Keeps.refl (fun _ => False) w).alloc o).frozen (p := ⟨p, 1, none⟩) (by simp) hlt hf1
  have UP := Lib.hid up
  have C0 := Lib.hid hc0
  have C1 := Lib.hid hc1
  have HC := Lib.hid hcell
  have HG := Lib.hid hgp
  have HF := Lib.hid hf1
  have BP := Lib.hid bp
  have HBL := Lib.hid hbl
  have E1 := Lib.hid e1
  have E2 := Lib.hid e2
  clear h hn hb bt bS bv hv hcell hgp hc0 hc1 hf1 hlt hblt up hj hr hl bp hbl e2
  go_enter Tryz.func44, Tryz.ntmps44
  go_wp2_with fail
  generalize hW2 : World.setCell _ _ _ = W2
  have hk2 : Keeps (fun k => k = p) w W2 := by rw [← hW2]; exact Keeps.setCell (S := fun k => k = p) ((Keeps.refl _ w).alloc _) (p := ⟨p, 1, none⟩) (.inl rfl) _
  have hz2 : W2.heap.size = w.heap.size + 1 := by rw [← hW2]; simp [World.setCell]
  have p1 : W2.cell? ⟨p, 1, none⟩ = some (.int .i64 ((n : Int) + 1)) := by rw [← hW2]; exact World.cell?_setCell_same _ _ _ (m1 _)
  have p0 : W2.cell? ⟨p, 0, none⟩ = some (.slice (some ⟨g, 0, none⟩) nb cap) := by rw [← hW2, World.cell?_setCell_other _ _ _ _ (by intro e; injection e with _ e; omega)]; exact UP.out _ _ _ C0.out
  have nx : ∀ o, (⟨p, 1, none⟩ : Addr) ≠ ⟨w.heap.size, o, none⟩ := fun o e => by have := HLT.out; injection e with e; omega
  have x0 : W2.cell? ⟨w.heap.size, 0, none⟩ = some (.string k) := by rw [← hW2, World.cell?_setCell_other _ _ _ _ (nx _)]; simp
  have x1 : W2.cell? ⟨w.heap.size, 1, none⟩ = some (.string vl) := by rw [← hW2, World.cell?_setCell_other _ _ _ _ (nx _)]; simp
  have x2 : W2.cell? ⟨w.heap.size, 2, none⟩ = some (.int .u32 fl) := by rw [← hW2, World.cell?_setCell_other _ _ _ _ (nx _)]; simp
  have x3 : W2.cell? ⟨w.heap.size, 3, none⟩ = some (.int .u64 id) := by rw [← hW2, World.cell?_setCell_other _ _ _ _ (nx _)]; simp
  have x4 : W2.cell? ⟨w.heap.size, 4, none⟩ = some (.int .i64 di) := by rw [← hW2, World.cell?_setCell_other _ _ _ _ (nx _)]; simp
  have x5 : W2.cell? ⟨w.heap.size, 5, none⟩ = some (.int .i64 ge) := by rw [← hW2, World.cell?_setCell_other _ _ _ _ (nx _)]; simp
  have f0 : W2.frozen? ⟨p, 0, none⟩ = false := by rw [← hW2, World.frozen?_setCell]; exact ((Keeps.refl (fun _ => False) w).alloc _).frozen (p := ⟨p, 0, none⟩) (by simp) HLT.out HH.out.f0
  have f1 : W2.frozen? ⟨p, 1, none⟩ = false := by rw [← hW2, World.frozen?_setCell]; exact m2 _
  have gc := hk2.cell (p := ⟨g, j, none⟩) HG.out HC.out
  have bt := Keeps.there hk2 (b := b) (o := 0) (n := 1536) BP.out HBT.out
  have BT := Lib.hid bt
  have bu : ∀ i, i < 6 → ∃ u, W2.cell? ⟨b, r * 6 + i, none⟩ = some u := fun i hi => by
    have := (bt (r * 6 + i) (by omega)).1
    rw [Nat.zero_add] at this
    exact Option.isSome_iff_exists.1 this
  have bf : ∀ i, i < 6 → W2.frozen? ⟨b, r * 6 + i, none⟩ = false := fun i hi => by
    have := (bt (r * 6 + i) (by omega)).2
    rwa [Nat.zero_add] at this
  obtain ⟨u0, b0⟩ := bu 0 (by omega)
  obtain ⟨u1, b1⟩ := bu 1 (by omega)
  obtain ⟨u2, b2⟩ := bu 2 (by omega)
  obtain ⟨u3, b3⟩ := bu 3 (by omega)
  obtain ⟨u4, b4⟩ := bu 4 (by omega)
  obtain ⟨u5, b5⟩ := bu 5 (by omega)
  have z0 := bf 0 (by omega)
  have z1 := bf 1 (by omega)
  have z2 := bf 2 (by omega)
  have z3 := bf 3 (by omega)
  have z4 := bf 4 (by omega)
  have z5 := bf 5 (by omega)
  rw [Nat.add_zero] at b0 z0
  have HP := Lib.hid (iplace n j r b g nb cap p W2 hn2 E2.out E1.out HBL.out p0 gc)
  have K2 := Lib.hid hk2
  have Z2 := Lib.hid hz2
  have F0 := Lib.hid f0
  have F1 := Lib.hid f1
  clear hW2 hk2 hz2 nx bt bu bf m1 m2 gc f0 f1 e1 e1' d1 d2 d3 hm
  have P0 := Lib.hid p0
  clear p0
  go_wp2_with (go_at_call 81; refine HP.out.mono ?_; rintro e w' ⟨rfl, rfl⟩)
  go_region
  all_goals
    have hs := six_is W2 b (r * 6) (.string k) (.string vl) (.int .u32 fl) (.int .u64 id) (.int .i64 di) (.int .i64 ge)
    unfold six at hs
    rw [hs]
    generalize hW3 : World.drew _ = W3
    have hW : W3 = (W2.setCells b (r * 6) (It.cells (k, vl, fl, id, di, ge))).drew := hW3.symm
    clear hs
    have Q := Lib.hid (put_facts (x := (k, vl, fl, id, di, ge)) hW BT.out (by omega))
    have p1' : W3.cell? ⟨p, 1, none⟩ = some (.int .i64 ((n : Int) + 1)) := Q.out.2.2.2.2.2 ⟨p, 1, none⟩ (fun e => BP.out e.symm) _ p1
    clear hW3 hW p1 b0 b1 b2 b3 b4 b5 z0 z1 z2 z3 z4 z5 x0 x1 x2 x3 x4 x5
    go_wp2_with fail
    go_ret2
    obtain ⟨k3, q1, q2, q3, q4, q5⟩ := Q.out
    refine ⟨rfl, bs, v, S, ?_, ?_, HNB.out⟩
    · have hh := HH.out
      have hb := HB.out
      refine ⟨((K2.out.mono (fun i _ e => by rw [e]; exact hh.here)).trans (k3.mono (fun i _ e => by rw [e]; exact (hh.blk _ _ hb).2.1)) (fun _ _ s => s)), fun _ s => .inl s⟩
    · have hl := HL.out
      subst hl
      have hj := HJ.out
      have hr := HR.out
      have hb := HB.out
      have hh := HH.out
      subst hj hr
      have hv := HV.out
      refine IsAr.put hh hb (W := W3) ?_ ?_ (by push_cast; exact p1') ?_ ?_ q1 q2 (fun o cs hrg ho => q3 o cs (Keeps.rangeAt K2.out BP.out hrg) ho)
      · exact (K2.out.mono (fun i _ e => .inl e)).trans (k3.mono (fun i _ e => .inr e)) (fun _ _ s => s)
      · rw [hv]; exact q5 ⟨p, 0, none⟩ (fun e => BP.out e.symm) _ P0.out
      · rw [q4]; exact F0.out
      · rw [q4]; exact F1.out
end Go.Proofs.YtodppilfpemepaaGreat
/- Next: Contracts of package items: a record comes, into a block of its own. -/
namespace Go.Proofs.YtodppilfpemepaaGreat
open Go.RowKit
set_option linter.unusedVariables false

theorem info_pb : (Tryz.prog.info? 152).map (fun i => (i.zero, i.size, i.bytes)) = some (some (.pointer none), 1, 8) := by kernel_rfl
theorem one_new {W : World} {n : Nat} (hn : n = W.heap.size) (v : Value) (T : TypeId) : ∀ j u, [v][j]? = some u → (W.alloc (.cells #[v] T)).cell? ((⟨n, 0, none⟩ : Addr).add j) = some u := by
  intro j u hj
  rcases j with _ | j
  · simp at hj; subst hj; rw [Addr.add_mid]; subst hn; simp
  · simp at hj
theorem zsize : Tryz.zeroCells167.size = 1536 := by kernel_rfl
/-- Behind the append of a new block's pointer: the arena; the record's box. -/
theorem grow_facts {t : TypeId} {w w1 : World} {p : Nat} {its : List It} {bs : List Nat} {v : Value} {S : Nat → Prop} (h : IsAr t w p its bs v S) {X Z : Array Value} {T1 T2 T3 : TypeId} (hZ : Z.size = 1536) {g cap : Nat}
    (own1 : w1.ownsRow 0 t 1 (.slice (some ⟨g, 0, none⟩) (bs.length + 1) cap) (bs.length + 1) (ptrs bs ++ [.pointer (some ⟨w.heap.size + 1, 0, none⟩)])) (hg : (((w.alloc (.cells X T1)).alloc (.cells Z T2)).alloc (.cells #[.pointer (some ⟨w.heap.size + 1, 0, none⟩)] T3)).grownBy w1 v.ownBlock) (hl : v.ownBlock = some g ∨ g = w.heap.size + 1 + 1 + 1) (hlt : g < w1.heap.size)
    (hv : ∀ k, v.ownBlock = some k → k < w.heap.size) (hS : ∀ k, S k → k < w.heap.size) :
    w1.cell? ⟨p, 0, none⟩ = some v ∧ w1.frozen? ⟨p, 0, none⟩ = false ∧ ∃ S', Turn S S' w (w1.setCell ⟨p, 0, none⟩ (.slice (some ⟨g, 0, none⟩) (bs.length + 1) cap)) ∧ IsAr t (w1.setCell ⟨p, 0, none⟩ (.slice (some ⟨g, 0, none⟩) (bs.length + 1) cap)) p its (bs ++ [w.heap.size + 1]) (.slice (some ⟨g, 0, none⟩) (bs.length + 1) cap) S' ∧ (∀ i u, X[i]? = some u → (w1.setCell ⟨p, 0, none⟩ (.slice (some ⟨g, 0, none⟩) (bs.length + 1) cap)).cell? ⟨w.heap.size, i, none⟩ = some u) := by
  have hp := h.lt
  obtain ⟨A1, hA1⟩ : ∃ A1, A1 = w.alloc (.cells X T1) := ⟨_, rfl⟩
  obtain ⟨A2, hA2⟩ : ∃ A2, A2 = A1.alloc (.cells Z T2) := ⟨_, rfl⟩
  obtain ⟨A3, hA3⟩ : ∃ A3, A3 = A2.alloc (.cells #[.pointer (some ⟨w.heap.size + 1, 0, none⟩)] T3) := ⟨_, rfl⟩
  rw [← hA1, ← hA2, ← hA3] at hg
  have s1 : A1.heap.size = w.heap.size + 1 := by rw [hA1]; simp
  have s2 : A2.heap.size = w.heap.size + 2 := by rw [hA2]; simp [s1]
  have s3 : A3.heap.size = w.heap.size + 3 := by rw [hA3]; simp [s2]
  have kA : Keeps (fun k => v.ownBlock = some k) w A3 := by rw [hA3, hA2, hA1]; exact (((Keeps.refl _ w).alloc _).alloc _).alloc _
  have k1 : Keeps (fun k => v.ownBlock = some k) w w1 := kA.grown hg (fun k e => .inl e)
  have k1' : Keeps (fun k => v.ownBlock = some k) A3 w1 := (Keeps.refl _ A3).grown hg (fun k e => .inl e)
  have k2' : Keeps (fun k => v.ownBlock = some k) A2 w1 := by
    have : Keeps (fun k => v.ownBlock = some k) A2 A3 := by rw [hA3]; exact (Keeps.refl _ A2).alloc _
    exact this.trans k1' (fun _ _ s => s)
  have k3' : Keeps (fun k => v.ownBlock = some k) A1 w1 := by
    have : Keeps (fun k => v.ownBlock = some k) A1 A2 := by rw [hA2]; exact (Keeps.refl _ A1).alloc _
    exact this.trans k2' (fun _ _ s => s)
  have pv : ¬ v.ownBlock = some p := fun e => (h.own p e).2 rfl
  have c0 := k1.cell (p := ⟨p, 0, none⟩) pv h.c0
  have c1 := k1.cell (p := ⟨p, 1, none⟩) pv h.c1
  have f0 := k1.frozen (p := ⟨p, 0, none⟩) pv hp h.f0
  have f1 := k1.frozen (p := ⟨p, 1, none⟩) pv hp h.f1
  have hsz := hg.size
  have gp : g ≠ p := by
    rcases hl with e | e
    · exact (h.own g e).2
    · omega
  obtain ⟨V, hV⟩ : ∃ V, V = w1.setCell ⟨p, 0, none⟩ (.slice (some ⟨g, 0, none⟩) (bs.length + 1) cap) := ⟨_, rfl⟩
  have sV : V.heap.size = w1.heap.size := by rw [hV]; simp [World.setCell]
  have kV : Keeps (fun k => k = p) w1 V := by rw [hV]; exact Keeps.setCell (S := fun k => k = p) (Keeps.refl _ w1) (p := ⟨p, 0, none⟩) (.inl rfl) _
  have kwV : Keeps (fun k => k = p ∨ v.ownBlock = some k) w V := (k1.mono (fun _ _ e => .inr e)).trans kV (fun _ _ e => .inl e)
  refine ⟨c0, f0, ?_⟩
  rw [← hV]
  refine ⟨fun k => S k ∨ (w.heap.size ≤ k ∧ k < V.heap.size), ⟨kwV.mono (fun k _ e => ?_), fun k s => s⟩, ?_, fun i u hu => ?_⟩
  · rcases e with e | e
    · rw [e]; exact h.here
    · exact (h.own k e).1
  · have tz : A2.there (w.heap.size + 1) 0 1536 := by rw [hA2, ← s1]; exact there_alloc hZ
    refine IsAr.grow h (b0 := w.heap.size + 1) kwV (by omega) ?_ (fun _ s => .inl s) (.inr ⟨by omega, by omega⟩) ?_ ?_ ?_ ?_ ?_ (fun k hk => ?_)
    · exact kV.there (by omega) (k2'.there (fun e => by have := hv _ e; omega) tz)
    · rw [hV]; exact World.cell?_setCell_same _ _ _ c0
    · rw [hV, World.cell?_setCell_other _ _ _ _ (by intro e; injection e with _ e; omega)]; exact c1
    · rw [hV, World.frozen?_setCell]; exact f0
    · rw [hV, World.frozen?_setCell]; exact f1
    · exact Keeps.ownsRow own1 kV (fun k hk => by simp [Value.ownBlock] at hk; omega)
    · simp [Value.ownBlock] at hk
      subst hk
      refine ⟨?_, ?_, ?_⟩
      · rcases hl with e | e
        · exact .inl (h.own g e).1
        · exact .inr ⟨by omega, by omega⟩
      · rcases hl with e | e
        · exact .inl e
        · exact .inr (by omega)
      · rcases hl with e | e
        · have := hv g e; omega
        · omega
  · have hx : A1.cell? ⟨w.heap.size, i, none⟩ = some u := by
      have hh : (w.alloc (.cells X T1)).heap[w.heap.size]? = some (.cells X T1) := (MapKept.heap_alloc w _).1
      rw [hA1]
      unfold World.cell?
      rw [hh]
      simpa using hu
    exact kV.cell (p := ⟨w.heap.size, i, none⟩) (by show ¬ w.heap.size = p; omega) (k3'.cell (p := ⟨w.heap.size, i, none⟩) (fun e => by have := hv w.heap.size e; omega) hx)
set_option maxRecDepth 100000 in
set_option maxHeartbeats 1000000 in
theorem iadd_new {w : World} {p : Nat} {its : List It} {bs : List Nat} {v : Value} {S : Nat → Prop} (h : IsAr 152 w p its bs v S) (hS : ∀ k, S k → k < w.heap.size) (hn : its.length < 1048576) (hm : its.length = 256 * bs.length) (k vl : ByteArray) (fl id di ge : Int) :
    Calls Tryz.prog 44 #[.pointer (some ⟨p, 0, none⟩), .agg #[.string k, .string vl, .int .u32 fl, .int .u64 id, .int .i64 di, .int .i64 ge]] w fun e w' => e = .returned (.tuple #[.int .i64 ((its.length : Int) + 1), .int .i64 0]) ∧ AddPost w p (its ++ [(k, vl, fl, id, di, ge)]) (bs.length + 1) S w' := by
  have hZ := zsize
  obtain ⟨i0, hi, hz0, hz1, hz2⟩ := info_parts info_pb
  have hown := h.row
  have hvlt : ∀ k, v.ownBlock = some k → k < w.heap.size := fun k hk => (hown.lt k hk).2
  have hc0 := h.c0
  have hc1 := h.c1
  have hf0 := h.f0
  have hlt := h.lt
  have up : ∀ (o : Obj) (q : Addr) (u : Value), w.cell? q = some u → (w.alloc o).cell? q = some u := fun o q u hq => ((Keeps.refl (fun _ => False) w).alloc o).cell (p := q) (by simp) hq
  have up2 : ∀ (o o' : Obj) (q : Addr) (u : Value), w.cell? q = some u → ((w.alloc o).alloc o').cell? q = some u := fun o o' q u hq => (((Keeps.refl (fun _ => False) w).alloc o).alloc o').cell (p := q) (by simp) hq
  have m0 := fun o => up o _ _ hc0
  have m00 := fun o o' => up2 o o' _ _ hc0
  have m1' := fun o => up o _ _ hc1
  have HO := Lib.hid hown
  have HH0 := Lib.hid h
  have HVL := Lib.hid hvlt
  have HSS := Lib.hid hS
  have HZZ := Lib.hid hZ
  have HLT := Lib.hid hlt
  generalize hl : its.length = n at *
  generalize hnb : bs.length = nb at *
  have HL := Lib.hid hl
  have HNB := Lib.hid hnb
  have HN := Lib.hid hn
  have HM := Lib.hid hm
  have d1 : decide ((1048576 : Int) ≤ (n : Int)) = false := decide_eq_false (by omega)
  have e1 : (n : Int) % 256 = 0 := by omega
  have e1' : (n : Int).tmod 256 = 0 := by rw [Int.tmod_eq_emod_of_nonneg (by omega)]; exact e1
  have y1 : IntKind.i64.wrap ((n : Int) + 1) = (n : Int) + 1 := IntWalk.i64_in _ (by omega)
  have hn2 : (n : Int) < 2000000 := by omega
  have HNM := Lib.hid (show nb < 5000 by omega)
  clear h hS hvlt hown hc0 hc1 hf0 up up2 hl hnb hn hm hZ hlt
  go_enter Tryz.func44, Tryz.ntmps44
  go_upto_region 6 with (fail)
  go_upto_region 7 with (at_builtin; refine wpList_append_lies _ rfl _ _ 163 rfl 0 152 i0 _ 1 8 Tryz.underlying163 hi hz0 hz1 hz2 rfl (by decide) v nb (ptrs bs) rfl (((HO.out.alloc _).alloc _).alloc _) ⟨w.heap.size + 1 + 1, 0, none⟩ 1 1 [.pointer (some ⟨w.heap.size + 1, 0, none⟩)] rfl rfl (one_new (by simp) _ _) (by simp [Value.oneCell']) (by decide) (by have := HNM.out; unfold maxLen; omega) (by have := HNM.out; omega) (Nat.zero_le _) (w.heap.size + 1 + 1 + 1) (by simp) ?_; intro g cap w1 own1 hg hloc hltg; have GF := grow_facts HH0.out HZZ.out (by rw [HNB.out]; exact own1) hg hloc hltg HVL.out HSS.out; rw [HNB.out] at GF; obtain ⟨g1, g2, GF⟩ := GF; have GF := Lib.hid GF; clear m0 m00 m1' own1 hg hloc hltg hi hz0 hz1 hz2)
  generalize hV : World.setCell _ _ _ = V at GF ⊢
  generalize Tryz.zeroCells167 = ZZ
  clear hV g1 g2
  obtain ⟨S', ht, hh, hx⟩ := GF.out
  have HT := Lib.hid ht
  have HH := Lib.hid hh
  have vx0 := hx 0 _ rfl
  have vx1 := hx 1 _ rfl
  have vx2 := hx 2 _ rfl
  have vx3 := hx 3 _ rfl
  have vx4 := hx 4 _ rfl
  have vx5 := hx 5 _ rfl
  have hb : (bs ++ [w.heap.size + 1])[nb]? = some (w.heap.size + 1) := by
    rw [List.getElem?_append_right (by rw [HNB.out]; omega)]
    rw [HNB.out, Nat.sub_self]
    rfl
  obtain ⟨bt, -, bp, -⟩ := hh.blk _ _ hb
  have hcell : V.cell? ⟨g, nb, none⟩ = some (.pointer (some ⟨w.heap.size + 1, 0, none⟩)) := by
    have := hh.row.cells (g := g) rfl _ _ (ptrs_at hb)
    rwa [Addr.add_mid, Nat.zero_add] at this
  have hgp : g ≠ p := (hh.own g rfl).2
  have m1 : V.cell? ⟨p, 1, none⟩ = some (.int .i64 n) := by have := hh.c1; rwa [HL.out] at this
  have m2 := hh.f1
  have C0 := Lib.hid hh.c0
  obtain ⟨b, hbb⟩ : ∃ b, b = w.heap.size + 1 := ⟨_, rfl⟩
  rw [← hbb] at hb bt bp hcell HH
  have HB := Lib.hid hb
  have HBT := Lib.hid bt
  have BP := Lib.hid bp
  have HC := Lib.hid hcell
  have HG := Lib.hid hgp
  obtain ⟨j, hj⟩ : ∃ j, j = nb := ⟨_, rfl⟩
  rw [← hj] at HB HC
  obtain ⟨r, hr⟩ : ∃ r, r = 0 := ⟨_, rfl⟩
  have HJ := Lib.hid (show n / 256 = j by have := HM.out; omega)
  have HR := Lib.hid (show n % 256 = r by have := HM.out; omega)
  have E1 := Lib.hid (show (n : Int) % 256 = (r : Int) by have := HR.out; omega)
  have E2 := Lib.hid (show (n : Int) / 256 = (j : Int) by have := HJ.out; omega)
  have HBL := Lib.hid (show j < nb + 1 by omega)
  have hr0 : (0 : Int) ≤ (r : Int) := by omega
  have hr1 : (r : Int) < 256 := by omega
  have d2 : True := trivial
  have d3 : True := trivial
  have hm : True := trivial
  clear ht hh hx hb bt bp hcell hgp hbb hj hr GF
  go_wp2_with fail
  generalize hW2 : World.setCell _ _ _ = W2
  have hk2 : Keeps (fun k => k = p) V W2 := by rw [← hW2]; exact Keeps.setCell (S := fun k => k = p) (Keeps.refl _ V) (p := ⟨p, 1, none⟩) (.inl rfl) _
  have hz2 : W2.heap.size = V.heap.size := by rw [← hW2]; simp [World.setCell]
  have p1 : W2.cell? ⟨p, 1, none⟩ = some (.int .i64 ((n : Int) + 1)) := by rw [← hW2]; exact World.cell?_setCell_same _ _ _ m1
  have p0 : W2.cell? ⟨p, 0, none⟩ = some (.slice (some ⟨g, 0, none⟩) (nb + 1) cap) := by rw [← hW2, World.cell?_setCell_other _ _ _ _ (by intro e; injection e with _ e; omega)]; exact C0.out
  have nx : ∀ o, (⟨p, 1, none⟩ : Addr) ≠ ⟨w.heap.size, o, none⟩ := fun o e => by have := HLT.out; injection e with e; omega
  have x0 : W2.cell? ⟨w.heap.size, 0, none⟩ = some (.string k) := by rw [← hW2, World.cell?_setCell_other _ _ _ _ (nx _)]; exact vx0
  have x1 : W2.cell? ⟨w.heap.size, 1, none⟩ = some (.string vl) := by rw [← hW2, World.cell?_setCell_other _ _ _ _ (nx _)]; exact vx1
  have x2 : W2.cell? ⟨w.heap.size, 2, none⟩ = some (.int .u32 fl) := by rw [← hW2, World.cell?_setCell_other _ _ _ _ (nx _)]; exact vx2
  have x3 : W2.cell? ⟨w.heap.size, 3, none⟩ = some (.int .u64 id) := by rw [← hW2, World.cell?_setCell_other _ _ _ _ (nx _)]; exact vx3
  have x4 : W2.cell? ⟨w.heap.size, 4, none⟩ = some (.int .i64 di) := by rw [← hW2, World.cell?_setCell_other _ _ _ _ (nx _)]; exact vx4
  have x5 : W2.cell? ⟨w.heap.size, 5, none⟩ = some (.int .i64 ge) := by rw [← hW2, World.cell?_setCell_other _ _ _ _ (nx _)]; exact vx5
  have f0 : W2.frozen? ⟨p, 0, none⟩ = false := by rw [← hW2, World.frozen?_setCell]; exact HH.out.f0
  have f1 : W2.frozen? ⟨p, 1, none⟩ = false := by rw [← hW2, World.frozen?_setCell]; exact m2
  have gc := hk2.cell (p := ⟨g, j, none⟩) HG.out HC.out
  have bt := Keeps.there hk2 (b := b) (o := 0) (n := 1536) BP.out HBT.out
  have BT := Lib.hid bt
  have bu : ∀ i, i < 6 → ∃ u, W2.cell? ⟨b, r * 6 + i, none⟩ = some u := fun i hi => by
    have := (bt (r * 6 + i) (by omega)).1
    rw [Nat.zero_add] at this
    exact Option.isSome_iff_exists.1 this
  have bf : ∀ i, i < 6 → W2.frozen? ⟨b, r * 6 + i, none⟩ = false := fun i hi => by
    have := (bt (r * 6 + i) (by omega)).2
    rwa [Nat.zero_add] at this
  obtain ⟨u0, b0⟩ := bu 0 (by omega)
  obtain ⟨u1, b1⟩ := bu 1 (by omega)
  obtain ⟨u2, b2⟩ := bu 2 (by omega)
  obtain ⟨u3, b3⟩ := bu 3 (by omega)
  obtain ⟨u4, b4⟩ := bu 4 (by omega)
  obtain ⟨u5, b5⟩ := bu 5 (by omega)
  have z0 := bf 0 (by omega)
  have z1 := bf 1 (by omega)
  have z2 := bf 2 (by omega)
  have z3 := bf 3 (by omega)
  have z4 := bf 4 (by omega)
  have z5 := bf 5 (by omega)
  rw [Nat.add_zero] at b0 z0
  have HP := Lib.hid (iplace n j r b g (nb + 1) cap p W2 hn2 E2.out E1.out HBL.out p0 gc)
  have K2 := Lib.hid hk2
  have Z2 := Lib.hid hz2
  have F0 := Lib.hid f0
  have F1 := Lib.hid f1
  clear hW2 hk2 hz2 nx bt bu bf m1 m2 gc f0 f1 e1 e1' d1 d2 d3 hm
  have P0 := Lib.hid p0
  clear p0
  go_wp2_with (go_at_call 81; refine HP.out.mono ?_; rintro e w' ⟨rfl, rfl⟩)
  go_region
  all_goals
    have hs := six_is W2 b (r * 6) (.string k) (.string vl) (.int .u32 fl) (.int .u64 id) (.int .i64 di) (.int .i64 ge)
    unfold six at hs
    rw [hs]
    generalize hW3 : World.drew _ = W3
    have hW : W3 = (W2.setCells b (r * 6) (It.cells (k, vl, fl, id, di, ge))).drew := hW3.symm
    clear hs
    have Q := Lib.hid (put_facts (x := (k, vl, fl, id, di, ge)) hW BT.out (by omega))
    have p1' : W3.cell? ⟨p, 1, none⟩ = some (.int .i64 ((n : Int) + 1)) := Q.out.2.2.2.2.2 ⟨p, 1, none⟩ (fun e => BP.out e.symm) _ p1
    clear hW3 hW p1 b0 b1 b2 b3 b4 b5 z0 z1 z2 z3 z4 z5 x0 x1 x2 x3 x4 x5 vx0 vx1 vx2 vx3 vx4 vx5
    go_wp2_with fail
    go_ret2
    obtain ⟨k3, q1, q2, q3, q4, q5⟩ := Q.out
    refine ⟨rfl, bs ++ [b], .slice (some ⟨g, 0, none⟩) (nb + 1) cap, S', ?_, ?_, by rw [List.length_append, HNB.out]; rfl⟩
    · have hh := HH.out
      exact HT.out.trans ⟨((K2.out.mono (fun i _ e => by rw [e]; exact hh.here)).trans (k3.mono (fun i _ e => by rw [e]; exact (hh.blk _ _ HB.out).2.1)) (fun _ _ s => s)), fun _ s => .inl s⟩
    · have hl := HL.out
      subst hl
      have hj := HJ.out
      have hr := HR.out
      have hb := HB.out
      have hh := HH.out
      subst hj hr
      refine IsAr.put hh hb (W := W3) ?_ ?_ (by push_cast; exact p1') ?_ ?_ q1 q2 (fun o cs hrg ho => q3 o cs (Keeps.rangeAt K2.out BP.out hrg) ho)
      · exact (K2.out.mono (fun i _ e => .inl e)).trans (k3.mono (fun i _ e => .inr e)) (fun _ _ s => s)
      · exact q5 ⟨p, 0, none⟩ (fun e => BP.out e.symm) _ P0.out
      · rw [q4]; exact F0.out
      · rw [q4]; exact F1.out
end Go.Proofs.YtodppilfpemepaaGreat
/- Next: Contracts of package items, in one: an arena of whatever records; the chapter's examples. -/
namespace Go.Proofs.YtodppilfpemepaaGreat
open Go.RowKit
set_option linter.unusedVariables false

/-- An arena with these records, that owns S. -/
def Ars (w : World) (p : Nat) (its : List It) (S : Nat → Prop) : Prop := ∃ bs v, IsAr 152 w p its bs v S ∧ bs.length = (its.length + 255) / 256 ∧ ∀ k, S k → k < w.heap.size
theorem Ars.keep {w W : World} {p : Nat} {its : List It} {S T : Nat → Prop} (h : Ars w p its S) (hk : Keeps T w W) (hT : ∀ k, S k → ¬ T k) : Ars W p its S := by
  obtain ⟨bs, v, h1, h2, h3⟩ := h
  exact ⟨bs, v, h1.keep hk hT, h2, fun k s => Nat.lt_of_lt_of_le (h3 k s) hk.size⟩
theorem Ars.new {w W : World} {p : Nat} {its : List It} {S : Nat → Prop} (h : Ars w p its S) (hk : Below w.heap.size w W) : Ars W p its S := h.keep (Keeps.of_new (S := fun _ => False) hk) (fun _ _ s => s)
theorem Ars.c1 {w : World} {p : Nat} {its : List It} {S : Nat → Prop} (h : Ars w p its S) : w.cell? ⟨p, 1, none⟩ = some (.int .i64 its.length) := by
  obtain ⟨bs, v, h1, h2, h3⟩ := h
  exact h1.c1
theorem ars_made (W : World) (T : TypeId) : Ars (W.alloc (.cells #[.slice none 0 0, .int .i64 0] T)) W.heap.size [] (fun k => k = W.heap.size) :=
  ⟨[], _, made_ar _ T W, rfl, fun k e => by rw [e]; simp⟩
theorem iadd_any {w : World} {p : Nat} {its : List It} {S : Nat → Prop} (h : Ars w p its S) (hn : its.length < 1048576) (k vl : ByteArray) (fl id di ge : Int) {n : Int} (hl : n = (its.length : Int) + 1) :
    Calls Tryz.prog 44 #[.pointer (some ⟨p, 0, none⟩), .agg #[.string k, .string vl, .int .u32 fl, .int .u64 id, .int .i64 di, .int .i64 ge]] w fun e w' => e = .returned (.tuple #[.int .i64 n, .int .i64 0]) ∧ ∃ S', Turn S S' w w' ∧ Ars w' p (its ++ [(k, vl, fl, id, di, ge)]) S' := by
  subst hl
  obtain ⟨bs, v, h1, h2, h3⟩ := h
  have lt' : ∀ {S' : Nat → Prop} {w' : World}, Turn S S' w w' → ∀ k, S' k → k < w'.heap.size := fun t k s => by
    rcases t.only k s with s | s
    · have := h3 k s; have := t.keeps.size; omega
    · exact s.2
  by_cases hm : its.length % 256 = 0
  · refine (iadd_new h1 h3 hn (by omega) k vl fl id di ge).mono ?_
    rintro e w' ⟨rfl, bs', v', S', t, q, hl⟩
    exact ⟨rfl, S', t, bs', v', q, by rw [hl, List.length_append, List.length_singleton]; omega, lt' t⟩
  · refine (iadd_in h1 hn hm (by omega) k vl fl id di ge).mono ?_
    rintro e w' ⟨rfl, bs', v', S', t, q, hl⟩
    exact ⟨rfl, S', t, bs', v', q, by rw [hl, List.length_append, List.length_singleton]; omega, lt' t⟩
theorem iat_any {w : World} {p : Nat} {its : List It} {S : Nat → Prop} (h : Ars w p its S) (i : Nat) (hi : (i : Int) < 2000000) {k vl : ByteArray} {fl id di ge : Int} (hx : its[i]? = some (k, vl, fl, id, di, ge)) {r : Int} (hr : r = (i : Int) + 1) :
    Calls Tryz.prog 35 #[.pointer (some ⟨p, 0, none⟩), .int .i64 r] w fun e w' => e = .returned (.tuple #[.agg #[.string k, .string vl, .int .u32 fl, .int .u64 id, .int .i64 di, .int .i64 ge], .bool true]) ∧ Below w.heap.size w w' := by
  subst hr
  obtain ⟨bs, v, h1, h2, h3⟩ := h
  exact iat_some h1 i hi hx
theorem iat_no {w : World} {p : Nat} {its : List It} {S : Nat → Prop} (h : Ars w p its S) (ref : Int) (hr : ref < 1 ∨ (its.length : Int) < ref) :
    Calls Tryz.prog 35 #[.pointer (some ⟨p, 0, none⟩), .int .i64 ref] w fun e w' => e = .returned (.tuple #[.agg #[.string ⟨#[]⟩, .string ⟨#[]⟩, .int .u32 0, .int .u64 0, .int .i64 0, .int .i64 0], .bool false]) ∧ Below w.heap.size w w' := iat_none ref _ p w h.c1 hr
theorem icount_any {w : World} {p : Nat} {its : List It} {S : Nat → Prop} (h : Ars w p its S) {n : Int} (hn : n = its.length) :
    Calls Tryz.prog 76 #[.pointer (some ⟨p, 0, none⟩)] w fun e w' => e = .returned (.int .i64 n) ∧ w = w' := by
  subst hn
  exact icount _ p w h.c1
end Go.Proofs.YtodppilfpemepaaGreat
/- Next: Records that came in, as a slice of structs of six cells. -/
namespace Go.Proofs.YtodppilfpemepaaGreat
open Go.RowKit
set_option linter.unusedVariables false
theorem list_of {Q : Nat → It → Prop} : ∀ m : Nat, (∀ i, i < m → ∃ x, Q i x) → ∃ L : List It, L.length = m ∧ ∀ (i : Nat) x, L[i]? = some x → Q i x
  | 0, _ => ⟨[], rfl, fun i x h => by simp at h⟩
  | m + 1, h => by
    obtain ⟨L, hl, hL⟩ := list_of m (fun i hi => h i (by omega))
    obtain ⟨x, hx⟩ := h m (by omega)
    refine ⟨L ++ [x], by simp [hl], fun i y hi => ?_⟩
    rcases Nat.lt_or_ge i L.length with hh | hh
    · rw [List.getElem?_append_left hh] at hi
      exact hL i y hi
    · rw [List.getElem?_append_right hh] at hi
      have hz : i - L.length = 0 := by
        rcases Nat.eq_zero_or_pos (i - L.length) with e | e
        · exact e
        · rw [List.getElem?_eq_none (by simp; omega)] at hi; simp at hi
      rw [hz] at hi
      simp at hi
      obtain rfl : i = m := by omega
      rw [← hi]
      exact hx
theorem reads_items {w : World} {t e : TypeId} {a : Option Addr} {len cap : Nat} (ht : Tryz.prog.underlying t = some (.slice e)) (hk : leaves Tryz.prog 9 e = some [.inr (.inl true), .inr (.inl true), .inl .u32, .inl .u64, .inl .i64, .inl .i64]) (hc : Tryz.prog.cellsOf e = 6) (h : Reads Tryz.prog w t (.slice a len cap)) :
    (a = none ∧ len = 0 ∧ cap = 0) ∨ ∃ b off, len ≤ cap ∧ cap ≤ maxLen ∧ (0 < cap → a = some ⟨b, off, none⟩) ∧ ∃ L : List It, L.length = len ∧ ∀ (i : Nat) x, L[i]? = some x → w.cell? ⟨b, off + i * 6, none⟩ = some (.string x.1) ∧ w.cell? ⟨b, off + i * 6 + 1, none⟩ = some (.string x.2.1) ∧ w.cell? ⟨b, off + i * 6 + 2, none⟩ = some (.int .u32 x.2.2.1) ∧ w.cell? ⟨b, off + i * 6 + 3, none⟩ = some (.int .u64 x.2.2.2.1) ∧ w.cell? ⟨b, off + i * 6 + 4, none⟩ = some (.int .i64 x.2.2.2.2.1) ∧ w.cell? ⟨b, off + i * 6 + 5, none⟩ = some (.int .i64 x.2.2.2.2.2) := by
  rcases Reads.slice ht hk h with h0 | ⟨b, off, sp, rfl, h1, h2, h3, h4⟩
  · exact .inl h0
  · refine .inr ⟨b, off, h1, h2, fun h => by rw [h3 h (by omega)], list_of len (fun i hi => ?_)⟩
    obtain ⟨l, hl, hll, hx⟩ := h4 i (by omega)
    obtain ⟨_, _, rfl, ⟨k, rfl, -⟩, g1⟩ := all2_cons hl
    obtain ⟨_, _, rfl, ⟨v, rfl, -⟩, g2⟩ := all2_cons g1
    obtain ⟨_, _, rfl, ⟨fl, rfl, -⟩, g3⟩ := all2_cons g2
    obtain ⟨_, _, rfl, ⟨id, rfl, -⟩, g4⟩ := all2_cons g3
    obtain ⟨_, _, rfl, ⟨di, rfl, -⟩, g5⟩ := all2_cons g4
    obtain ⟨_, _, rfl, ⟨ge, rfl, -⟩, g6⟩ := all2_cons g5
    obtain rfl := all2_nil g6
    rw [hc] at hx
    exact ⟨(k, v, fl, id, di, ge), hx 0 _ rfl, hx 1 _ rfl, hx 2 _ rfl, hx 3 _ rfl, hx 4 _ rfl, hx 5 _ rfl⟩
end Go.Proofs.YtodppilfpemepaaGreat
