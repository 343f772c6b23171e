/- Contracts of package items, in one: an arena of whatever records; the chapter's examples. -/
import Derived.Test.YteofbgbjibbdaabArB
namespace Go.Proofs.Yteofbgbjibbdaab
open Go.RowKit
set_option linter.unusedVariables false

/-- An arena with these records, that owns S. -/
def Ars (w : World) (p : Nat) (its : List It) (S : Nat → Prop) : Prop := ∃ bs v, IsAr 98 w p its bs v S ∧ bs.length = (its.length + 255) / 256 ∧ ∀ k, S k → k < w.heap.size
theorem Ars.keep {w W : World} {p : Nat} {its : List It} {S T : Nat → Prop} (h : Ars w p its S) (hk : Keeps T w W) (hT : ∀ k, S k → ¬ T k) : Ars W p its S := by
  obtain ⟨bs, v, h1, h2, h3⟩ := h
  exact ⟨bs, v, h1.keep hk hT, h2, fun k s => Nat.lt_of_lt_of_le (h3 k s) hk.size⟩
theorem Ars.new {w W : World} {p : Nat} {its : List It} {S : Nat → Prop} (h : Ars w p its S) (hk : Below w.heap.size w W) : Ars W p its S := h.keep (Keeps.of_new (S := fun _ => False) hk) (fun _ _ s => s)
theorem Ars.c1 {w : World} {p : Nat} {its : List It} {S : Nat → Prop} (h : Ars w p its S) : w.cell? ⟨p, 1, none⟩ = some (.int .i64 its.length) := by
  obtain ⟨bs, v, h1, h2, h3⟩ := h
  exact h1.c1
theorem ars_made (W : World) (T : TypeId) : Ars (W.alloc (.cells #[.slice none 0 0, .int .i64 0] T)) W.heap.size [] (fun k => k = W.heap.size) :=
  ⟨[], _, made_ar _ T W, rfl, fun k e => by rw [e]; simp⟩
theorem iadd_any {w : World} {p : Nat} {its : List It} {S : Nat → Prop} (h : Ars w p its S) (hn : its.length < 1048576) (k vl : ByteArray) (fl id di ge : Int) {n : Int} (hl : n = (its.length : Int) + 1) :
    Calls Try.prog 30 #[.pointer (some ⟨p, 0, none⟩), .agg #[.string k, .string vl, .int .u32 fl, .int .u64 id, .int .i64 di, .int .i64 ge]] w fun e w' => e = .returned (.tuple #[.int .i64 n, .int .i64 0]) ∧ ∃ S', Turn S S' w w' ∧ Ars w' p (its ++ [(k, vl, fl, id, di, ge)]) S' := by
  subst hl
  obtain ⟨bs, v, h1, h2, h3⟩ := h
  have lt' : ∀ {S' : Nat → Prop} {w' : World}, Turn S S' w w' → ∀ k, S' k → k < w'.heap.size := fun t k s => by
    rcases t.only k s with s | s
    · have := h3 k s; have := t.keeps.size; omega
    · exact s.2
  by_cases hm : its.length % 256 = 0
  · refine (iadd_new h1 h3 hn (by omega) k vl fl id di ge).mono ?_
    rintro e w' ⟨rfl, bs', v', S', t, q, hl⟩
    exact ⟨rfl, S', t, bs', v', q, by rw [hl, List.length_append, List.length_singleton]; omega, lt' t⟩
  · refine (iadd_in h1 hn hm (by omega) k vl fl id di ge).mono ?_
    rintro e w' ⟨rfl, bs', v', S', t, q, hl⟩
    exact ⟨rfl, S', t, bs', v', q, by rw [hl, List.length_append, List.length_singleton]; omega, lt' t⟩
theorem iat_any {w : World} {p : Nat} {its : List It} {S : Nat → Prop} (h : Ars w p its S) (i : Nat) (hi : (i : Int) < 2000000) {k vl : ByteArray} {fl id di ge : Int} (hx : its[i]? = some (k, vl, fl, id, di, ge)) {r : Int} (hr : r = (i : Int) + 1) :
    Calls Try.prog 34 #[.pointer (some ⟨p, 0, none⟩), .int .i64 r] w fun e w' => e = .returned (.tuple #[.agg #[.string k, .string vl, .int .u32 fl, .int .u64 id, .int .i64 di, .int .i64 ge], .bool true]) ∧ Below w.heap.size w w' := by
  subst hr
  obtain ⟨bs, v, h1, h2, h3⟩ := h
  exact iat_some h1 i hi hx
theorem iat_no {w : World} {p : Nat} {its : List It} {S : Nat → Prop} (h : Ars w p its S) (ref : Int) (hr : ref < 1 ∨ (its.length : Int) < ref) :
    Calls Try.prog 34 #[.pointer (some ⟨p, 0, none⟩), .int .i64 ref] w fun e w' => e = .returned (.tuple #[.agg #[.string ⟨#[]⟩, .string ⟨#[]⟩, .int .u32 0, .int .u64 0, .int .i64 0, .int .i64 0], .bool false]) ∧ Below w.heap.size w w' := iat_none ref _ p w h.c1 hr
theorem icount_any {w : World} {p : Nat} {its : List It} {S : Nat → Prop} (h : Ars w p its S) {n : Int} (hn : n = its.length) :
    Calls Try.prog 32 #[.pointer (some ⟨p, 0, none⟩)] w fun e w' => e = .returned (.int .i64 n) ∧ w = w' := by
  subst hn
  exact icount _ p w h.c1
set_option maxRecDepth 100000 in
set_option maxHeartbeats 1000000 in
theorem lives06 (w : World) : Calls Try.prog 28 #[] w fun e w' => e = .returned (.bool true) ∧ Below w.heap.size w w' := by
  go_enter Try.func28, Try.ntmps28
  go_wp2_with (go_at_call 29; refine (inew _).mono ?_; rintro e w1 ⟨rfl, rfl⟩)
  have hq := ars_made w 71
  have hb : Below w.heap.size w (w.alloc (.cells #[.slice none 0 0, .int .i64 0] 71)) := (Below.refl _ _).alloc (Nat.le_refl _) _
  have hs : ∀ k, k = w.heap.size → w.heap.size ≤ k := fun k e => by omega
  generalize w.alloc _ = W at hq hb ⊢
  have hz := hb.size
  have C1 := Lib.hid (iadd_any hq (by simp) ⟨#[97]⟩ ⟨#[]⟩ 0 0 0 0 (n := 1) rfl)
  have go_wp := True.intro
  have HQ := Lib.hid hq
  have HS := Lib.hid hs
  clear hq hs
  go_wp2_with fail
  refine (C1.out).mono ?_
  rintro e w2 ⟨rfl, S2, t2, q2⟩
  obtain ⟨b2, s2⟩ := t2.to_below HS.out hz
  replace b2 := hb.trans b2
  have hz2 := b2.size
  have C2 := Lib.hid (iadd_any q2 (by simp) ⟨#[98]⟩ ⟨#[]⟩ 0 0 0 0 (n := 2) rfl)
  have HS2 := Lib.hid s2
  clear C1 HQ HS hb hz t2 q2 s2
  go_wp2_with fail
  refine (C2.out).mono ?_
  rintro e w3 ⟨rfl, S3, t3, q3⟩
  obtain ⟨b3, s3⟩ := t3.to_below HS2.out hz2
  replace b3 := b2.trans b3
  have C3 := Lib.hid (iat_any q3 0 (by omega) rfl (r := 1) rfl)
  have HQ3 := Lib.hid q3
  clear C2 HS2 b2 hz2 t3 q3 s3
  go_wp2_with fail
  refine (C3.out).mono ?_
  rintro e w4 ⟨rfl, k4⟩
  replace b3 := below_then b3 k4
  have q4 := HQ3.out.new k4
  clear k4 HQ3 C3
  go_wp2_with fail
  generalize hX : World.alloc _ _ = X
  have kx : Below w4.heap.size w4 X := by rw [← hX]; exact (Below.refl _ _).alloc (Nat.le_refl _) _
  have sx : w4.heap.size < X.heap.size := by rw [← hX]; simp
  have x0 : X.cell? ⟨w4.heap.size, 0, none⟩ = some (.string ⟨#[97]⟩) := by rw [← hX]; simp
  replace b3 := below_then b3 kx
  have q5 := q4.new kx
  have C5 := Lib.hid (iat_no q5 0 (by omega))
  have HQ5 := Lib.hid q5
  clear hX kx q4 q5
  refine (C5.out).mono ?_
  rintro e w6 ⟨rfl, k6⟩
  replace b3 := below_then b3 k6
  replace x0 := (k6.cell (p := ⟨w4.heap.size, 0, none⟩) sx).trans x0
  have q6 := HQ5.out.new k6
  have s6 : w4.heap.size < w6.heap.size := by have := k6.size; omega
  clear k6 C5 HQ5
  have m6 := fun o => (World.cell?_alloc_lt w6 o ⟨w4.heap.size, 0, none⟩ s6).trans x0
  have y6 : ∀ o, Hid (Ars (w6.alloc o) _ _ _) := fun o => Lib.hid (q6.new ((Below.refl _ _).alloc (Nat.le_refl _) o))
  have C7 := fun o => Lib.hid (iat_no (y6 o).out 3 (.inr (by decide)))
  clear q6 x0
  go_wp2_with (go_at_call 34; ((with_reducible refine (C7 _).out.mono ?_); rintro e w7 ⟨rfl, k7⟩; have x7 := (k7.cell (p := ⟨w4.heap.size, 0, none⟩) (by simp; omega)).trans (m6 _); have q7 := (y6 _).out.new k7; have s7 : w4.heap.size < w7.heap.size := World.block_lt_of_cell? _ _ x7; have m7 := fun o => (World.cell?_alloc_lt w7 o ⟨w4.heap.size, 0, none⟩ s7).trans x7; have b7 := below_then (b3.trans (((Below.refl w6.heap.size w6).alloc (Nat.le_refl _) _).mono (by have := b3.size; omega))) (k7); have C8 := fun o => Lib.hid (icount_any (q7.new ((Below.refl _ _).alloc (Nat.le_refl _) o)) (n := 2) rfl); clear q7 k7 m6 C7 y6 b3))
  go_wp2_with (go_at_call 32; ((with_reducible refine (C8 _).out.mono ?_); rintro e w8 ⟨rfl, rfl⟩))
  go_ret
  exact ⟨rfl, b7.alloc (by have := b7.size; omega) _⟩
end Go.Proofs.Yteofbgbjibbdaab
