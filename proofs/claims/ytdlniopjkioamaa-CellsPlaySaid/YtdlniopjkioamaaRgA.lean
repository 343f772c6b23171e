/- The chapter's cells of whatever words: accesses; New. -/
import Derived.Test.YtdlniopjkioamaaRgPut
namespace Go.Proofs.Ytdlniopjkioamaa
open Go.RowKit
set_option linter.unusedVariables false

section
variable {w : World} {r : Nat} {L : List (Int × Int)} {cnt kk a0 x y : Int} {T : Nat → Prop}
theorem Rg.after {w w1 : World} (h : Rg w r L cnt kk a0 x y T) (hb : Below w.heap.size w w1) : Rg w1 r L cnt kk a0 x y T := h.keep (S := fun _ => False) (Keeps.of_new hb) (fun _ _ s => s)
theorem drewN_below (w : World) (n : Nat) : Below w.heap.size w (w.drewN n) := belowN (Below.refl _ _) n
theorem RPost.after {w w1 w' : World} {M : List (Int × Int)} {cnt' k' a' x' y' : Int} (hb : Below w.heap.size w w1) (h : RPost w1 r M cnt' k' a' x' y' T w') : RPost w r M cnt' k' a' x' y' T w' := by
  obtain ⟨T', t, g⟩ := h
  exact ⟨T', Turn.after hb t, g⟩
theorem RPost.new {w w1 w' : World} {M : List (Int × Int)} {cnt' k' a' x' y' : Int} (h : RPost w r M cnt' k' a' x' y' T w1) (hb : Below w1.heap.size w1 w') : RPost w r M cnt' k' a' x' y' T w' := by
  obtain ⟨T', t, g⟩ := h
  exact ⟨T', t.new hb, g.after hb⟩
/-- What the five stores of an access leave. -/
theorem Rg.told (h : Rg w r L cnt kk a0 x y T) (c k a u v : Int) : Rg (((((w.setCell ⟨r, 1, none⟩ (.int .i64 c)).setCell ⟨r, 2, none⟩ (.int .u8 k)).setCell ⟨r, 3, none⟩ (.int .u64 a)).setCell ⟨r, 4, none⟩ (.int .u64 u)).setCell ⟨r, 5, none⟩ (.int .u64 v)) r L c k a u v T ∧
    Keeps (fun j => j = r) w (((((w.setCell ⟨r, 1, none⟩ (.int .i64 c)).setCell ⟨r, 2, none⟩ (.int .u8 k)).setCell ⟨r, 3, none⟩ (.int .u64 a)).setCell ⟨r, 4, none⟩ (.int .u64 u)).setCell ⟨r, 5, none⟩ (.int .u64 v)) := by
  obtain ⟨⟨v0, h0, hl⟩, h1, h2, h3, h4, h5, hf, ht, hlt⟩ := h
  have hk : Keeps (fun j => j = r) w (((((w.setCell ⟨r, 1, none⟩ (.int .i64 c)).setCell ⟨r, 2, none⟩ (.int .u8 k)).setCell ⟨r, 3, none⟩ (.int .u64 a)).setCell ⟨r, 4, none⟩ (.int .u64 u)).setCell ⟨r, 5, none⟩ (.int .u64 v)) :=
    (((((Keeps.refl (fun j => j = r) w).setCell (p := ⟨r, 1, none⟩) (.inl rfl) _).setCell (p := ⟨r, 2, none⟩) (.inl rfl) _).setCell (p := ⟨r, 3, none⟩) (.inl rfl) _).setCell (p := ⟨r, 4, none⟩) (.inl rfl) _).setCell (p := ⟨r, 5, none⟩) (.inl rfl) _
  have o := fun (W : World) (i j : Nat) (hj : j ≠ i) (z : Value) => World.cell?_setCell_other W ⟨r, i, none⟩ ⟨r, j, none⟩ z (by intro e; injection e with _ e; exact hj e.symm)
  have s := fun (W : World) (i : Nat) (z q : Value) (hq : W.cell? ⟨r, i, none⟩ = some q) => World.cell?_setCell_same W ⟨r, i, none⟩ z hq
  have fz : ∀ (W : World) (p q : Addr) (z : Value), (W.setCell p z).frozen? q = W.frozen? q := fun W p q z => World.frozen?_setCell _ _ _ _
  refine ⟨⟨⟨v0, ?_, ?_⟩, ?_, ?_, ?_, ?_, ?_, fun j hj => ?_, ht, fun j hj => ?_⟩, hk⟩
  · rw [o _ 5 0 (by decide), o _ 4 0 (by decide), o _ 3 0 (by decide), o _ 2 0 (by decide), o _ 1 0 (by decide)]; exact h0
  · rcases hl with hl | ⟨g, cap, e1, e2, e3, e4, e5, e6⟩
    · exact .inl hl
    · by_cases hg : g = r
      · subst hg
        refine .inr ⟨g, cap, e1, e2, Nat.lt_of_lt_of_le e3 hk.size, e4, e5, fun i z hz => ?_⟩
        have q := (e6 i z hz).1
        match i, hz, q with
        | 0, hz, q => rw [Nat.zero_mul, h0, e1] at q; simp at q
        | 1, hz, q =>
          have hz0 : ∃ z0, L[0]? = some z0 := by
            cases L with
            | nil => simp at hz
            | cons b r => exact ⟨b, rfl⟩
          obtain ⟨z0, hz0⟩ := hz0
          have q0 := (e6 0 z0 hz0).1
          rw [Nat.zero_mul, h0, e1] at q0; simp at q0
        | i + 2, hz, q =>
          have hz0 : ∃ z0, L[0]? = some z0 := by
            cases L with
            | nil => simp at hz
            | cons b r => exact ⟨b, rfl⟩
          obtain ⟨z0, hz0⟩ := hz0
          have q0 := (e6 0 z0 hz0).1
          rw [Nat.zero_mul, h0, e1] at q0; simp at q0
      · exact .inr ⟨g, cap, e1, e2, Nat.lt_of_lt_of_le e3 hk.size, e4, e5, fun i z hz => ⟨hk.cell (p := ⟨g, i * 2, none⟩) hg (e6 i z hz).1, hk.cell (p := ⟨g, i * 2 + 1, none⟩) hg (e6 i z hz).2⟩⟩
  · rw [o _ 5 1 (by decide), o _ 4 1 (by decide), o _ 3 1 (by decide), o _ 2 1 (by decide)]; exact s _ _ _ _ h1
  · rw [o _ 5 2 (by decide), o _ 4 2 (by decide), o _ 3 2 (by decide)]; exact s _ _ _ _ (by rw [o _ 1 2 (by decide)]; exact h2)
  · rw [o _ 5 3 (by decide), o _ 4 3 (by decide)]; exact s _ _ _ _ (by rw [o _ 2 3 (by decide), o _ 1 3 (by decide)]; exact h3)
  · rw [o _ 5 4 (by decide)]; exact s _ _ _ _ (by rw [o _ 3 4 (by decide), o _ 2 4 (by decide), o _ 1 4 (by decide)]; exact h4)
  · exact s _ _ _ _ (by rw [o _ 4 5 (by decide), o _ 3 5 (by decide), o _ 2 5 (by decide), o _ 1 5 (by decide)]; exact h5)
  · rw [fz, fz, fz, fz, fz]; exact hf j hj
  · exact Nat.lt_of_lt_of_le (hlt j hj) hk.size
set_option maxHeartbeats 2000000 in
set_option maxRecDepth 100000 in
theorem rg_access (h : Rg w r L cnt kk a0 x y T) (hL : L.length ≤ 1000000000) (hc0 : 0 ≤ cnt) (hc1 : cnt < 1000000000000) (k a v : Int) :
    Calls Try.prog 38 #[.pointer (some ⟨r, 0, none⟩), .int .u8 k, .int .u64 a, .int .u64 v] w fun e w' => e = .returned (.int .u64 (peekL L a)) ∧ RPost w r (putL L a v) (cnt + 1) k a (peekL L a) v T w' := by
  have C1 := Lib.hid (rg_peek h a)
  have C2 := Lib.hid (fun n => rg_put (h.after (drewN_below w n)) hL a v)
  have hadd : IntKind.i64.wrap (cnt + 1) = cnt + 1 := IntWalk.i64_in _ (by omega)
  clear h
  generalize peekL L a = u at C1 ⊢
  go_enter Try.func38, Try.ntmps38
  go_wp2_with (first
    | (go_at_call 11; ((with_reducible refine C1.out.mono ?_); rintro e w1 ⟨rfl, n, rfl⟩))
    | (go_at_call 20; ((with_reducible refine (C2.out _).mono ?_); rintro e w1 ⟨rfl, T', ht, hu⟩; obtain ⟨⟨c0, -, -⟩, c1, c2, c3, c4, c5, fz, -, -⟩ := id hu; have f1 := fz 1 (by decide); have f2 := fz 2 (by decide); have f3 := fz 3 (by decide); have f4 := fz 4 (by decide); have f5 := fz 5 (by decide); have HU := Lib.hid hu; have HT := Lib.hid ht; clear C1 C2 hu ht fz c0)))
  go_ret
  obtain ⟨g, hk⟩ := HU.out.told (cnt + 1) k a u v
  exact ⟨rfl, T', Turn.after (drewN_below w _) (HT.out.trans ⟨hk.mono (fun j _ e => by subst e; exact HU.out.tr), fun j s => .inl s⟩), g⟩
end
end Go.Proofs.Ytdlniopjkioamaa
