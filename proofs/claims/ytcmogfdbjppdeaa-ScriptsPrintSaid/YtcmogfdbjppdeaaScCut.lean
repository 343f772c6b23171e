/- Scripts: what is cut from a script's front; a feed. -/
import Derived.Test.YtcmogfdbjppdeaaBy
import Derived.Test.YtcmogfdbjppdeaaScMath
import Derived.Test.YtcmogfdbjppdeaaKeep
import Derived.Test.YtcmogfdbjppdeaaChecked
import Derived.OneCell
import Derived.BigRegion
import Derived.Deep.RegionHeld
import Derived.IntWalk
namespace Go.Proofs.Ytcmogfdbjppdeaa
open Go.RowKit
set_option linter.unusedVariables false

/-- The variable that a script stands in. -/
def Var (w : World) (p : Nat) (v : Value) : Prop := w.heap[p]? = some (.cells #[v] 44 (0, 0))
theorem cutw_lt (g off L n p : Nat) (w : World) (hb : Var w p (.slice (some ⟨g, off, none⟩) L L)) (hL : L ≤ 1048576) (h : n < L) :
    Calls Try.prog 17 #[.pointer (some ⟨p, 0, none⟩), .int .i64 n] w fun e w' => e = .returned (.slice (some ⟨g, off, none⟩) n n) ∧
      w' = w.drew.setCell ⟨p, 0, none⟩ (.slice (some ⟨g, off + n, none⟩) (L - n) (L - n)) := by
  have hc := cell_of_one hb
  have hf := free_of_one hb
  have h1 : min (n : Int) (L : Int) = (n : Int) := by omega
  have h2 : ¬ L = n := by omega
  clear hb
  go_enter Try.func17, Try.ntmps17
  go_wp2_with fail
  all_goals
    go_region
    all_goals
      go_wp2
      go_ret
      exact ⟨rfl, rfl⟩
theorem cutw_ge (g off L n p : Nat) (w : World) (hb : Var w p (.slice (some ⟨g, off, none⟩) L L)) (hL : L ≤ 1048576) (h : L ≤ n) :
    Calls Try.prog 17 #[.pointer (some ⟨p, 0, none⟩), .int .i64 n] w fun e w' => e = .returned (.slice (some ⟨g, off, none⟩) L L) ∧
      w' = w.drew.setCell ⟨p, 0, none⟩ (.slice (some ⟨g, off, none⟩) 0 0) := by
  have hc := cell_of_one hb
  have hf := free_of_one hb
  have h1 : min (n : Int) (L : Int) = (L : Int) := by omega
  clear hb
  go_enter Try.func17, Try.ntmps17
  go_wp2_with fail
  all_goals
    go_region
    all_goals
      go_wp2
      go_ret
      first
        | exact ⟨rfl, rfl⟩
        | (obtain rfl : n = L := by omega
           exact ⟨rfl, rfl⟩)
/-- The variable, with what is left in it. -/
def Left (w : World) (B p : Nat) (g : Nat) (l : List UInt8) : Prop := ∃ off, Var w p (.slice (some ⟨g, off, none⟩) l.length l.length) ∧ Rd w B (some ⟨g, off, none⟩) l ∧ B ≤ p
theorem Var.set {w : World} {p : Nat} {v : Value} (h : Var w p v) (u : Value) : Var (w.drew.setCell ⟨p, 0, none⟩ u) p u := one_setCell (w := w.drew) (v := v) (h : w.drew.heap[p]? = _)
theorem rd_set {w : World} {B p : Nat} {A : Option Addr} {l : List UInt8} (h : Rd w B A l) (hB : B ≤ p) (u : Value) : Rd (w.drew.setCell ⟨p, 0, none⟩ u) B A l :=
  h.keep fun g o hg => by rw [World.cell?_setCell_other]; · rfl
                          · intro e; injection e with e; omega
theorem set_keeps (w : World) (p : Nat) (u : Value) : Keeps (fun k => k = p) w (w.drew.setCell ⟨p, 0, none⟩ u) := ((Keeps.refl (fun k => k = p) w).drew).setCell (p := ⟨p, 0, none⟩) (.inl rfl) u
theorem set_below (w : World) (p : Nat) (u : Value) : Below p w (w.drew.setCell ⟨p, 0, none⟩ u) := ((Below.refl p w).drew).setCell (p := ⟨p, 0, none⟩) (Nat.le_refl _) u
theorem cutw (B g p n : Nat) (l : List UInt8) (w : World) (h : Left w B p g l) (hL : l.length ≤ 1048576) :
    Calls Try.prog 17 #[.pointer (some ⟨p, 0, none⟩), .int .i64 n] w fun e w' => ∃ off, e = .returned (.slice (some ⟨g, off, none⟩) (l.take n).length (l.take n).length) ∧ Rd w' B (some ⟨g, off, none⟩) (l.take n) ∧
      Left w' B p g (l.drop n) ∧ Keeps (fun k => k = p) w w' ∧ w'.heap.size = w.heap.size := by
  obtain ⟨off, hb, hr, hB⟩ := h
  rcases Nat.lt_or_ge n l.length with hn | hn
  · refine (cutw_lt g off l.length n p w hb hL hn).mono ?_
    rintro e w' ⟨rfl, rfl⟩
    have h1 : (l.take n).length = n := by simp; omega
    have h2 : (l.drop n).length = l.length - n := by simp
    refine ⟨off, by rw [h1], rd_set (hr.cut n) hB _, ⟨off + n, ?_, rd_set (hr.add n) hB _, hB⟩, set_keeps _ _ _, by simp [World.setCell]⟩
    rw [h2]
    exact hb.set _
  · refine (cutw_ge g off l.length n p w hb hL hn).mono ?_
    rintro e w' ⟨rfl, rfl⟩
    have h1 : l.take n = l := List.take_of_length_le hn
    have h2 : l.drop n = [] := List.drop_eq_nil_of_le hn
    rw [h1, h2]
    exact ⟨off, rfl, rd_set hr hB _, ⟨off, hb.set _, Rd.nil _ _ _, hB⟩, set_keeps _ _ _, by simp [World.setCell]⟩
theorem cutx (B g p n : Nat) (l M R : List UInt8) (w : World) (hM : M = l.take n) (hR : R = l.drop n) (h : Left w B p g l) (hL : l.length ≤ 1048576) :
    Calls Try.prog 17 #[.pointer (some ⟨p, 0, none⟩), .int .i64 n] w fun e w' => ∃ off, e = .returned (.slice (some ⟨g, off, none⟩) M.length M.length) ∧ Rd w' B (some ⟨g, off, none⟩) M ∧
      Left w' B p g R ∧ Keeps (fun k => k = p) w w' ∧ w'.heap.size = w.heap.size := by
  subst hM hR
  exact cutw B g p n l w h hL
end Go.Proofs.Ytcmogfdbjppdeaa
