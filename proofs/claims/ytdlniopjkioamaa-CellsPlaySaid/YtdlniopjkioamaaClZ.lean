/- Cells that a call has made: contracts, with all their blocks from B on. -/
import Derived.Test.YtdlniopjkioamaaClN
namespace Go.Proofs.Ytdlniopjkioamaa
open Go.RowKit Go.Maps
set_option linter.unusedVariables false

/-- Cells whose blocks all lie from B on. -/
def Cls (w : World) (B p : Nat) (f : Int → Int) (cnt k a x y : Int) : Prop := ∃ (n : Nat) (S : Nat → Prop), Cel w p f cnt k a x y n S ∧ (∀ k, S k → B ≤ k ∧ k < w.heap.size) ∧ (n : Int) ≤ cnt + 1000000
/-- Behind a call: what was there below B is as it was; the cells. -/
def ClsPost (B : Nat) (w : World) (p : Nat) (f : Int → Int) (cnt k a x y : Int) (w' : World) : Prop := Below B w w' ∧ Cls w' B p f cnt k a x y
theorem AccPost.cls {w w' : World} {B p n : Nat} {f : Int → Int} {cnt k a x y : Int} {S : Nat → Prop} (h : AccPost w p f (cnt + 1) k a x y (n + 1) S w') (hS : ∀ k, S k → B ≤ k ∧ k < w.heap.size) (hn : (n : Int) ≤ cnt + 1000000) (hB : B ≤ w.heap.size) : ClsPost B w p f (cnt + 1) k a x y w' := by
  obtain ⟨S', t, q⟩ := h
  obtain ⟨b1, b2⟩ := t.to_below (fun k s => (hS k s).1) hB
  refine ⟨b1, n + 1, S', q, fun k s => ⟨b2 k s, ?_⟩, by omega⟩
  rcases t.only k s with s | s
  · have := t.keeps.size; have := (hS k s).2; omega
  · exact s.2
theorem Cls.keep {w w' : World} {B p : Nat} {f : Int → Int} {cnt k a x y : Int} (h : Cls w B p f cnt k a x y) (hb : Below w.heap.size w w') : Cls w' B p f cnt k a x y := by
  obtain ⟨n, S, q, hS, hn⟩ := h
  exact ⟨n, S, IsCells.keep q (Keeps.of_new (S := fun _ => False) hb) (fun _ _ s => s), fun k s => ⟨(hS k s).1, Nat.lt_of_lt_of_le (hS k s).2 hb.size⟩, hn⟩
section
variable {w : World} {B p : Nat} {f : Int → Int} {cnt k a0 x y a v u : Int}
theorem zload (h : Cls w B p f cnt k a0 x y) (hB : B ≤ w.heap.size) (ha : isU a) (hc0 : 0 ≤ cnt) (hc1 : cnt < 1000000000) (hu : f a = u) :
    Calls Try.prog 13 #[.pointer (some ⟨p, 0, none⟩), .int .u64 a] w fun e w' => e = .returned (.int .u64 u) ∧ ClsPost B w p f (cnt + 1) 1 a u u w' := by
  subst hu
  obtain ⟨n, S, q, hS, hn⟩ := h
  refine (load_any q ha (by omega) hc0 (by omega)).mono ?_
  rintro e w' ⟨rfl, hk⟩
  exact ⟨rfl, hk.cls hS hn hB⟩
theorem zstore (h : Cls w B p f cnt k a0 x y) (hB : B ≤ w.heap.size) (ha : isU a) (hv : isU v) (hc0 : 0 ≤ cnt) (hc1 : cnt < 1000000000) (hu : f a = u) :
    Calls Try.prog 12 #[.pointer (some ⟨p, 0, none⟩), .int .u64 a, .int .u64 v] w fun e w' => e = .returned (.int .u64 u) ∧ ClsPost B w p (upd f a v) (cnt + 1) 2 a u v w' := by
  subst hu
  obtain ⟨n, S, q, hS, hn⟩ := h
  refine (store_any q ha hv (by omega) hc0 (by omega)).mono ?_
  rintro e w' ⟨rfl, hk⟩
  exact ⟨rfl, hk.cls hS hn hB⟩
theorem zadd (h : Cls w B p f cnt k a0 x y) (hB : B ≤ w.heap.size) (ha : isU a) (hc0 : 0 ≤ cnt) (hc1 : cnt < 1000000000) (hu : f a = u) {z : Int} (hz : IntKind.u64.wrap (u + v) = z) :
    Calls Try.prog 15 #[.pointer (some ⟨p, 0, none⟩), .int .u64 a, .int .u64 v] w fun e w' => e = .returned (.int .u64 u) ∧ ClsPost B w p (upd f a z) (cnt + 1) 4 a u z w' := by
  subst hu hz
  obtain ⟨n, S, q, hS, hn⟩ := h
  refine (add_any q ha (by omega) hc0 (by omega)).mono ?_
  rintro e w' ⟨rfl, hk⟩
  exact ⟨rfl, hk.cls hS hn hB⟩
theorem zcas_hit (h : Cls w B p f cnt k a0 x y) (hB : B ≤ w.heap.size) (ha : isU a) (hv : isU v) (hc0 : 0 ≤ cnt) (hc1 : cnt < 1000000000) (hu : f a = u) :
    Calls Try.prog 14 #[.pointer (some ⟨p, 0, none⟩), .int .u64 a, .int .u64 u, .int .u64 v] w fun e w' => e = .returned (.tuple #[.int .u64 u, .bool true]) ∧ ClsPost B w p (upd f a v) (cnt + 1) 3 a u v w' := by
  subst hu
  obtain ⟨n, S, q, hS, hn⟩ := h
  refine (cas_any q (fun k s => (hS k s).2) ha hv (by omega) hc0 (by omega) (r := true) (by simp)).mono ?_
  rintro e w' ⟨rfl, hk⟩
  exact ⟨rfl, hk.cls hS hn hB⟩
theorem zcas_miss (h : Cls w B p f cnt k a0 x y) (hB : B ≤ w.heap.size) (ha : isU a) (hv : isU v) (hc0 : 0 ≤ cnt) (hc1 : cnt < 1000000000) (hu : f a = u) {z : Int} (hz : u ≠ z) :
    Calls Try.prog 14 #[.pointer (some ⟨p, 0, none⟩), .int .u64 a, .int .u64 z, .int .u64 v] w fun e w' => e = .returned (.tuple #[.int .u64 u, .bool false]) ∧ ClsPost B w p f (cnt + 1) 3 a u u w' := by
  subst hu
  obtain ⟨n, S, q, hS, hn⟩ := h
  refine (cas_any q (fun k s => (hS k s).2) ha hv (by omega) hc0 (by omega) (r := false) (beq_eq_false_iff_ne.2 hz)).mono ?_
  rintro e w' ⟨rfl, hk⟩
  have e1 : casI false v (f a) = f a := rfl
  rw [e1, upd_id] at hk
  exact ⟨rfl, hk.cls hS hn hB⟩
theorem zpeek (h : Cls w B p f cnt k a0 x y) (ha : isU a) (hu : f a = u) :
    Calls Try.prog 10 #[.pointer (some ⟨p, 0, none⟩), .int .u64 a] w fun e w' => e = .returned (.int .u64 u) ∧ w = w' := by
  subst hu
  obtain ⟨n, S, q, hS, hn⟩ := h
  exact peek_any q a ha
theorem zcount (h : Cls w B p f cnt k a0 x y) :
    Calls Try.prog 18 #[.pointer (some ⟨p, 0, none⟩)] w fun e w' => e = .returned (.int .i64 cnt) ∧ w = w' := by
  obtain ⟨n, S, q, hS, hn⟩ := h
  exact count_any q
theorem znew (w : World) : Calls Try.prog 5 #[.slice none 0 0] w fun e w' => e = .returned (.pointer (some ⟨w.heap.size, 0, none⟩)) ∧ ClsPost w.heap.size w w.heap.size (fun _ => 0) 0 0 0 0 0 w' := by
  refine (new_none w).mono ?_
  rintro e w' ⟨rfl, S, hS, hb, q⟩
  exact ⟨rfl, hb, 0, S, q, hS, by omega⟩
end
def one (a v : Int) : Int → Int := upd (fun _ => 0) a v
theorem one_at (a v : Int) : one a v a = v := upd_same _ _ _
theorem one_upd (a u v : Int) : upd (one a u) a v = one a v := by funext x; unfold one upd; split <;> rfl
theorem one_zero (a : Int) : ∀ x, isU x → one a 0 x = 0 := by intro x _; unfold one upd; split <;> rfl
end Go.Proofs.Ytdlniopjkioamaa
