/- Contracts of package items, in one: an arena of whatever records; the chapter's examples. -/
import Derived.Test.YtmdofhdjikapgaaArB
namespace Go.Proofs.Ytmdofhdjikapgaa
open Go.RowKit
set_option linter.unusedVariables false

/-- An arena with these records, that owns S. -/
def Ars (w : World) (p : Nat) (its : List It) (S : Nat → Prop) : Prop := ∃ bs v, IsAr 140 w p its bs v S ∧ bs.length = (its.length + 255) / 256 ∧ ∀ k, S k → k < w.heap.size
theorem Ars.keep {w W : World} {p : Nat} {its : List It} {S T : Nat → Prop} (h : Ars w p its S) (hk : Keeps T w W) (hT : ∀ k, S k → ¬ T k) : Ars W p its S := by
  obtain ⟨bs, v, h1, h2, h3⟩ := h
  exact ⟨bs, v, h1.keep hk hT, h2, fun k s => Nat.lt_of_lt_of_le (h3 k s) hk.size⟩
theorem Ars.new {w W : World} {p : Nat} {its : List It} {S : Nat → Prop} (h : Ars w p its S) (hk : Below w.heap.size w W) : Ars W p its S := h.keep (Keeps.of_new (S := fun _ => False) hk) (fun _ _ s => s)
theorem Ars.c1 {w : World} {p : Nat} {its : List It} {S : Nat → Prop} (h : Ars w p its S) : w.cell? ⟨p, 1, none⟩ = some (.int .i64 its.length) := by
  obtain ⟨bs, v, h1, h2, h3⟩ := h
  exact h1.c1
theorem ars_made (W : World) (T : TypeId) : Ars (W.alloc (.cells #[.slice none 0 0, .int .i64 0] T)) W.heap.size [] (fun k => k = W.heap.size) :=
  ⟨[], _, made_ar _ T W, rfl, fun k e => by rw [e]; simp⟩
theorem iadd_any {w : World} {p : Nat} {its : List It} {S : Nat → Prop} (h : Ars w p its S) (hn : its.length < 1048576) (k vl : ByteArray) (fl id di ge : Int) {n : Int} (hl : n = (its.length : Int) + 1) :
    Calls Try.prog 29 #[.pointer (some ⟨p, 0, none⟩), .agg #[.string k, .string vl, .int .u32 fl, .int .u64 id, .int .i64 di, .int .i64 ge]] w fun e w' => e = .returned (.tuple #[.int .i64 n, .int .i64 0]) ∧ ∃ S', Turn S S' w w' ∧ Ars w' p (its ++ [(k, vl, fl, id, di, ge)]) S' := by
  subst hl
  obtain ⟨bs, v, h1, h2, h3⟩ := h
  have lt' : ∀ {S' : Nat → Prop} {w' : World}, Turn S S' w w' → ∀ k, S' k → k < w'.heap.size := fun t k s => by
    rcases t.only k s with s | s
    · have := h3 k s; have := t.keeps.size; omega
    · exact s.2
  by_cases hm : its.length % 256 = 0
  · refine (iadd_new h1 h3 hn (by omega) k vl fl id di ge).mono ?_
    rintro e w' ⟨rfl, bs', v', S', t, q, hl⟩
    exact ⟨rfl, S', t, bs', v', q, by rw [hl, List.length_append, List.length_singleton]; omega, lt' t⟩
  · refine (iadd_in h1 hn hm (by omega) k vl fl id di ge).mono ?_
    rintro e w' ⟨rfl, bs', v', S', t, q, hl⟩
    exact ⟨rfl, S', t, bs', v', q, by rw [hl, List.length_append, List.length_singleton]; omega, lt' t⟩
theorem iat_any {w : World} {p : Nat} {its : List It} {S : Nat → Prop} (h : Ars w p its S) (i : Nat) (hi : (i : Int) < 2000000) {k vl : ByteArray} {fl id di ge : Int} (hx : its[i]? = some (k, vl, fl, id, di, ge)) {r : Int} (hr : r = (i : Int) + 1) :
    Calls Try.prog 30 #[.pointer (some ⟨p, 0, none⟩), .int .i64 r] w fun e w' => e = .returned (.tuple #[.agg #[.string k, .string vl, .int .u32 fl, .int .u64 id, .int .i64 di, .int .i64 ge], .bool true]) ∧ Below w.heap.size w w' := by
  subst hr
  obtain ⟨bs, v, h1, h2, h3⟩ := h
  exact iat_some h1 i hi hx
theorem iat_no {w : World} {p : Nat} {its : List It} {S : Nat → Prop} (h : Ars w p its S) (ref : Int) (hr : ref < 1 ∨ (its.length : Int) < ref) :
    Calls Try.prog 30 #[.pointer (some ⟨p, 0, none⟩), .int .i64 ref] w fun e w' => e = .returned (.tuple #[.agg #[.string ⟨#[]⟩, .string ⟨#[]⟩, .int .u32 0, .int .u64 0, .int .i64 0, .int .i64 0], .bool false]) ∧ Below w.heap.size w w' := iat_none ref _ p w h.c1 hr
theorem icount_any {w : World} {p : Nat} {its : List It} {S : Nat → Prop} (h : Ars w p its S) {n : Int} (hn : n = its.length) :
    Calls Try.prog 74 #[.pointer (some ⟨p, 0, none⟩)] w fun e w' => e = .returned (.int .i64 n) ∧ w = w' := by
  subst hn
  exact icount _ p w h.c1
end Go.Proofs.Ytmdofhdjikapgaa
