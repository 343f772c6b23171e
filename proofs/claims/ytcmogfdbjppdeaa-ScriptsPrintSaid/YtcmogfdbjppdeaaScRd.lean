/- Scripts: lists of commands that are read. -/
import Derived.Test.YtcmogfdbjppdeaaScList
import Derived.Test.YtcmogfdbjppdeaaBy2
namespace Go.Proofs.Ytcmogfdbjppdeaa
open Go.RowKit
set_option linter.unusedVariables false

/-- A command whose cells stand at a place. -/
def RdAt (w : World) (B : Nat) (K : IntKind) (g o : Nat) (x : Cm) : Prop :=
  g < B ∧ w.cell? ⟨g, o, none⟩ = some (.int K x.1) ∧ w.cell? ⟨g, o + 1, none⟩ = some (.int .i64 x.2.1) ∧ ∃ ab cb, w.cell? ⟨g, o + 2, none⟩ = some (.slice ab x.2.2.length cb) ∧ x.2.2.length ≤ cb ∧ cb ≤ maxLen ∧ Rd w B ab x.2.2 ∧ (ab = none → cb = 0)
/-- A list of commands that reads so; its blocks are below B. -/
def RdC (w : World) (B : Nat) (K : IntKind) (a : Option Addr) (cs : List Cm) : Prop := 0 < cs.length → ∃ g off, a = some ⟨g, off, none⟩ ∧ ∀ i x, cs[i]? = some x → RdAt w B K g (off + i * 3) x
theorem RdAt.keep {w w' : World} {B : Nat} {K : IntKind} {g o : Nat} {x : Cm} (h : RdAt w B K g o x) (hk : ∀ g o, g < B → w'.cell? ⟨g, o, none⟩ = w.cell? ⟨g, o, none⟩) : RdAt w' B K g o x := by
  obtain ⟨h1, h2, h3, ab, cb, h4, h5, h6, h7, h8⟩ := h
  exact ⟨h1, (hk _ _ h1).trans h2, (hk _ _ h1).trans h3, ab, cb, (hk _ _ h1).trans h4, h5, h6, h7.keep hk, h8⟩
theorem RdC.keep {w w' : World} {B : Nat} {K : IntKind} {a : Option Addr} {cs : List Cm} (h : RdC w B K a cs) (hk : ∀ g o, g < B → w'.cell? ⟨g, o, none⟩ = w.cell? ⟨g, o, none⟩) : RdC w' B K a cs := fun h0 => by
  obtain ⟨g, off, e, hx⟩ := h h0
  exact ⟨g, off, e, fun i x hi => (hx i x hi).keep hk⟩
theorem RdC.below {w w' : World} {B B' : Nat} {K : IntKind} {a : Option Addr} {cs : List Cm} (h : RdC w B K a cs) (hb : Below B' w w') (hB : B ≤ B') : RdC w' B K a cs :=
  h.keep fun g o hg => hb.cell (p := ⟨g, o, none⟩) (Nat.lt_of_lt_of_le hg hB)
theorem RdC.mono {w : World} {B B' : Nat} {K : IntKind} {a : Option Addr} {cs : List Cm} (h : RdC w B K a cs) (hB : B ≤ B') : RdC w B' K a cs := fun h0 => by
  obtain ⟨g, off, e, hx⟩ := h h0
  refine ⟨g, off, e, fun i x hi => ?_⟩
  obtain ⟨h1, h2, h3, ab, cb, h4, h5, h6, h7, h8⟩ := hx i x hi
  exact ⟨by omega, h2, h3, ab, cb, h4, h5, h6, h7.mono hB, h8⟩
theorem RdC.nil (w : World) (B : Nat) (K : IntKind) (a : Option Addr) : RdC w B K a [] := fun h => absurd h (by simp)
theorem Cms.rd {w : World} {B : Nat} {T e : TypeId} {K : IntKind} {v : Value} {cs : List Cm} (h : Cms w B T e K v cs) : ∃ a c, v = .slice a cs.length c ∧ cs.length ≤ c ∧ c ≤ maxLen ∧ (a = none → c = 0) ∧ RdC w w.heap.size K a cs := by
  obtain ⟨a, c, rfl, h1, h2, h3⟩ := h.len
  refine ⟨a, c, rfl, h1, h2, h3, fun h0 => ?_⟩
  obtain ⟨g0, v0, e0, _⟩ := h.at_ 0 cs[0] (List.getElem?_eq_getElem h0)
  refine ⟨g0, 0, e0, fun i x hi => ?_⟩
  obtain ⟨g, v, e1, hB, hg, c0, c1, c2, hO⟩ := h.at_ i x hi
  rw [e0] at e1
  injection e1 with e1
  injection e1 with e1
  subst e1
  obtain ⟨ab, cb, rfl, r1, r2, r3, r4⟩ := hO.rd
  rw [Nat.zero_add]
  exact ⟨hg, c0, c1, ab, cb, c2, r1, r2, r3, r4⟩
/-- The cells of one that stands at a slice's place. -/
theorem RdC.at_ {w : World} {B : Nat} {K : IntKind} {g off : Nat} {cs : List Cm} (h : RdC w B K (some ⟨g, off, none⟩) cs) (i : Nat) (x : Cm) (hx : cs[i]? = some x) : RdAt w B K g (off + i * 3) x := by
  have hi : i < cs.length := by
    rcases Nat.lt_or_ge i cs.length with h | h
    · exact h
    · rw [List.getElem?_eq_none h] at hx; simp at hx
  obtain ⟨g', off', e, hh⟩ := h (by omega)
  injection e with e
  injection e with e1 e2
  subst e1 e2
  exact hh i x hx
end Go.Proofs.Ytcmogfdbjppdeaa
