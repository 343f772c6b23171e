/- A text turned into bytes, and back: what stands in memory then. -/
import Derived.Test.YtbfokakglanbdaaLib
import Derived.Laws.IdiomStrings
import Derived.Lib.SmallJoins
namespace Go.Proofs.Ytbfokakglanbdaa
open Go.RowKit
set_option linter.unusedVariables false

/-- '[]byte(s)': new memory, that holds the bytes, and may be written. -/
theorem to_bytes {P : Program} (w : World) (src dst e : TypeId) (s : ByteArray) (hs : P.underlying src = some .string) (hd : P.underlying dst = some (.slice e)) (he : P.underlying e = some (.int .u8)) :
    ∃ (w' : World) (cap : Nat), (convert src dst (.string s)).run P w = .ok (.slice (some ⟨w.heap.size, 0, none⟩) s.size cap) w' ∧ Below w.heap.size w w' ∧ w.heap.size < w'.heap.size ∧ s.size ≤ cap ∧
      ∀ j (hj : j < s.size), w'.cell? ⟨w.heap.size, j, none⟩ = some (.int .u8 (s[j].toNat : Int)) ∧ w'.frozen? ⟨w.heap.size, j, none⟩ = false := by
  refine ⟨_, _, run_bytes_of_string w src dst e s hs hd he, ?_, ?_, grownCap_ge w s.size 0 e, fun j hj => ?_⟩
  · exact ((Below.refl _ _).drew).alloc (Nat.le_refl _) _
  · show w.heap.size < (w.heap.push _).size; simp
  · have hsz : (bytesRow s (grownCap w s.size 0 e)).size ≥ s.size := by
      simp [bytesRow]
    constructor
    · have hg := bytesRow_at s (grownCap w s.size 0 e) j (by simpa using hj)
      show (w.alloc _).cell? _ = _
      rw [World.cell?_alloc_mark, hg]
      rfl
    · show (w.alloc _).frozen? _ = _
      rw [World.frozen?_alloc_mark]
      simp; omega
theorem from_bytes {P : Program} (w : World) (src dst e : TypeId) (g cap n : Nat) (l : List UInt8) (hn : l.length = n) (hs : P.underlying src = some (.slice e)) (he : P.underlying e = some (.int .u8)) (hd : P.underlying dst = some .string)
    (hc : ∀ j (hj : j < l.length), w.cell? ⟨g, j, none⟩ = some (.int .u8 (l[j].toNat : Int))) :
    (convert src dst (.slice (some ⟨g, 0, none⟩) n cap)).run P w = .ok (.string ⟨l.toArray⟩) w := by
  subst hn
  exact run_convert_bytes_back w src dst e ⟨g, 0, none⟩ cap l hs he hd (fun j hj => by rw [Addr.add_lit]; simpa using hc j hj)
end Go.Proofs.Ytbfokakglanbdaa
