/- Asked of the arena and of the chapter's: the contracts, and the lists that came in. -/
import Derived.Test.YtepkpbhhiianpaaGAr
import Derived.Test.YtepkpbhhiianpaaRa
import Derived.Deep.QuietTactic
import Derived.BigQuiet
namespace Go.Proofs.Ytepkpbhhiianpaa
open Go.RowKit
set_option linter.unusedVariables false

/-- Records lie in a row. -/
def Lay (w : World) (b off : Nat) (L : List It) : Prop := ∀ (i : Nat) x, L[i]? = some x → w.cell? ⟨b, off + i * 6, none⟩ = some (.string x.1) ∧ w.cell? ⟨b, off + i * 6 + 1, none⟩ = some (.string x.2.1) ∧ w.cell? ⟨b, off + i * 6 + 2, none⟩ = some (.int .u32 x.2.2.1) ∧ w.cell? ⟨b, off + i * 6 + 3, none⟩ = some (.int .u64 x.2.2.2.1) ∧ w.cell? ⟨b, off + i * 6 + 4, none⟩ = some (.int .i64 x.2.2.2.2.1) ∧ w.cell? ⟨b, off + i * 6 + 5, none⟩ = some (.int .i64 x.2.2.2.2.2)
theorem Lay.now {w wr : World} {b off N k : Nat} {L : List It} {xk xv : ByteArray} {x2 x3 x4 x5 : Int} (h : Lay w b off L) (hN : N = w.heap.size) (hb : Below N w wr) (hx : L[k]? = some (xk, xv, x2, x3, x4, x5)) :
    wr.cell? ⟨b, off + k * 6, none⟩ = some (.string xk) ∧ wr.cell? ⟨b, off + k * 6 + 1, none⟩ = some (.string xv) ∧ wr.cell? ⟨b, off + k * 6 + 2, none⟩ = some (.int .u32 x2) ∧ wr.cell? ⟨b, off + k * 6 + 3, none⟩ = some (.int .u64 x3) ∧ wr.cell? ⟨b, off + k * 6 + 4, none⟩ = some (.int .i64 x4) ∧ wr.cell? ⟨b, off + k * 6 + 5, none⟩ = some (.int .i64 x5) ∧ b < N := by
  obtain ⟨d0, d1, d2, d3, d4, d5⟩ := h k _ hx
  have hbN : b < N := by have := World.block_lt_of_cell? _ _ d0; rw [hN]; exact this
  exact ⟨(hb.cell (p := ⟨b, off + k * 6, none⟩) hbN).trans d0, (hb.cell (p := ⟨b, off + k * 6 + 1, none⟩) hbN).trans d1, (hb.cell (p := ⟨b, off + k * 6 + 2, none⟩) hbN).trans d2, (hb.cell (p := ⟨b, off + k * 6 + 3, none⟩) hbN).trans d3, (hb.cell (p := ⟨b, off + k * 6 + 4, none⟩) hbN).trans d4, (hb.cell (p := ⟨b, off + k * 6 + 5, none⟩) hbN).trans d5, hbN⟩
theorem take_one {L : List It} {k : Nat} {x : It} (h : L[k]? = some x) : L.take (k + 1) = L.take k ++ [x] := by
  have hk : k < L.length := by
    rcases Nat.lt_or_ge k L.length with h' | h'
    · exact h'
    · rw [List.getElem?_eq_none h'] at h; simp at h
  rw [List.take_succ_eq_append_getElem hk]
  rw [List.getElem?_eq_getElem hk] at h
  simp at h
  rw [h]
theorem reads_ints {w : World} {t e : TypeId} {a : Option Addr} {len cap : Nat} (ht : Try.prog.underlying t = some (.slice e)) (hk : leaves Try.prog 9 e = some [.inl .i64]) (hc : Try.prog.cellsOf e = 1) (h : Reads Try.prog w t (.slice a len cap)) :
    ∃ b off, (0 < len → len ≤ cap ∧ a = some ⟨b, off, none⟩) ∧ ∀ i, i < len → ∃ x : Int, w.cell? ⟨b, off + i, none⟩ = some (.int .i64 x) := by
  rcases Reads.slice ht hk h with ⟨_, rfl, _⟩ | ⟨b, off, sp, rfl, h1, h2, h3, h4⟩
  · exact ⟨0, 0, fun h => by omega, fun i hi => by omega⟩
  · refine ⟨b, off, fun h => ⟨h1, by rw [h3 (by omega) (by omega)]⟩, fun i hi => ?_⟩
    obtain ⟨l, hl, hll, hx⟩ := h4 i (by omega)
    obtain ⟨_, _, rfl, ⟨x, rfl, -⟩, g1⟩ := all2_cons hl
    obtain rfl := all2_nil g1
    rw [hc, Nat.mul_one] at hx
    exact ⟨x, hx 0 _ rfl⟩
end Go.Proofs.Ytepkpbhhiianpaa
