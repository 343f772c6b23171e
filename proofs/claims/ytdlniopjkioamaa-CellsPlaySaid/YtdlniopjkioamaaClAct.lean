/- Accesses that came in, as a slice of structs of four cells. -/
import Derived.Test.YtdlniopjkioamaaClNew
import Derived.Test.YtdlniopjkioamaaClW
import Derived.Test.YtdlniopjkioamaaOpen
namespace Go.Proofs.Ytdlniopjkioamaa
open Go.RowKit
set_option linter.unusedVariables false
theorem wf_u8_in {a : Int} (h : (Lit.int .u8 a).wf = true) : 0 ≤ a ∧ a ≤ 255 := by
  simp [Lit.wf, IntKind.min, IntKind.max, IntKind.signed, IntKind.bits] at h
  omega
theorem reads_acts {w : World} {t e : TypeId} {a : Option Addr} {len cap : Nat} (ht : Try.prog.underlying t = some (.slice e)) (hk : leaves Try.prog 9 e = some [.inl .u8, .inl .u64, .inl .u64, .inl .u64]) (hc : Try.prog.cellsOf e = 4) (h : Reads Try.prog w t (.slice a len cap)) :
    (a = none ∧ len = 0 ∧ cap = 0) ∨ ∃ b off, len ≤ cap ∧ cap ≤ maxLen ∧ (0 < cap → a = some ⟨b, off, none⟩) ∧ ∀ i, i < cap → ∃ k x v y : Int, (0 ≤ k ∧ k ≤ 255) ∧ isU x ∧ isU v ∧ isU y ∧ w.cell? ⟨b, off + i * 4, none⟩ = some (.int .u8 k) ∧ w.cell? ⟨b, off + i * 4 + 1, none⟩ = some (.int .u64 x) ∧ w.cell? ⟨b, off + i * 4 + 2, none⟩ = some (.int .u64 v) ∧ w.cell? ⟨b, off + i * 4 + 3, none⟩ = some (.int .u64 y) := by
  rcases Reads.slice ht hk h with h0 | ⟨b, off, sp, rfl, h1, h2, h3, h4⟩
  · exact .inl h0
  · refine .inr ⟨b, off, h1, h2, fun h => by rw [h3 h (by omega)], fun i hi => ?_⟩
    obtain ⟨l, hl, hll, hx⟩ := h4 i hi
    obtain ⟨_, _, rfl, ⟨k, rfl, q1⟩, g1⟩ := all2_cons hl
    obtain ⟨_, _, rfl, ⟨x, rfl, q2⟩, g2⟩ := all2_cons g1
    obtain ⟨_, _, rfl, ⟨v, rfl, q3⟩, g3⟩ := all2_cons g2
    obtain ⟨_, _, rfl, ⟨y, rfl, q4⟩, g4⟩ := all2_cons g3
    obtain rfl := all2_nil g4
    rw [hc] at hx
    exact ⟨k, x, v, y, wf_u8_in q1, wf_isU q2, wf_isU q3, wf_isU q4, hx 0 _ rfl, hx 1 _ rfl, hx 2 _ rfl, hx 3 _ rfl⟩
end Go.Proofs.Ytdlniopjkioamaa
