/- Arguments opened: bytes; words of 16 bits. -/
import Derived.Test.YtifbcejekdhnlaaDoorBy2
import Derived.Test.YtifbcejekdhnlaaDoorOpen
import Derived.Test.YtifbcejekdhnlaaDoorBits
import Derived.Test.YtifbcejekdhnlaaDoorChecked
namespace Go.Proofs.YtifbcejekdhnlaaDoor
open Go.RowKit
set_option linter.unusedVariables false

def byteAt (w : World) (a : Addr) : UInt8 := match w.cell? a with | some (.int _ m) => UInt8.ofNat m.toNat | _ => 0
theorem byteAt_of {w : World} {a : Addr} {m : Int} (h : w.cell? a = some (.int .u8 m)) (h0 : 0 ≤ m) (h1 : m ≤ 255) : w.cell? a = some (.int .u8 ((byteAt w a).toNat : Int)) := by
  have : ((byteAt w a).toNat : Int) = m := by
    unfold byteAt
    rw [h]
    show (((UInt8.ofNat m.toNat).toNat : Nat) : Int) = m
    rw [UInt8.toNat_ofNat']; omega
  rw [this]; exact h
theorem open_by {P : Program} {w : World} {t e : TypeId} {a : Option Addr} {n c : Nat} (ht : P.underlying t = some (.slice e)) (hk : leaves P 9 e = some [.inl .u8]) (hc : P.cellsOf e = 1) (h : Reads P w t (.slice a n c)) :
    ∃ L : List UInt8, L.length = n ∧ n ≤ c ∧ c ≤ maxLen ∧ (a = none → c = 0) ∧ Rd w w.heap.size a L := by
  rcases Reads.slice ht hk h with ⟨rfl, rfl, rfl⟩ | ⟨b, off, sp, rfl, h1, h2, h3, h4⟩
  · exact ⟨[], rfl, Nat.le_refl _, by simp [maxLen], fun _ => rfl, Rd.nil _ _ _⟩
  · refine ⟨(List.range n).map fun i => byteAt w ⟨b, off + i, none⟩, by simp, h1, h2, fun h => by simp at h, fun h0 => ?_⟩
    have hn : 0 < n := by simpa using h0
    have hcell : ∀ i, i < n → w.cell? ⟨b, off + i, none⟩ = some (.int .u8 ((byteAt w ⟨b, off + i, none⟩).toNat : Int)) := by
      intro i hi
      obtain ⟨l, hl, hll, hx⟩ := h4 i (by omega)
      obtain ⟨v, l', rfl, ⟨m, rfl, hw⟩, _⟩ := all2_cons hl
      have h := hx 0 (.int .u8 m) rfl
      rw [hc] at h
      obtain ⟨q0, q1⟩ := bounds_u8 hw
      exact byteAt_of (by simpa using h) q0 (by omega)
    have hsp : sp = none := h3 (by omega) (by omega)
    subst hsp
    exact ⟨b, off, rfl, World.block_lt_of_cell? _ _ (hcell 0 hn), fun j hj => by
      have hj' : j < n := by simpa using hj
      rw [hcell j hj']
      simp⟩
/-- Words of 16 bits: what is read at each place. -/
theorem open_w16 {P : Program} {w : World} {t e : TypeId} {a : Option Addr} {n c : Nat} (ht : P.underlying t = some (.slice e)) (hk : leaves P 9 e = some [.inl .u16]) (hc : P.cellsOf e = 1) (h : Reads P w t (.slice a n c)) :
    n ≤ c ∧ c ≤ maxLen ∧ (a = none → c = 0) ∧ (0 < n → ∃ g off, a = some ⟨g, off, none⟩ ∧ g < w.heap.size ∧ ∀ j, j < n → ∃ m : Nat, m ≤ 65535 ∧ w.cell? ⟨g, off + j, none⟩ = some (.int .u16 m)) := by
  rcases Reads.slice ht hk h with ⟨rfl, rfl, rfl⟩ | ⟨b, off, sp, rfl, h1, h2, h3, h4⟩
  · exact ⟨Nat.le_refl _, by simp [maxLen], fun _ => rfl, fun h => absurd h (by omega)⟩
  · refine ⟨h1, h2, fun h => by simp at h, fun hn => ?_⟩
    have hcell : ∀ i, i < n → ∃ m : Nat, m ≤ 65535 ∧ w.cell? ⟨b, off + i, none⟩ = some (.int .u16 m) := by
      intro i hi
      obtain ⟨l, hl, hll, hx⟩ := h4 i (by omega)
      obtain ⟨v, l', rfl, ⟨m, rfl, hw⟩, _⟩ := all2_cons hl
      have h := hx 0 (.int .u16 m) rfl
      rw [hc] at h
      obtain ⟨q0, q1⟩ := bounds_u16 hw
      exact ⟨m.toNat, by omega, by rw [Int.toNat_of_nonneg q0]; simpa using h⟩
    have hsp : sp = none := h3 (by omega) (by omega)
    subst hsp
    obtain ⟨m, _, h0⟩ := hcell 0 hn
    exact ⟨b, off, rfl, World.block_lt_of_cell? _ _ h0, hcell⟩
end Go.Proofs.YtifbcejekdhnlaaDoor
