/- Scripts: arguments, opened: bytes; commands. -/
import Derived.Test.YtcmogfdbjppdeaaScRd
import Derived.Test.YtcmogfdbjppdeaaOpen
import Derived.Test.YtcmogfdbjppdeaaBits
import Derived.Test.YtcmogfdbjppdeaaChecked
namespace Go.Proofs.Ytcmogfdbjppdeaa
open Go.RowKit
set_option linter.unusedVariables false

def byteAt (w : World) (a : Addr) : UInt8 := match w.cell? a with | some (.int _ m) => UInt8.ofNat m.toNat | _ => 0
theorem byteAt_of {w : World} {a : Addr} {m : Int} (h : w.cell? a = some (.int .u8 m)) (h0 : 0 ≤ m) (h1 : m ≤ 255) : w.cell? a = some (.int .u8 ((byteAt w a).toNat : Int)) := by
  have : ((byteAt w a).toNat : Int) = m := by
    unfold byteAt
    rw [h]
    show (((UInt8.ofNat m.toNat).toNat : Nat) : Int) = m
    rw [UInt8.toNat_ofNat']; omega
  rw [this]; exact h
theorem open_by {P : Program} {w : World} {t e : TypeId} {a : Option Addr} {n c : Nat} (ht : P.underlying t = some (.slice e)) (hk : leaves P 9 e = some [.inl .u8]) (hc : P.cellsOf e = 1) (h : Reads P w t (.slice a n c)) :
    ∃ L : List UInt8, L.length = n ∧ n ≤ c ∧ c ≤ maxLen ∧ (a = none → c = 0) ∧ Rd w w.heap.size a L := by
  rcases Reads.slice ht hk h with ⟨rfl, rfl, rfl⟩ | ⟨b, off, sp, rfl, h1, h2, h3, h4⟩
  · exact ⟨[], rfl, Nat.le_refl _, by simp [maxLen], fun _ => rfl, Rd.nil _ _ _⟩
  · refine ⟨(List.range n).map fun i => byteAt w ⟨b, off + i, none⟩, by simp, h1, h2, fun h => by simp at h, fun h0 => ?_⟩
    have hn : 0 < n := by simpa using h0
    have hcell : ∀ i, i < n → w.cell? ⟨b, off + i, none⟩ = some (.int .u8 ((byteAt w ⟨b, off + i, none⟩).toNat : Int)) := by
      intro i hi
      obtain ⟨l, hl, hll, hx⟩ := h4 i (by omega)
      obtain ⟨v, l', rfl, ⟨m, rfl, hw⟩, _⟩ := all2_cons hl
      have h := hx 0 (.int .u8 m) rfl
      rw [hc] at h
      obtain ⟨q0, q1⟩ := bounds_u8 hw
      exact byteAt_of (by simpa using h) q0 (by omega)
    have hsp : sp = none := h3 (by omega) (by omega)
    subst hsp
    exact ⟨b, off, rfl, World.block_lt_of_cell? _ _ (hcell 0 hn), fun j hj => by
      have hj' : j < n := by simpa using hj
      rw [hcell j hj']
      simp⟩
/-- The command at a place. -/
def cmdAt (w : World) (b o : Nat) : Cm :=
  (match w.cell? ⟨b, o, none⟩ with | some (.int _ m) => m | _ => 0, match w.cell? ⟨b, o + 1, none⟩ with | some (.int _ m) => m | _ => 0,
   match w.cell? ⟨b, o + 2, none⟩ with | some (.slice (some a) n _) => (List.range n).map (fun i => byteAt w (a.add i)) | _ => [])
theorem open_cmds {P : Program} {w : World} {t e tb eb : TypeId} {a : Option Addr} {n c : Nat} (ht : P.underlying t = some (.slice e)) (hk : leaves P 9 e = some [.inl .u8, .inl .i64, .inr (.inr tb)]) (hc : P.cellsOf e = 3)
    (htb : P.underlying tb = some (.slice eb)) (hkb : leaves P 9 eb = some [.inl .u8]) (hcb : P.cellsOf eb = 1) (h : Reads P w t (.slice a n c)) :
    ∃ cs : List Cm, cs.length = n ∧ n ≤ c ∧ c ≤ maxLen ∧ (a = none → c = 0) ∧ RdC w w.heap.size .u8 a cs ∧ ∀ x ∈ cs, 0 ≤ x.1 ∧ x.1 ≤ 255 := by
  rcases Reads.slice ht hk h with ⟨rfl, rfl, rfl⟩ | ⟨b, off, sp, rfl, h1, h2, h3, h4⟩
  · exact ⟨[], rfl, Nat.le_refl _, by simp [maxLen], fun _ => rfl, RdC.nil _ _ _ _, fun x h => by simp at h⟩
  · have hcell : ∀ i, i < n → RdAt w w.heap.size .u8 b (off + i * 3) (cmdAt w b (off + i * 3)) ∧ 0 ≤ (cmdAt w b (off + i * 3)).1 ∧ (cmdAt w b (off + i * 3)).1 ≤ 255 := by
      intro i hi
      obtain ⟨l, hl, hll, hx⟩ := h4 i (by omega)
      obtain ⟨v0, l0, rfl, ⟨m, rfl, hw⟩, e0⟩ := all2_cons hl
      obtain ⟨v1, l1, rfl, ⟨m1, rfl, hw1⟩, e1⟩ := all2_cons e0
      obtain ⟨v2, l2, rfl, ⟨ab, nb, cb, rfl, hb⟩, e2⟩ := all2_cons e1
      rw [hc] at hx
      have x0 := hx 0 (.int .u8 m) rfl
      have x1 := hx 1 (.int .i64 m1) rfl
      have x2 := hx 2 (.slice ab nb cb) rfl
      rw [Nat.add_zero] at x0
      rw [← Nat.add_assoc] at x1 x2
      obtain ⟨L, hL, k1, k2, k3, k4⟩ := open_by htb hkb hcb hb
      obtain ⟨q0, q1⟩ := bounds_u8 hw
      have hbs : (cmdAt w b (off + i * 3)).2.2 = L := by
        unfold cmdAt
        simp only [x2]
        cases ab with
        | none =>
          have : nb = 0 := by have := k3 rfl; omega
          subst this
          simp at hL
          simp [hL]
        | some ad =>
          apply List.ext_getElem
          · simp [hL]
          · intro j hj1 hj2
            obtain ⟨g', off', e', _, hcc⟩ := k4 (by omega)
            injection e' with e'
            subst e'
            simp only [List.getElem_map, List.getElem_range]
            have hcj := hcc j hj2
            unfold byteAt
            rw [Addr.add_lit, hcj]
            show UInt8.ofNat ((L[j].toNat : Int)).toNat = L[j]
            simp
      have hz0 : (cmdAt w b (off + i * 3)).1 = m := by unfold cmdAt; simp only [x0]
      have hz1 : (cmdAt w b (off + i * 3)).2.1 = m1 := by unfold cmdAt; simp only [x1]
      refine ⟨⟨World.block_lt_of_cell? _ _ x0, by rw [hz0]; exact x0, by rw [hz1]; exact x1, ab, cb, by rw [hbs, hL]; exact x2, by rw [hbs, hL]; exact k1, k2, by rw [hbs]; exact k4, k3⟩, by rw [hz0]; exact q0, by rw [hz0]; omega⟩
    refine ⟨(List.range n).map fun i => cmdAt w b (off + i * 3), by simp, h1, h2, fun h => by simp at h, fun h0 => ?_, fun x hx => ?_⟩
    · have hn : 0 < n := by simpa using h0
      have hsp : sp = none := h3 (by omega) (by omega)
      subst hsp
      refine ⟨b, off, rfl, fun i x hi => ?_⟩
      have hi' : i < n := by
        rcases Nat.lt_or_ge i n with h | h
        · exact h
        · rw [List.getElem?_eq_none (by simpa using h)] at hi; simp at hi
      simp [hi'] at hi
      subst hi
      exact (hcell i hi').1
    · simp at hx
      obtain ⟨i, hi, rfl⟩ := hx
      exact (hcell i hi).2
end Go.Proofs.Ytcmogfdbjppdeaa
