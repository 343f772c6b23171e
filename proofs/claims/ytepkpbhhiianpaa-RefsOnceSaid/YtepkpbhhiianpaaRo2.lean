/- What came in to RefsOnce; what holds ahead of each step. -/
import Derived.Test.YtepkpbhhiianpaaRo
import Derived.Test.YtepkpbhhiianpaaOpen
namespace Go.Proofs.Ytepkpbhhiianpaa
open Go.RowKit Go.Maps
set_option linter.unusedVariables false
theorem reads_bytesR {w : World} {t e : TypeId} {a : Option Addr} {len cap : Nat} (ht : Try.prog.underlying t = some (.slice e)) (hk : leaves Try.prog 9 e = some [.inl .u8]) (hc : Try.prog.cellsOf e = 1) (h : Reads Try.prog w t (.slice a len cap)) :
    len ≤ 9223372036854775807 ∧ ∃ b off, (0 < len → len ≤ cap ∧ a = some ⟨b, off, none⟩) ∧ ∀ i, i < len → ∃ n : Int, (0 ≤ n ∧ n ≤ 255) ∧ w.cell? ⟨b, off + i, none⟩ = some (.int .u8 n) := by
  rcases Reads.slice ht hk h with ⟨_, rfl, _⟩ | ⟨b, off, sp, rfl, h1, h2, h3, h4⟩
  · exact ⟨by omega, 0, 0, fun h => by omega, fun i hi => by omega⟩
  · refine ⟨by unfold maxLen at h2; omega, b, off, fun h => ⟨h1, by rw [h3 (by omega) (by omega)]⟩, fun i hi => ?_⟩
    obtain ⟨l, hl, hll, hx⟩ := h4 i (by omega)
    obtain ⟨_, _, rfl, ⟨n, rfl, hw⟩, g0⟩ := all2_cons hl
    obtain rfl := all2_nil g0
    rw [hc] at hx
    have b0 := bounds_u8 hw
    exact ⟨n, by omega, by simpa using hx 0 _ rfl⟩
theorem WdG.storeR {G : Nat → Prop} {w : World} {A : Ad} {V : Wv} (h : WdG G w A V) {a v : Int} (ha : isU a) (hv : isU v) (hc : V.cnt < 1000000000) :
    Calls Try.prog 10 #[.pointer (some ⟨A.pc, 0, none⟩), .int .u64 a, .int .u64 v] w fun e w' => e = .returned (.int .u64 (V.f a)) ∧ WdG G w' A (V.acc (upd V.f a v) 2 a (V.f a) v) ∧ Kp G w w' := by
  obtain ⟨S, h1, h2, h3⟩ := h
  refine (wstore h1 ha hv hc).mono ?_
  rintro e' w' ⟨he, hp⟩
  obtain ⟨a, b⟩ := WdG.post h2 h3 hp
  exact ⟨he, a, b⟩
/-- What holds ahead of each step. -/
def RoR (G : Nat → Prop) (B : Nat) (W X : World) (A : Ad) (m : Int) (AL LO HA : Nat) (taken : Bool) (sets : Int) (i : Nat) (first : Int) : Prop := ∃ (V : Wv) (qs : Nat → Option Nat) (wd lf : Nat → Int) (dn hs : Nat → Bool), RoS G X A V m AL LO HA qs wd lf dn hs ∧ RoN V.f m qs wd lf dn taken sets i first ∧ (∀ k, k < 8 → hs k = (qs k).isSome) ∧ V.cnt ≤ 10 + 3 * i ∧ Kp (fun k => k < B) W X
/-- The same, with the mark's word by name. -/
def RoV (G : Nat → Prop) (B : Nat) (W X : World) (A : Ad) (m : Int) (AL LO HA : Nat) (taken : Bool) (sets : Int) (i : Nat) (first v : Int) : Prop := ∃ (V : Wv) (qs : Nat → Option Nat) (wd lf : Nat → Int) (dn hs : Nat → Bool), RoS G X A V m AL LO HA qs wd lf dn hs ∧ RoN V.f m qs wd lf dn taken sets i first ∧ (∀ k, k < 8 → hs k = (qs k).isSome) ∧ V.cnt ≤ 10 + 3 * i ∧ Kp (fun k => k < B) W X ∧ V.f m = v
section
variable {G : Nat → Prop} {B : Nat} {W X Y : World} {A : Ad} {m : Int} {AL LO HA : Nat} {taken taken' : Bool} {sets sets' : Int} {i : Nat} {first : Int}
theorem RoR.new (h : RoR G B W X A m AL LO HA taken sets i first) (hb : Below X.heap.size X Y) : RoR G B W Y A m AL LO HA taken sets i first := by
  obtain ⟨V, qs, wd, lf, dn, hs, h1, h2, h3, h4, h5⟩ := h
  exact ⟨V, qs, wd, lf, dn, hs, h1.new hb, h2, h3, h4, Kp.to h5 (Kp.of hb)⟩
theorem RoR.le (h : RoR G B W X A m AL LO HA taken sets i first) : RoR G B W X A m AL LO HA taken sets (i + 1) first := by
  obtain ⟨V, qs, wd, lf, dn, hs, h1, h2, h3, h4, h5⟩ := h
  exact ⟨V, qs, wd, lf, dn, hs, h1, h2.le, h3, by omega, h5⟩
/-- What is told of the mark, and of CellSweep. -/
theorem RoR.peek (h : RoR G B W X A m AL LO HA taken sets i first) (hm : isU m) : ∃ v sw, (isU v ∧ sets = v % 2 ∧ first ≤ v ∧ v ≤ first + i) ∧ (sw = 0 ∨ sw = 1) ∧ (taken = true → v % 2 = 0) ∧ X.cell? ⟨A.p, 0, none⟩ = some (.pointer (some ⟨A.pc, 0, none⟩)) ∧
    (∀ Z, Below X.heap.size X Z → Calls Try.prog 12 #[.pointer (some ⟨A.pc, 0, none⟩), .int .u64 m] Z fun e w' => e = .returned (.int .u64 v) ∧ Z = w') ∧
    (∀ Z, Below X.heap.size X Z → Calls Try.prog 12 #[.pointer (some ⟨A.pc, 0, none⟩), .int .u64 5] Z fun e w' => e = .returned (.int .u64 sw) ∧ Z = w') ∧
    (∀ Z, Below X.heap.size X Z → ∀ x v', isU v' → (x = 5 ∧ (v' = 0 ∨ v' = 1)) ∨ (x = m ∧ v' = v + 1 ∧ sw = 1 ∧ v % 2 = 1) → m ≠ 5 → (G AL ∧ G LO ∧ G HA) → (∀ k, k < B → G k) → i ≤ 1000 →
      Calls Try.prog 10 #[.pointer (some ⟨A.pc, 0, none⟩), .int .u64 x, .int .u64 v'] Z fun e w' => (∃ u, e = .returned (.int .u64 u)) ∧ RoR G B W w' A m AL LO HA (if x = 5 then (if v' = 0 then false else taken) else true) (if x = 5 then sets else 0) (i + 1) first) ∧ RoV G B W X A m AL LO HA taken sets i first v := by
  obtain ⟨V, qs, wd, lf, dn, hs, h1, h2, h3, h4, h5⟩ := h
  refine ⟨V.f m, V.f 5, ⟨h1.wdg.rng hm, h2.sets, h2.rng.1, h2.rng.2⟩, h2.sw, fun t => (h2.taken t).2.1, h1.wdg.box.c0, fun Z hb => gpeek (h1.wdg.new hb) hm, fun Z hb => gpeek (h1.wdg.new hb) ⟨by decide, by decide⟩, fun Z hb x v' hv hx h5m hG hB hi => ?_, ⟨V, qs, wd, lf, dn, hs, h1, h2, h3, h4, h5, rfl⟩⟩
  have hxU : isU x := by
    rcases hx with ⟨rfl, -⟩ | ⟨rfl, -⟩
    · exact ⟨by decide, by decide⟩
    · exact hm
  replace h1 := h1.new hb
  replace h5 := Kp.to h5 (Kp.of (G := fun k => k < B) hb)
  refine (h1.wdg.storeR hxU hv (by omega)).mono ?_
  rintro e w' ⟨rfl, hw, hk⟩
  have hS := h1.acc hG hk hw
  have hK := Kp.to h5 (hk.less (G' := fun k => k < B) (fun j g => .inl (hB j g)))
  refine ⟨⟨_, rfl⟩, _, qs, wd, lf, dn, hs, hS, ?_, h3, by show V.cnt + 1 ≤ _; omega, hK⟩
  rcases hx with ⟨rfl, rfl | rfl⟩ | ⟨rfl, rfl, hs1, hv1⟩
  · exact h2.off h5m
  · exact h2.on h5m
  · rw [if_neg h5m, if_neg h5m]
    exact h2.take h5m hs1 hv1
end

theorem bs_allocR {a w : World} {o : Obj} (h : Below a.heap.size a w) : Below a.heap.size a (w.alloc o) := h.alloc h.size o
end Go.Proofs.Ytepkpbhhiianpaa
