/- What came in to StripesSeen; its table turned. -/
import Derived.Test.YthlebfiedejhhaaSv
import Derived.Test.YthlebfiedejhhaaOpen
namespace Go.Proofs.Ythlebfiedejhhaa
open Go.RowKit Go.Maps
set_option linter.unusedVariables false
theorem reads_bytesX {w : World} {t e : TypeId} {a : Option Addr} {len cap : Nat} (ht : Try.prog.underlying t = some (.slice e)) (hk : leaves Try.prog 9 e = some [.inl .u8]) (hc : Try.prog.cellsOf e = 1) (h : Reads Try.prog w t (.slice a len cap)) :
    len ≤ 9223372036854775807 ∧ ∃ b off, (0 < len → len ≤ cap ∧ a = some ⟨b, off, none⟩) ∧ ∀ i, i < len → ∃ n : Int, (0 ≤ n ∧ n ≤ 255) ∧ w.cell? ⟨b, off + i, none⟩ = some (.int .u8 n) := by
  rcases Reads.slice ht hk h with ⟨_, rfl, _⟩ | ⟨b, off, sp, rfl, h1, h2, h3, h4⟩
  · exact ⟨by omega, 0, 0, fun h => by omega, fun i hi => by omega⟩
  · refine ⟨by unfold maxLen at h2; omega, b, off, fun h => ⟨h1, by rw [h3 (by omega) (by omega)]⟩, fun i hi => ?_⟩
    obtain ⟨l, hl, hll, hx⟩ := h4 i (by omega)
    obtain ⟨_, _, rfl, ⟨n, rfl, hw⟩, g0⟩ := all2_cons hl
    obtain rfl := all2_nil g0
    rw [hc] at hx
    have b0 := bounds_u8 hw
    exact ⟨n, by omega, by simpa using hx 0 _ rfl⟩
theorem reads_tri {w : World} {t e : TypeId} {a : Option Addr} {len cap : Nat} (ht : Try.prog.underlying t = some (.slice e)) (hk : leaves Try.prog 9 e = some [.inl .u16, .inl .u16, .inl .u16]) (hc : Try.prog.cellsOf e = 3) (h : Reads Try.prog w t (.slice a len cap)) :
    len ≤ 9223372036854775807 ∧ ∃ b off, (0 < len → len ≤ cap ∧ a = some ⟨b, off, none⟩) ∧ ∀ i, i < len → ∃ x0 x1 x2 : Int, (0 ≤ x0 ∧ x0 ≤ 65535) ∧ (0 ≤ x1 ∧ x1 ≤ 65535) ∧ (0 ≤ x2 ∧ x2 ≤ 65535) ∧ w.cell? ⟨b, off + i * 3, none⟩ = some (.int .u16 x0) ∧ w.cell? ⟨b, off + i * 3 + 1, none⟩ = some (.int .u16 x1) ∧ w.cell? ⟨b, off + i * 3 + 2, none⟩ = some (.int .u16 x2) := by
  rcases Reads.slice ht hk h with ⟨_, rfl, _⟩ | ⟨b, off, sp, rfl, h1, h2, h3, h4⟩
  · exact ⟨by omega, 0, 0, fun h => by omega, fun i hi => by omega⟩
  · refine ⟨by unfold maxLen at h2; omega, b, off, fun h => ⟨h1, by rw [h3 (by omega) (by omega)]⟩, fun i hi => ?_⟩
    obtain ⟨l, hl, hll, hx⟩ := h4 i (by omega)
    obtain ⟨_, _, rfl, ⟨x0, rfl, y0⟩, g0⟩ := all2_cons hl
    obtain ⟨_, _, rfl, ⟨x1, rfl, y1⟩, g1⟩ := all2_cons g0
    obtain ⟨_, _, rfl, ⟨x2, rfl, y2⟩, g2⟩ := all2_cons g1
    obtain rfl := all2_nil g2
    rw [hc] at hx
    have b0 := bounds_u16 y0
    have b1 := bounds_u16 y1
    have b2 := bounds_u16 y2
    exact ⟨x0, x1, x2, by omega, by omega, by omega, hx 0 _ rfl, hx 1 _ rfl, hx 2 _ rfl⟩
theorem news2S {W : World} {v0 v1 : Value} {t : TypeId} {j : Nat} {u : Value} (hj : [v0, v1][j]? = some u) : (W.alloc (.cells #[v0, v1] t)).cell? ((⟨W.heap.size, 0, none⟩ : Addr).add j) = some u :=
  World.news_of_block (B := W.heap.size) (cs := #[v0, v1]) (t := t) (fr := (0, 0)) (by show (W.heap.push _)[W.heap.size]? = _; simp) j u hj
section
variable {G : Nat → Prop} {W X Y : World} {A : Ad} {AD TH SE i : Nat} {mk : Value}
def U3 (AD TH SE : Nat) (k : Nat) : Prop := k = AD ∨ k = TH ∨ k = SE
theorem SvR.new (h : SvR (U3 AD TH SE) G W X A AD TH SE mk i) (hb : Below X.heap.size X Y) : SvR (U3 AD TH SE) G W Y A AD TH SE mk i := by
  obtain ⟨V, ad, th, h1, h2, h3, h4, h5, h6, h7⟩ := h
  exact ⟨V, ad, th, h1.new hb, h2, h3.keep (U := fun _ => False) (Keeps.of_new hb) (fun s => s), h4.keep (U := fun _ => False) (Keeps.of_new hb) (fun s => s), h5.keep (U := fun _ => False) (Keeps.of_new hb) (fun s => s), h6, Kp.to h7 (Kp.of hb)⟩
theorem SvR.le {j : Nat} (h : SvR (U3 AD TH SE) G W X A AD TH SE mk i) (hj : i ≤ j) : SvR (U3 AD TH SE) G W X A AD TH SE mk j := by
  obtain ⟨V, ad, th, h1, h2, h3, h4, h5, h6, h7⟩ := h
  exact ⟨V, ad, th, h1, by omega, h3, h4, h5, fun s hs => by have := h6 s hs; omega, h7⟩
/-- The reader's step: what was loaded, and how often it was marked, is put down. -/
theorem SvR.seen {V V' : Wv} {ad th : Nat → Int} {s : Nat} {v : Int} (hs : s < 64) (hG : ∀ k, U3 AD TH SE k → G k) (hd : AD ≠ TH ∧ AD ≠ SE ∧ TH ≠ SE) (h1 : Sv (U3 AD TH SE) G Y A V' mk) (hf : V'.f = V.f) (h2 : V'.cnt ≤ (i : Int) + 1) (h3 : Zr Y AD 64 .u64 ad) (h4 : Zr Y TH 64 .u64 th) (h5 : Zr Y SE 64 .u64 th) (h6 : ∀ s : Nat, s < 64 → V.f (64 + s) = ad s ∧ 0 ≤ ad s ∧ ad s ≤ i) (h7 : Kp (fun k => G k ∧ ¬ U3 AD TH SE k) W Y) (hv : v = ad s) :
    SvR (U3 AD TH SE) G W ((Y.setCell ⟨SE, s, none⟩ (.int .u64 v)).setCell ⟨TH, s, none⟩ (.int .u64 v)) A AD TH SE mk (i + 1) := by
  have k1 : Keeps (U3 AD TH SE) Y ((Y.setCell ⟨SE, s, none⟩ (.int .u64 v)).setCell ⟨TH, s, none⟩ (.int .u64 v)) := Keeps.setCell (S := U3 AD TH SE) (Keeps.setCell (S := U3 AD TH SE) (Keeps.refl _ Y) (p := ⟨SE, s, none⟩) (.inl (.inr (.inr rfl))) _) (p := ⟨TH, s, none⟩) (.inl (.inr (.inl rfl))) _
  have kT : Keeps (fun k => k = TH) (Y.setCell ⟨SE, s, none⟩ (.int .u64 v)) ((Y.setCell ⟨SE, s, none⟩ (.int .u64 v)).setCell ⟨TH, s, none⟩ (.int .u64 v)) := Keeps.setCell (S := fun k => k = TH) (Keeps.refl _ _) (p := ⟨TH, s, none⟩) (.inl rfl) _
  have kS : Keeps (fun k => k = SE) Y (Y.setCell ⟨SE, s, none⟩ (.int .u64 v)) := Keeps.setCell (S := fun k => k = SE) (Keeps.refl _ _) (p := ⟨SE, s, none⟩) (.inl rfl) _
  refine ⟨V', ad, zput th s v, h1.keep k1 hG, by omega, ?_, ?_, ?_, fun s' hs' => ?_, ?_⟩
  · exact (h3.keep kS (fun e => hd.2.1 e)).keep kT (fun e => hd.1 e)
  · exact (h4.keep kS (fun e => hd.2.2 e)).put hs v
  · exact (h5.put hs v).keep kT (fun e => hd.2.2 e.symm)
  · rw [hf]
    have := h6 s' hs'
    omega
  · exact Kp.to h7 (k1.mono (fun k _ u g => g.2 u))
/-- A Mark's step: one stripe was marked once more. -/
theorem SvR.marked {V : Wv} {ad th : Nat → Int} {s : Nat} {u : Int} {x : Int} (hs : s < 64) (hx : x = 64 + s) (hu : u = ad s + 1) (hG : ∀ k, U3 AD TH SE k → G k) (hd : AD ≠ TH ∧ AD ≠ SE ∧ TH ≠ SE) {V' : Wv} (h1 : Sv (U3 AD TH SE) G Y A V' mk) (hf : V'.f = upd V.f x u) (h2 : V'.cnt ≤ (i : Int) + 1) (h3 : Zr Y AD 64 .u64 ad) (h4 : Zr Y TH 64 .u64 th) (h5 : Zr Y SE 64 .u64 th) (h6 : ∀ s : Nat, s < 64 → V.f (64 + s) = ad s ∧ 0 ≤ ad s ∧ ad s ≤ i) (h7 : Kp (fun k => G k ∧ ¬ U3 AD TH SE k) W Y) :
    SvR (U3 AD TH SE) G W (Y.setCell ⟨AD, s, none⟩ (.int .u64 u)) A AD TH SE mk (i + 1) := by
  have k1 : Keeps (U3 AD TH SE) Y (Y.setCell ⟨AD, s, none⟩ (.int .u64 u)) := Keeps.setCell (S := U3 AD TH SE) (Keeps.refl _ Y) (p := ⟨AD, s, none⟩) (.inl (.inl rfl)) _
  have kA : Keeps (fun k => k = AD) Y (Y.setCell ⟨AD, s, none⟩ (.int .u64 u)) := Keeps.setCell (S := fun k => k = AD) (Keeps.refl _ _) (p := ⟨AD, s, none⟩) (.inl rfl) _
  refine ⟨V', zput ad s u, th, h1.keep k1 hG, by omega, h3.put hs u, h4.keep kA (fun e => hd.1 e.symm), h5.keep kA (fun e => hd.2.1 e.symm), fun s' hs' => ?_, Kp.to h7 (k1.mono (fun k _ u g => g.2 u))⟩
  rw [hf]
  unfold upd zput
  have h0 := h6 s' hs'
  have h0s := h6 s hs
  by_cases e : s' = s
  · subst e
    rw [if_pos hx.symm, if_pos rfl]
    omega
  · rw [if_neg (by omega), if_neg e]
    omega
end
end Go.Proofs.Ythlebfiedejhhaa
