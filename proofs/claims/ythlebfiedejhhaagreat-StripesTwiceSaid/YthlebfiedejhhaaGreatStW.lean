/- Words of a world as a law takes them down, and what two Marks leave of them. -/
import Derived.Test.YthlebfiedejhhaaGreatMu
namespace Go.Proofs.YthlebfiedejhhaaGreat
open Go.RowKit Go.Maps
set_option linter.unusedVariables false
section
variable {G : Nat → Prop} {w W : World} {A : Ad} {V : Wv}
theorem WdG.keep {U : Nat → Prop} (h : WdG G w A V) (hk : Keeps U w W) (hU : ∀ k, U k → G k) : WdG G W A V := by
  obtain ⟨S, h1, h2, h3⟩ := h
  exact ⟨S, h1.keep hk (fun k s u => h2 k (hU k u) s), h2, fun k g => Nat.lt_of_lt_of_le (h3 k g) hk.size⟩
theorem WdG.addN (h : WdG G w A V) (hb : Below w.heap.size w W) : WdG (fun k => G k ∨ (w.heap.size ≤ k ∧ k < W.heap.size)) W A V := by
  obtain ⟨S, h1, h2, h3⟩ := h
  refine ⟨S, h1.new hb, fun k g s => ?_, fun k g => ?_⟩
  · rcases g with g | g
    · exact h2 k g s
    · have := h1.lt _ s; omega
  · rcases g with g | g
    · exact Nat.lt_of_lt_of_le (h3 k g) hb.size
    · exact g.2
theorem WdG.words (h : WdG G w A V) (hc : V.cnt ≤ 1000000) : Calls Tryz.prog 32 #[.pointer (some ⟨A.pc, 0, none⟩)] w (IsWds w V.f) := by
  obtain ⟨S, ⟨n, SC, SI, SN, h⟩, h2, h3⟩ := h
  have h0 := h.cnt0
  have h1 := h.cntn
  exact words_any h.cel (by omega)
theorem WdG.peekN (h : WdG G w A V) {a v : Int} (ha : isU a) (hv : V.f a = v) (n : Nat) : Calls Tryz.prog 35 #[.pointer (some ⟨A.pc, 0, none⟩), .int .u64 a] (w.drewN n) fun e w' => e = .returned (.int .u64 v) ∧ w.drewN n = w' := hv ▸ gpeek (h.new (belowNd (Below.refl _ _) n)) ha
end
theorem words_fold (f : Int → Int) (a : Int) : ∀ (L : List (Int × Int)) (g : Int → Int), (∀ x, x ∈ L → f x.1 = x.2) → L.foldl (fun f x => upd f x.1 x.2) g a = f a ∨ (L.foldl (fun f x => upd f x.1 x.2) g a = g a ∧ ∀ x, x ∈ L → x.1 ≠ a)
  | [], g, _ => .inr ⟨rfl, fun x h => by simp at h⟩
  | y :: L, g, h => by
    rcases words_fold f a L (upd g y.1 y.2) (fun x hx => h x (by simp [hx])) with e | ⟨e1, e2⟩
    · exact .inl e
    · show _ ∨ (_ ∧ _)
      by_cases ey : y.1 = a
      · left
        show L.foldl _ (upd g y.1 y.2) a = _
        rw [e1, ← ey, upd_same]
        exact (h y (by simp)).symm
      · right
        refine ⟨?_, fun x hx => ?_⟩
        · show L.foldl _ (upd g y.1 y.2) a = _
          rw [e1, upd_other (fun e => ey e.symm)]
        · rcases List.mem_cons.mp hx with rfl | hx
          · exact ey
          · exact e2 x hx
theorem IsLs.words {L : List (Int × Int)} {f : Int → Int} (h : IsLs L f) {a : Int} (ha : isU a) : wordsF L a = f a := by
  rcases words_fold f a L (fun _ => 0) (fun x hx => (h.at_ x hx).2.2.2) with e | ⟨e1, e2⟩
  · exact e
  · unfold wordsF
    rw [e1]
    by_cases h0 : f a = 0
    · rw [h0]
    · exact absurd rfl (e2 _ (h.all a ha h0))
theorem Mu.congr {w : World} {m n : Nat} {D : DataW Unit} {f g : Int → Int} (h : Mu w m n D f) (hg : ∀ a, isU a → f a = g a) : Mu w m n D g :=
  ⟨h.1, fun a ha => by rw [← hg a ha]; exact h.2.1 a ha, fun a ha => by rw [← hg a ha]; exact h.2.2 a ha⟩
/-- The words that are marked: 2, of whatever others 0. -/
def twoF (D : List Int) (a : Int) : Int := if a ∈ D then 2 else 0
theorem twoF_snoc {D : List Int} {k : Nat} {x : Int} (h : D[k]? = some x) : upd (twoF (D.take k)) x 2 = twoF (D.take (k + 1)) := by
  have hk : k < D.length := by
    rcases Nat.lt_or_ge k D.length with h' | h'
    · exact h'
    · rw [List.getElem?_eq_none h'] at h; simp at h
  rw [List.getElem?_eq_getElem hk] at h
  simp at h
  funext a
  unfold twoF
  rw [List.take_succ_eq_append_getElem hk, h]
  by_cases e : a = x
  · subst e
    rw [upd_same, if_pos (by simp)]
  · rw [upd_other e]
    simp [e]
theorem wrap_wrap (z : Int) : IntKind.u64.wrap (IntKind.u64.wrap (z + 1) + 1) = IntKind.u64.wrap (z + 2) := by
  simp only [IntKind.wrap, IntKind.signed, IntKind.bits]
  simp
  omega
theorem mkF_two {D : List Int} (hD : D.Nodup) (f : Int → Int) (a : Int) (hu : isU (f a)) : mkF (mkF f D) D a = IntKind.u64.wrap (f a + twoF D a) := by
  rw [mkF_at _ _ _ hD, mkF_at _ _ _ hD]
  unfold twoF
  by_cases h : a ∈ D
  · rw [if_pos h, if_pos h, if_pos h, wrap_wrap]
  · rw [if_neg h, if_neg h, if_neg h, Int.add_zero]
    exact (IntWalk.u64_in _ ⟨hu.1, by have := hu.2; omega⟩).symm
theorem two_odd (z : Int) (hu : isU z) : (IntKind.u64.wrap (z + 2) % 2 == 1) = (z % 2 == 1) := by
  have : IntKind.u64.wrap (z + 2) % 2 = z % 2 := by
    simp only [IntKind.wrap, IntKind.signed, IntKind.bits]
    simp
  rw [this]
end Go.Proofs.YthlebfiedejhhaaGreat
