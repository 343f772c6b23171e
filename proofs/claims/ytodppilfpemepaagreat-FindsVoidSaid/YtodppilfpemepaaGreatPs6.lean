/- What a key's places and their addresses are like. -/
import Derived.Test.YtodppilfpemepaaGreatGPs
import Derived.Test.YtodppilfpemepaaGreatGPx
import Derived.Test.YtodppilfpemepaaGreatFnvsRef
import Derived.Test.YtodppilfpemepaaGreatGTg
namespace Go.Proofs.YtodppilfpemepaaGreat
open Go.RowKit Go.Maps
set_option linter.unusedVariables false
theorem addP_some (D : List Pv) (p : Pv) : addP D p ≠ [] := by
  unfold addP
  split
  · rename_i h; intro e; rw [e] at h; simp at h
  · simp
theorem fold_some : ∀ (L M : List Pv), (M ≠ [] ∨ L ≠ []) → L.foldl addP M ≠ []
  | [], M, h => by simpa using h
  | x :: L, M, h => fold_some L (addP M x) (.inl (addP_some _ _))
theorem placesF_some (h x : Int) : placesF h x ≠ [] := by
  unfold placesF dedP
  refine fold_some _ _ (.inr ?_)
  unfold placesL
  split <;> simp
theorem placesF_four (h x : Int) : (placesF h x).length ≤ 4 := by
  refine Nat.le_trans (dedP_len _) ?_
  unfold placesL
  split <;> simp
theorem hsl_isU (l : List UInt8) : isU (hsl l) := by
  rcases List.eq_nil_or_concat l with rfl | ⟨l', c, rfl⟩
  · exact ⟨by decide, by decide⟩
  · rw [List.concat_eq_append, hsl_snoc]; unfold hs1 isU; rw [IntKind.wrap_u64]; omega
theorem tagsf_isU (b k : Int) : isU (tagsf b k) := by
  unfold tagsf
  split
  · rename_i c
    have := isp_range c
    exact ⟨by omega, by omega⟩
  · exact ⟨by decide, by decide⟩
theorem itemf_isU (b k s : Int) : isU (itemf b k s) := by
  unfold itemf
  split
  · rename_i c
    have := isp_range c.1
    exact ⟨by omega, by omega⟩
  · exact ⟨by decide, by decide⟩
/-- What an operation of others leaves as it was. -/
structure Fix (V V' : Wv) : Prop where
  c : V'.c = V.c
  tk : V'.tk = V.tk
  h : V'.h = V.h
  m : V'.M = V.M
theorem Fix.refl (V : Wv) : Fix V V := ⟨rfl, rfl, rfl, rfl⟩
theorem Fix.trans {U V W : Wv} (h : Fix U V) (k : Fix V W) : Fix U W := ⟨k.c.trans h.c, k.tk.trans h.tk, k.h.trans h.h, k.m.trans h.m⟩
theorem PwPost.chain {w w1 w' : World} {A R : Ad} {V : Wv} {S T S1 T1 : Nat → Prop} (hk : Keeps (fun j => S j ∨ T j) w w1) (ho : ∀ j, S1 j ∨ T1 j → (S j ∨ T j) ∨ w.heap.size ≤ j) (h : PwPost w1 A R V S1 T1 w') : PwPost w A R V S T w' := by
  obtain ⟨S2, T2, q, k2, o2⟩ := h
  have := hk.size
  refine ⟨S2, T2, q, hk.trans k2 (fun i hi hs => ?_), fun j s => ?_⟩
  · rcases ho i hs with s | s
    · exact s
    · omega
  · rcases o2 j s with s | s
    · exact ho j s
    · exact .inr (by omega)
end Go.Proofs.YtodppilfpemepaaGreat
