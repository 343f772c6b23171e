/- A Look that finds a change stuck under way: what stands between its steps. -/
import Derived.Test.YtepkpbhhiianpaaGLk
import Derived.Test.YtepkpbhhiianpaaOth
namespace Go.Proofs.Ytepkpbhhiianpaa
open Go.RowKit Go.Maps
set_option linter.unusedVariables false
theorem asO_oneT {b : Int} (h : 1 ≤ b ∧ b ≤ 12) : asO b = b ∧ asN b = 0 := by
  have e : b % 256 = b := by omega
  have e2 : b / 256 = 0 := by omega
  have ho : asO b = b := by unfold asO; rw [e, if_pos h]
  refine ⟨ho, ?_⟩
  unfold asN
  simp only [e2]
  first | decide | (split <;> first | rfl | omega) | (simp; omega) | rfl
theorem addP_memT {D : List Pv} {p x : Pv} (h : x ∈ addP D p) : x ∈ D ∨ x = p := by
  unfold addP at h
  split at h
  · exact .inl h
  · simpa using h
theorem isp_of {b k : Int} (hb : 1 ≤ b ∧ b ≤ 12) (h0 : 0 ≤ k) (h1 : k < 2 ^ b.toNat) : isp b k = true := by
  unfold isp szf
  rw [if_pos hb, decide_eq_true h0, decide_eq_true h1]
  rfl
theorem places_isp {z b : Int} (hz : isU z) (hb : 1 ≤ b ∧ b ≤ 12) : (0 < (placesF z b).length ∧ (placesF z b).length ≤ 2) ∧ ∀ p, p ∈ placesF z b → isp p.1 p.2 = true := by
  obtain ⟨h1, h2⟩ := asO_oneT hb
  have hF : placesF z b = addP [(bothP z b).1] (bothP z b).2 := by
    unfold placesF placesL
    rw [h1, h2, if_pos rfl]
    show addP (addP [] _) _ = _
    rw [show addP [] (bothP z b).1 = [(bothP z b).1] by simp [addP]]
  have hp : (0 : Int) < 2 ^ b.toNat := Int.pow_pos (by decide)
  have k0 : bkt z b = z % 2 ^ b.toNat := by unfold bkt; rw [if_pos hb]
  have r0 : 0 ≤ bkt z b ∧ bkt z b < 2 ^ b.toNat := by rw [k0]; exact ⟨Int.emod_nonneg _ (by omega), Int.emod_lt_of_pos _ hp⟩
  have ht : 1 ≤ tagF z ∧ tagF z ≤ 255 := by have := hz.1; have := hz.2; unfold tagF; omega
  have k1 : othf (bkt z b) (tagF z) b = oth (bkt z b) (tagF z) b := by unfold othf; rw [if_pos ⟨hb.1, hb.2, r0.1, r0.2, ht.1, ht.2⟩]
  have r1 := oth_spec (bkt z b) (tagF z) b ht.1 r0.1 r0.2 hb.1 hb.2
  refine ⟨?_, fun p hp => ?_⟩
  · rw [hF]
    unfold addP
    split <;> simp
  · rw [hF] at hp
    rcases addP_memT hp with h | h
    · simp at h
      subst h
      exact isp_of hb r0.1 r0.2
    · subst h
      show isp b (othf _ _ _) = true
      rw [k1]
      exact isp_of hb r1.1 r1.2.1
theorem versf_T {b k : Int} (h : isp b k = true) : 64 ≤ versf b k ∧ versf b k ≤ 127 := by
  have := strf_range h
  unfold versf
  rw [if_pos h]
  omega
/-- The stripes of one place, or of two. -/
theorem strs_T {P : List Pv} (hl : 0 < P.length ∧ P.length ≤ 2) (hi : ∀ p, p ∈ P → isp p.1 p.2 = true) {k : Nat} {p0 pk : Pv} (h0 : P[0]? = some p0) (hk : P[k]? = some pk) :
    (0 < k ∧ versf p0.1 p0.2 ≠ versf pk.1 pk.2 → strsF P = [versf p0.1 p0.2, versf pk.1 pk.2]) ∧ (¬ (0 < k ∧ versf p0.1 p0.2 ≠ versf pk.1 pk.2) → (strsF P)[0]? = some (versf pk.1 pk.2)) := by
  match P, hl with
  | [p], _ =>
    have hk0 : k = 0 := by
      have := (List.getElem?_eq_some_iff.1 hk).1
      simp at this
      exact this
    subst hk0
    simp at h0 hk
    subst h0 hk
    have hv := versf_T (hi p (by simp))
    have e : strsF [p] = [versf p.1 p.2] := by
      show addS [] _ = _
      unfold addS
      rw [if_neg (by simp; omega)]
      rfl
    rw [e]
    exact ⟨fun h => by omega, fun _ => rfl⟩
  | [p, p'], _ =>
    simp at h0
    subst h0
    have hv := versf_T (hi p (by simp))
    have hv' := versf_T (hi p' (by simp))
    have e1 : addS [] (versf p.1 p.2) = [versf p.1 p.2] := by
      unfold addS
      rw [if_neg (by simp; omega)]
      rfl
    have e : strsF [p, p'] = addS [versf p.1 p.2] (versf p'.1 p'.2) := by
      show addS (addS [] _) _ = _
      rw [e1]
    rw [e]
    have hk2 : k < 2 := by simpa using (List.getElem?_eq_some_iff.1 hk).1
    rcases (by omega : k = 0 ∨ k = 1) with rfl | rfl
    · simp at hk
      subst hk
      refine ⟨fun h => by omega, fun _ => ?_⟩
      unfold addS
      split <;> rfl
    · simp at hk
      subst hk
      refine ⟨fun h => ?_, fun h => ?_⟩
      · unfold addS
        rw [if_neg (by simp; exact ⟨by omega, fun e => h.2 e.symm⟩)]
        rfl
      · have he : versf p.1 p.2 = versf p'.1 p'.2 := Classical.byContradiction (fun c => h ⟨by omega, c⟩)
        unfold addS
        rw [if_pos (.inr (by simp [he]))]
        simp [he]
/-- The notes of t tries. -/
def ntT (n each : Int) (t : Nat) : List Nv := (List.range t).map fun (i : Nat) => (1 + each * ((i : Int) + 1), -1, 6, 0, 0, 0, 0, n - 1 - (i : Int))
theorem ntT_len (n each : Int) (t : Nat) : (ntT n each t).length = t := by simp [ntT]
theorem ntT_succ (n each : Int) (t : Nat) : ntT n each (t + 1) = ntT n each t ++ [(1 + each * ((t : Int) + 1), -1, 6, 0, 0, 0, 0, n - 1 - (t : Int))] := by
  unfold ntT
  rw [List.range_succ, List.map_append]
  rfl
theorem ntT_add {n each : Int} (he : 0 ≤ each) {t : Nat} (ht : t ≤ 1000) : addL (ntT n each t) (1 + each * ((t : Int) + 1), -1, 6, 0, 0, 0, 0, n - 1 - (t : Int)) = ntT n each (t + 1) := by
  have hlow : lowN (ntT n each t) (1 + each * ((t : Int) + 1), -1, 6, 0, 0, 0, 0, n - 1 - (t : Int)) = false := by
    unfold lowN
    match t with
    | 0 => rfl
    | t + 1 =>
      rw [ntT_succ, List.getLast?_concat]
      have : each * ((t : Int) + 1) ≤ each * (((t + 1 : Nat) : Int) + 1) := Int.mul_le_mul_of_nonneg_left (by omega) he
      exact decide_eq_false (by show ¬ (1 + each * (((t + 1 : Nat) : Int) + 1) < 1 + each * ((t : Int) + 1)); omega)
  have hf : addF (ntT n each t) (1 + each * ((t : Int) + 1), -1, 6, 0, 0, 0, 0, n - 1 - (t : Int)) = 0 := by
    unfold addF
    have hk : iskf (Nv.k (1 + each * ((t : Int) + 1), -1, 6, 0, 0, 0, 0, n - 1 - (t : Int))) = true := rfl
    rw [hlow, if_neg (by rw [hk]; simp), if_neg (by rw [ntT_len]; omega)]
  unfold addL
  rw [if_pos hf, ntT_succ]
/-- A change that is stuck. -/
structure Stuck (F : Int → Int) (z b x : Int) (each : Nat) : Prop where
  f2 : F 2 = b
  odd : F x = 1
  xu : isU x
  way : (each = 2 ∧ (strsF (placesF z b))[0]? = some x) ∨ (each = 3 ∧ ∃ y, strsF (placesF z b) = [y, x] ∧ isU y ∧ F y = 0)
def StT (G : Nat → Prop) (w0 : World) (A : Ad) (q : Nat) (key : ByteArray) (F : Int → Int) (z b : Int) (n each j : Nat) (W : World) : Prop :=
  ∃ V : Wv, (V.f = F ∧ V.h = -1) ∧ V.cnt = 1 + (j : Int) ∧ Kp G w0 W ∧
    ((∃ (t r : Nat) (X : Lk) (nx : Value), (j = each * t + r ∧ r < each ∧ t ≤ n) ∧ V.M = ntT n each t ∧ LkO G W A V q key nx X ∧ (X.tr = (n : Int) - (t : Int) ∧ X.fl = false) ∧
      ((r = 0 ∧ nx = nxV 55) ∨ (r = 1 ∧ nx = nxV 75 ∧ X.S = strsF (placesF z b) ∧ X.D = []) ∨ (r = 2 ∧ nx = nxV 75 ∧ X.S = strsF (placesF z b) ∧ X.D = [0]))) ∨
    (j = each * (n + 1) ∧ V.M = ntT n each n ∧ ∃ X, LkO G W A V q key .nilFunc X ∧ X.fl = true))
section
variable {G : Nat → Prop} {w0 W : World} {A : Ad} {q : Nat} {key : ByteArray} {F : Int → Int} {z b x : Int} {n each j t : Nat}
theorem stT_ag {V : Wv} {X : Lk} (hV : V.f = F ∧ V.h = -1) (hc : V.cnt = 1 + (j : Int)) (hM : V.M = ntT n each t) (hX : X.tr = (n : Int) - (t : Int)) (hf : X.fl = false) (ht : t ≤ n) (hn : n ≤ 16) (he : each = 2 ∨ each = 3) (hj : j = each * (t + 1)) (h : LkO G W A (agV V X) q key (agN X) (agX X)) (hk : Kp G w0 W) : StT G w0 A q key F z b n each j W := by
  unfold agV agN agX at h
  by_cases hl : X.tr < 1
  · rw [if_pos hl, if_pos hl, if_pos hl] at h
    have e : t = n := by omega
    subst e
    exact ⟨V, hV, hc, hk, .inr ⟨hj, hM, _, h, rfl⟩⟩
  · rw [if_neg hl, if_neg hl, if_neg hl] at h
    have e1 : X.tr - 1 = (n : Int) - 1 - (t : Int) := by omega
    refine ⟨_, ?_, ?_, hk, .inl ⟨t + 1, 0, _, _, ⟨by omega, by omega, by omega⟩, ?_, h, ⟨by show X.tr - 1 = _; omega, hf⟩, .inl ⟨rfl, rfl⟩⟩⟩
    · exact hV
    · exact hc
    · show addL V.M (V.cnt, V.h, 6, 0, 0, 0, 0, X.tr - 1) = _
      rw [hM, hc, hV.2, e1]
      have e2 : 1 + (j : Int) = 1 + (each : Int) * ((t : Int) + 1) := by
        rcases he with rfl | rfl <;> omega
      rw [e2]
      exact ntT_add (by omega) (by omega)
theorem stT_step (hs : Stuck F z b x each) (hz : hsl key.data.toList = z) (hzu : isU z) (hk : key.size ≤ maxLen) (hn : n ≤ 16) : ∀ j W, j < each * (n + 1) → StT G w0 A q key F z b n each j W → Calls Try.prog 126 #[.pointer (some ⟨q, 0, none⟩), .pointer (some ⟨A.p, 0, none⟩)] W fun e w' => ∃ r, e = .returned (.bool r) ∧ StT G w0 A q key F z b n each (j + 1) w' := by
  rintro j W hj ⟨V, hV, hc, hk0, h⟩
  have he : each = 2 ∨ each = 3 := by rcases hs.way with h | h; exact .inl h.1; exact .inr h.1
  have hjb : j < 60 := by rcases he with rfl | rfl <;> omega
  have hb : V.cnt < 1000000000 := by rw [hc]; omega
  rcases h with ⟨t, r, X, nx, ⟨hj1, hr, ht⟩, hM, hO, ⟨hX, hf⟩, hcase⟩ | ⟨hj1, -⟩
  · have hMl : V.M.length ≤ 1048576 := by rw [hM, ntT_len]; omega
    have htr : X.tr ≤ 9223372036854775807 := by omega
    have fx : V.f x = 1 := by rw [hV.1]; exact hs.odd
    rcases hcase with ⟨rfl, rfl⟩ | ⟨rfl, rfl, hS, hD⟩ | ⟨rfl, rfl, hS, hD⟩
    · have f2 : V.f 2 = b := by rw [hV.1]; exact hs.f2
      refine (lkO_tables hO hb hk f2 hz hzu).mono ?_
      rintro e w' ⟨he', h', k'⟩
      refine ⟨_, he', _, ?_, ?_, Kp.to hk0 k', .inl ⟨t, 1, _, _, ⟨by omega, by rcases he with rfl | rfl <;> omega, ht⟩, ?_, h', ⟨hX, hf⟩, .inr (.inl ⟨rfl, rfl, rfl, rfl⟩)⟩⟩
      · exact hV
      · show V.cnt + 1 = _; rw [hc]; omega
      · exact hM
    · rcases hs.way with ⟨e2, hx⟩ | ⟨e3, y, hy, hyu, fy⟩
      · subst e2
        refine (lkO_odd hO hs.xu (by rw [hS, hD]; exact hx) hb fx rfl htr hMl).mono ?_
        rintro e w' ⟨he', h', k'⟩
        exact ⟨_, he', stT_ag (V := V.acc V.f 1 x 1 1) hV (by show V.cnt + 1 = _; rw [hc]; omega) hM hX hf ht hn he (by omega) h' (Kp.to hk0 k')⟩
      · subst e3
        have fy' : V.f y = 0 := by rw [hV.1]; exact fy
        refine (lkO_ver hO hyu (by rw [hS, hD, hy]; rfl) (by rw [hS, hy]; show 2 ≤ 1000; decide) hb fy' rfl (nx' := nxV 75) (by rw [hS, hD, hy]; rfl)).mono ?_
        rintro e w' ⟨he', h', k'⟩
        refine ⟨_, he', _, ?_, ?_, Kp.to hk0 k', .inl ⟨t, 2, _, _, ⟨by omega, by omega, ht⟩, ?_, h', ⟨hX, hf⟩, .inr (.inr ⟨rfl, rfl, hS, ?_⟩)⟩⟩
        · exact hV
        · show V.cnt + 1 = _; rw [hc]; omega
        · exact hM
        · show X.D ++ [0] = [0]; rw [hD]; rfl
    · rcases hs.way with ⟨e2, hx⟩ | ⟨e3, y, hy, hyu, fy⟩
      · omega
      · subst e3
        refine (lkO_odd hO hs.xu (by rw [hS, hD, hy]; rfl) hb fx rfl htr hMl).mono ?_
        rintro e w' ⟨he', h', k'⟩
        exact ⟨_, he', stT_ag (V := V.acc V.f 1 x 1 1) hV (by show V.cnt + 1 = _; rw [hc]; omega) hM hX hf ht hn he (by omega) h' (Kp.to hk0 k')⟩
  · omega
theorem stT_over (he : each = 2 ∨ each = 3) : ∀ j W, j < each * (n + 1) → StT G w0 A q key F z b n each j W → Calls Try.prog 69 #[.pointer (some ⟨q, 0, none⟩)] W fun e w' => e = .returned (.bool false) ∧ W = w' := by
  rintro j W hj ⟨V, hV, hc, hk0, h⟩
  rcases h with ⟨t, r, X, nx, -, hM, hO, -, hcase⟩ | ⟨hj1, -⟩
  · rcases hcase with ⟨rfl, rfl⟩ | ⟨rfl, rfl, -⟩ | ⟨rfl, rfl, -⟩
    · exact hO.overn
    · exact hO.overn
    · exact hO.overn
  · omega
theorem stT_end (he : each = 2 ∨ each = 3) (h : StT G w0 A q key F z b n each (each * (n + 1)) W) : ∃ V X, V.M = ntT n each n ∧ LkO G W A V q key .nilFunc X ∧ X.fl = true ∧ Kp G w0 W := by
  obtain ⟨V, hV, hc, hk0, h⟩ := h
  rcases h with ⟨t, r, X, nx, ⟨hj1, hr, ht⟩, -⟩ | ⟨-, hM, X, hO, hf⟩
  · exfalso
    rcases he with rfl | rfl <;> omega
  · exact ⟨V, X, hM, hO, hf, hk0⟩
end
end Go.Proofs.Ytepkpbhhiianpaa
