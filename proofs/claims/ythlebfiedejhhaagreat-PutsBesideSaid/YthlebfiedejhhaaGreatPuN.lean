/- Puts and Outs, one behind the other, in one bucket. -/
import Derived.Test.YthlebfiedejhhaaGreatGPu
namespace Go.Proofs.YthlebfiedejhhaaGreat
open Go.RowKit Go.Maps
set_option linter.unusedVariables false
def IsW2 (w : World) (e : Ending) (w' : World) : Prop := ∃ A, e = .returned (.pointer (some ⟨A.p, 0, none⟩)) ∧ WdB w' A V10 w.heap.size ∧ Below w.heap.size w w'
theorem world2 (w : World) : Calls Tryz.prog 95 #[.int .i64 2] w (IsW2 w) := by
  have C := Lib.hid (newW 2 8 3 1 16 w (by decide))
  go_enter Tryz.func95, Tryz.ntmps95
  go_wp2_with fail
  refine C.out.mono ?_
  rintro e w1 ⟨A, rfl, hW, K⟩
  have HW := Lib.hid hW
  have HK := Lib.hid K
  clear hW K C
  go_wp2_with fail
  go_ret
  exact ⟨A, rfl, HW.out, HK.out⟩
theorem spotw {b m kk s k' s' : Int} (hb : (b = 1 ∧ m = 2) ∨ (b = 2 ∧ m = 4) ∨ (b = 3 ∧ m = 8) ∨ (b = 4 ∧ m = 16)) (hk : kk.tmod m = k') (hs : s.tmod 4 = s') (k1 : 0 ≤ k' ∧ k' < 1000) (s1 : 0 ≤ s' ∧ s' < 1000) (w : World) :
    Calls Tryz.prog 50 #[.int .i64 b, .int .i64 kk, .int .i64 s] w fun e w' => e = .returned (.agg #[.int .i64 b, .int .i64 k', .int .i64 s']) ∧ Below w.heap.size w w' := by
  have yk : IntKind.i64.wrap k' = k' := IntWalk.i64_in _ (by omega)
  have ys : IntKind.i64.wrap s' = s' := IntWalk.i64_in _ (by omega)
  have CS := Lib.hid (fun W => size_any b W)
  have hz : szf b = m := by
    rcases hb with ⟨rfl, rfl⟩ | ⟨rfl, rfl⟩ | ⟨rfl, rfl⟩ | ⟨rfl, rfl⟩ <;> decide
  rw [hz] at CS
  clear hz
  rcases hb with ⟨rfl, rfl⟩ | ⟨rfl, rfl⟩ | ⟨rfl, rfl⟩ | ⟨rfl, rfl⟩
  all_goals
    go_enter Tryz.func50, Tryz.ntmps50
    go_wp2_with fail
    refine (CS.out _).mono ?_
    rintro e w1 ⟨rfl, rfl⟩
    go_wp2_with fail
    exact bodyPost_ret (v := .agg #[.int .i64 _, .int .i64 k', .int .i64 s']) (by simp [results, Tryz.results50, go_sem]) rfl ⟨rfl, bs_alloc (Below.refl _ _)⟩
theorem tag_with {T k t j : Int} (hT : isU T) (hk : 0 ≤ k ∧ k < 4) (ht : 0 ≤ t ∧ t ≤ 255) (hj : 0 ≤ j ∧ j < 4) : tagf (withf T k t) j = if j = k then t else tagf T j := by
  have h1 := hT.1
  obtain rfl | rfl | rfl | rfl : k = 0 ∨ k = 1 ∨ k = 2 ∨ k = 3 := by omega
  all_goals
    obtain rfl | rfl | rfl | rfl : j = 0 ∨ j = 1 ∨ j = 2 ∨ j = 3 := by omega
  all_goals
    simp only [withf, tagf, unit, tg0, tg1, tg2, tg3]
    simp
    try rw [if_neg (by omega)]
    try omega
theorem with_back {T k t : Int} (hT : isU T) (hk : 0 ≤ k ∧ k < 4) (ht : 0 ≤ t ∧ t ≤ 255) : withf (withf T k t) k (tagf T k) = T := by
  have h1 := hT.1
  obtain rfl | rfl | rfl | rfl : k = 0 ∨ k = 1 ∨ k = 2 ∨ k = 3 := by omega
  all_goals
    simp only [withf, tagf, unit, tg0, tg1, tg2, tg3]
    simp
    try rw [if_neg (by omega)]
    try rw [if_neg (by omega)]
    try omega
/-- A change of slot k, behind n of its three steps: an Out (o), or a Put; T: the tags at first; I: the slots' items. -/
structure NvF (o : Bool) (k t ref T : Int) (I : Int → Int) (n : Nat) (V : Wv) (tags : Int) : Prop where
  tg : V.f 4136 = (if o then (if 2 ≤ n then withf T k 0 else T) else (if 3 ≤ n then withf T k t else T))
  me : V.f (4137 + k) = (if o then (if 3 ≤ n then 0 else I k) else (if 1 ≤ n then ref else I k))
  ot : ∀ j, 0 ≤ j → j < 4 → j ≠ k → V.f (4137 + j) = I j
  ld : (if o then 1 ≤ n else 2 ≤ n) → tags = T
def NvP (G : Nat → Prop) (w : World) (A : Ad) (q : Nat) (k t ref T : Int) (I : Int → Int) (c : Int) (n : Nat) : Prop := ∃ V tags, Opw G w A V q (puC 2 1 k t ref tags (3 - n)) ∧ NvF false k t ref T I n V tags ∧ V.cnt = c + n
def NvO (G : Nat → Prop) (w : World) (A : Ad) (q : Nat) (k t ref T : Int) (I : Int → Int) (c : Int) (n : Nat) : Prop := ∃ V tags g, Opw G w A V q (ouC 2 1 k tags (3 - n) g) ∧ NvF true k t ref T I n V tags ∧ V.cnt = c + n
theorem item21 {k : Int} (hk : 0 ≤ k ∧ k < 4) : itemf 2 1 k = 4137 + k := by
  obtain rfl | rfl | rfl | rfl : k = 0 ∨ k = 1 ∨ k = 2 ∨ k = 3 := by omega
  all_goals decide
theorem tags21 : tagsf 2 1 = 4136 := by decide
section
variable {G : Nat → Prop} {w : World} {A : Ad} {q : Nat} {k t ref T c : Int} {I : Int → Int} {n : Nat}
theorem nvp_step (hn : n < 3) (h : NvP G w A q k t ref T I c n) (hk : 0 ≤ k ∧ k < 4) (hT : isU T) (hr : 1 ≤ ref ∧ ref ≤ 9223372036854775807) (hc : c < 100000) :
    Calls Tryz.prog 46 #[.pointer (some ⟨q, 0, none⟩), .pointer (some ⟨A.p, 0, none⟩)] w fun e w' => (∃ b, e = .returned (.bool b)) ∧ NvP G w' A q k t ref T I c (n + 1) ∧ Kp G w w' := by
  obtain ⟨V, tags, h1, ⟨f1, f2, f3, f4⟩, h3⟩ := h
  have ha := item21 hk
  have hu : isU (4137 + k) := ⟨by omega, by omega⟩
  have hv : isU 4136 := ⟨by decide, by decide⟩
  obtain rfl | rfl | rfl : n = 0 ∨ n = 1 ∨ n = 2 := by omega
  · refine (pu_step3 h1 ha hu hr (by omega)).mono ?_
    rintro e w' ⟨rfl, h4, k4⟩
    simp at f1 f2
    refine ⟨⟨_, rfl⟩, ⟨_, _, h4, ⟨?_, ?_, fun j j0 j4 jk => ?_, fun h => by simp at h⟩, ?_⟩, k4⟩
    · show upd V.f (4137 + k) ref 4136 = _
      rw [upd_other (by omega), f1]; simp
    · show upd V.f (4137 + k) ref (4137 + k) = _
      rw [upd_same]; simp
    · show upd V.f (4137 + k) ref (4137 + j) = _
      rw [upd_other (by omega)]; exact f3 j j0 j4 jk
    · show V.cnt + 1 = _
      omega
  · simp at f1 f2
    refine (pu_step2 h1 tags21 hv f1 (by omega)).mono ?_
    rintro e w' ⟨rfl, h4, k4⟩
    refine ⟨⟨_, rfl⟩, ⟨_, _, h4, ⟨?_, ?_, fun j j0 j4 jk => f3 j j0 j4 jk, fun h => rfl⟩, ?_⟩, k4⟩
    · show V.f 4136 = _
      rw [f1]; simp
    · show V.f (4137 + k) = _
      rw [f2]; simp
    · show V.cnt + 1 = _
      omega
  · simp at f1 f2
    have e := f4 (by simp)
    subst e
    refine (pu_step1 h1 tags21 hv hT rfl (by omega)).mono ?_
    rintro e w' ⟨rfl, h4, k4⟩
    refine ⟨⟨_, rfl⟩, ⟨_, _, h4, ⟨?_, ?_, fun j j0 j4 jk => ?_, fun h => rfl⟩, ?_⟩, k4⟩
    · show upd V.f 4136 (withf tags k t) 4136 = _
      rw [upd_same]; simp
    · show upd V.f 4136 (withf tags k t) (4137 + k) = _
      rw [upd_other (by omega), f2]; simp
    · show upd V.f 4136 (withf tags k t) (4137 + j) = _
      rw [upd_other (by omega)]; exact f3 j j0 j4 jk
    · show V.cnt + 1 = _
      omega
theorem nvo_step (hn : n < 3) (h : NvO G w A q k t ref T I c n) (hk : 0 ≤ k ∧ k < 4) (hT : isU T) (hc : c < 100000) :
    Calls Tryz.prog 48 #[.pointer (some ⟨q, 0, none⟩), .pointer (some ⟨A.p, 0, none⟩)] w fun e w' => (∃ b, e = .returned (.bool b)) ∧ NvO G w' A q k t ref T I c (n + 1) ∧ Kp G w w' := by
  obtain ⟨V, tags, g, h1, ⟨f1, f2, f3, f4⟩, h3⟩ := h
  have ha := item21 hk
  have hu : isU (4137 + k) := ⟨by omega, by omega⟩
  have hv : isU 4136 := ⟨by decide, by decide⟩
  obtain rfl | rfl | rfl : n = 0 ∨ n = 1 ∨ n = 2 := by omega
  · simp at f1 f2
    refine (ou_step3 h1 tags21 hv f1 (by omega)).mono ?_
    rintro e w' ⟨rfl, h4, k4⟩
    refine ⟨⟨_, rfl⟩, ⟨_, _, _, h4, ⟨?_, ?_, fun j j0 j4 jk => f3 j j0 j4 jk, fun h => rfl⟩, ?_⟩, k4⟩
    · show V.f 4136 = _
      rw [f1]; simp
    · show V.f (4137 + k) = _
      rw [f2]; simp
    · show V.cnt + 1 = _
      omega
  · simp at f1 f2
    have e := f4 (by simp)
    subst e
    refine (ou_step2 h1 tags21 hv hT rfl (by omega)).mono ?_
    rintro e w' ⟨rfl, h4, k4⟩
    refine ⟨⟨_, rfl⟩, ⟨_, _, _, h4, ⟨?_, ?_, fun j j0 j4 jk => ?_, fun h => rfl⟩, ?_⟩, k4⟩
    · show upd V.f 4136 (withf tags k 0) 4136 = _
      rw [upd_same]; simp
    · show upd V.f 4136 (withf tags k 0) (4137 + k) = _
      rw [upd_other (by omega), f2]; simp
    · show upd V.f 4136 (withf tags k 0) (4137 + j) = _
      rw [upd_other (by omega)]; exact f3 j j0 j4 jk
    · show V.cnt + 1 = _
      omega
  · simp at f1 f2
    have e := f4 (by simp)
    refine (ou_step1 h1 ha hu (by omega)).mono ?_
    rintro e w' ⟨rfl, h4, k4⟩
    refine ⟨⟨_, rfl⟩, ⟨_, _, _, h4, ⟨?_, ?_, fun j j0 j4 jk => ?_, fun h => e⟩, ?_⟩, k4⟩
    · show upd V.f (4137 + k) 0 4136 = _
      rw [upd_other (by omega), f1]; simp
    · show upd V.f (4137 + k) 0 (4137 + k) = _
      rw [upd_same]; simp
    · show upd V.f (4137 + k) 0 (4137 + j) = _
      rw [upd_other (by omega)]; exact f3 j j0 j4 jk
    · show V.cnt + 1 = _
      omega
theorem nv_ok {o : Bool} {V : Wv} {tags : Int} (h : NvF o k t ref T I n V tags) (hk : 0 ≤ k ∧ k < 4) (hT : isU T) (ht : 1 ≤ t ∧ t ≤ 255) (hr : 1 ≤ ref) (hB : ∀ j, 0 ≤ j → j < 4 → tagf T j ≠ 0 → I j ≠ 0) {j : Int} (hj : 0 ≤ j ∧ j < 4) : tagf (V.f 4136) j ≠ 0 → V.f (4137 + j) ≠ 0 := by
  obtain ⟨f1, f2, f3, -⟩ := h
  by_cases e : j = k
  · subst e
    rw [f2, f1]
    cases o
    · simp
      intro h
      split
      · omega
      · refine hB j hj.1 hj.2 (fun h0 => h ?_)
        rw [if_neg (by omega)]
        exact h0
    · simp
      intro h
      by_cases h2 : 2 ≤ n
      · exfalso
        rw [if_pos h2, tag_with hT hk ⟨by decide, by decide⟩ hj, if_pos rfl] at h
        exact h rfl
      · rw [if_neg h2] at h
        exact ⟨by omega, hB j hj.1 hj.2 h⟩
  · rw [f3 j hj.1 hj.2 e, f1]
    intro h
    refine hB j hj.1 hj.2 (fun h0 => h ?_)
    cases o
    · simp
      split
      · rw [tag_with hT hk (by omega) hj, if_neg e]; exact h0
      · exact h0
    · simp
      split
      · rw [tag_with hT hk (by omega) hj, if_neg e]; exact h0
      · exact h0
end
end Go.Proofs.YthlebfiedejhhaaGreat
