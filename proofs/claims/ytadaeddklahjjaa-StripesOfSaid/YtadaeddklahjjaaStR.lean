/- Stripes of places: the chapter's; odd words. -/
import Derived.Test.YtadaeddklahjjaaSt
import Derived.Test.YtadaeddklahjjaaTo
namespace Go.Proofs.Ytadaeddklahjjaa
open Go.RowKit
set_option linter.unusedVariables false
theorem take_u {D : List Int} {k : Nat} {x : Int} (h : D[k]? = some x) : D.take (k + 1) = D.take k ++ [x] := by
  have hk : k < D.length := by
    rcases Nat.lt_or_ge k D.length with h' | h'
    · exact h'
    · rw [List.getElem?_eq_none h'] at h; simp at h
  rw [List.getElem?_eq_getElem hk] at h
  simp at h
  rw [List.take_succ_eq_append_getElem hk, h]
/-- What the chapter hands back: a list of its own. -/
def IsOwnU (w : World) (D : List Int) (e : Ending) (w' : World) : Prop := ∃ C v, w.heap.size ≤ C ∧ e = .returned v ∧ w'.ownsRow C 47 1 v D.length (rowsU D) ∧ Below w.heap.size w w'
set_option maxHeartbeats 2000000 in
set_option maxRecDepth 100000 in
theorem rstrOf {w : World} {a : Option Addr} {c n : Nat} {L : List Pv} (h : LayP w a n c L) (hM : n ≤ 1000000) :
    Calls Try.prog 36 #[.slice a n c] w (IsOwnU w (strsF L)) := by
  obtain ⟨i0, hi, hz0, hz1, hz2⟩ := info_parts info_addr
  have HN := Lib.hid h.1
  have H := Lib.hid h
  clear h
  go_enter Try.func36, Try.ntmps36
  go_wp2_with fail
  obtain ⟨C, hC⟩ : ∃ C, C = w.heap.size := ⟨_, rfl⟩
  have HC := Lib.hid hC
  have hCl : C ≤ w.heap.size := by omega
  clear hC
  go_loopw [3, 4] (fun o i wr => ∃ (k0 : Nat), k0 ≤ n ∧ i = .int .i64 k0 ∧ wr.ownsRow C 47 1 o (strsF (L.take k0)).length (rowsU (strsF (L.take k0))) ∧ Below C w wr) (fun _ i _ => n - (intOf i).toNat)
  case atStart => exact ⟨0, Nat.zero_le _, rfl, World.ownsRow_nil _ _ _ _, Below.refl _ _⟩
  case round =>
    obtain ⟨k0, hk0, rfl, hown, hbel⟩ := hrel
    have hsz := hbel.size
    have hlen := strsF_len L k0
    by_cases hlt : k0 < n
    · obtain ⟨⟨x1, x2⟩, hx⟩ : ∃ x, L[k0]? = some x := ⟨_, List.getElem?_eq_getElem (by have := HN.out; omega)⟩
      have hsn := strsF_snoc hx
      have hbw : Below w.heap.size w wr := by rw [← HC.out]; exact hbel
      obtain ⟨g, o, rfl, hnc, e0, e1⟩ := (H.out.new hbw).2 k0 x1 x2 hx
      obtain ⟨a', c', hv, hcm, hnc', h0, hlie⟩ := LieG.of (Lst.of_own hown)
      rename_i u3
      generalize strsF (L.take k0) = D at *
      obtain ⟨m, hm⟩ : ∃ m, m = D.length := ⟨_, rfl⟩
      rw [← hm] at hv hown hlen hlie hnc' h0
      have HM := Lib.hid hm
      have HSN := Lib.hid hsn
      have hkc : k0 < c := by omega
      have HLIE := Lib.hid hlie
      have HOWN := Lib.hid hown
      have HV := Lib.hid hv
      have HBE := Lib.hid hbel
      have CV := Lib.hid (fun W => rvers x1 x2 W)
      clear hx hbel hbw hm hsn hown hlie hcm h0
      subst hv
      generalize versf x1 x2 = v at *
      go_upto_region 6 with (go_at_call 73; ((with_reducible refine (CV.out _).mono ?_); rintro e w2 ⟨rfl, K2⟩))
      have hbn := HBE.out.trans (K2.mono (by omega))
      have hown2 := own_belowP HOWN.out K2
      have hl2 := HLIE.out.new K2
      have HBN := Lib.hid hbn
      have sbn := hbn.size
      have HO2 := Lib.hid hown2
      have HL2 := Lib.hid hl2
      clear hbn hown2 hl2 K2 e0 e1
      go_wp2_with fail
      go_loopw [6, 7] (fun h i X => ∃ j : Nat, j ≤ m ∧ i = .int .i64 j ∧ h = .bool (decide (v = 0 ∨ v ∈ D.take j)) ∧ X = w2) (fun _ i _ => m - (intOf i).toNat)
      case atStart => exact ⟨0, Nat.zero_le _, rfl, by simp; by_cases h : v = 0 <;> simp [h], rfl⟩
      case round =>
        obtain ⟨j, hj, rfl, hh, hX⟩ := hrel
        subst hX
        by_cases hjm : j < m
        · obtain ⟨x, hxj⟩ : ∃ x, D[j]? = some x := ⟨_, List.getElem?_eq_getElem (by have := HM.out; omega)⟩
          obtain ⟨gg, rfl, hgg, -, hncc, f0⟩ := HL2.out.u64 HM.out hxj
          have hjc : j < c' := by omega
          have HT := Lib.hid (take_u hxj)
          clear hxj hgg
          subst hh
          by_cases hxv : x = v
          · subst hxv
            go_wp2_with fail
            go_roundw
            case rel => exact ⟨j + 1, by omega, by go_num, by rw [HT.out]; simp, by simp⟩
            case measure => simp [intOf]; omega
          · have c1 : (x == v) = false := by simpa using hxv
            have HXV := Lib.hid hxv
            clear hxv
            go_wp2_with fail
            go_roundw
            case rel => exact ⟨j + 1, by omega, by go_num, by
              rw [HT.out]
              congr 1
              simp only [List.mem_append, List.mem_singleton]
              have : ¬ v = x := fun e => HXV.out e.symm
              simp [this], by simp⟩
            case measure => simp [intOf]; omega
        · obtain rfl : m = j := by omega
          rw [List.take_of_length_le (by have := HM.out; omega)] at hh
          by_cases hin : v = 0 ∨ v ∈ D
          · rw [decide_eq_true hin] at hh
            subst hh
            have HIN := Lib.hid hin
            clear hin
            go_wp2_with fail
            go_roundw
            case rel => exact ⟨k0 + 1, by omega, by go_num, by rw [HSN.out]; unfold addS; rw [if_pos HIN.out, ← HM.out]; exact HO2.out, HBN.out⟩
            case measure => simp [intOf]; omega
          · rw [decide_eq_false hin] at hh
            subst hh
            have HIN := Lib.hid hin
            clear hin
            go_upto_region 13 with (fail)
            go_wp2_with (at_builtin; refine wpList_append_lies _ rfl (.tmp 35) (.tmp 37) 98 rfl C 47 i0 (.int .u64 0) 1 8 Try.underlying98 hi hz0 hz1 hz2 rfl (by decide) (.slice a' m c') m (rowsU D) rfl (HO2.out.alloc _) ⟨wr.heap.size, 0, none⟩ 1 1 [.int .u64 v] rfl rfl (by intro j u hj; exact newsU hj) (by simp [Value.oneCell']) (by decide) (by unfold maxLen; omega) (by omega) (by simp; omega) (wr.heap.size + 1) (by simp) ?_; intro g' cap' w4 hown3 hgrow hat hltg)
            have hb3 : Below C w w4 := app_below HO2.out HBN.out (by omega) hgrow
            have HB3 := Lib.hid hb3
            have HO3 := Lib.hid hown3
            clear hb3 hown3 hgrow hat hltg
            go_wp2_with fail
            go_roundw
            case rel => exact ⟨k0 + 1, by omega, by go_num, by rw [HSN.out]; unfold addS; rw [if_neg HIN.out, List.length_append, ← HM.out, rowsU_snoc]; exact HO3.out, HB3.out⟩
            case measure => simp [intOf]; omega
    · obtain rfl : n = k0 := by omega
      rw [List.take_of_length_le (by have := HN.out; omega)] at hown hlen
      have HOWN := Lib.hid hown
      have HBB := Lib.hid hbel
      clear hown hbel
      go_wp2_with fail
      go_ret
      exact ⟨C, _, by rw [HC.out]; exact Nat.le_refl _, rfl, HOWN.out, by rw [← HC.out]; exact HBB.out⟩
theorem oddw (v : Int) (h : 0 ≤ v ∧ v < 18446744073709551616) (w : World) : Calls Try.prog 37 #[.int .u64 v] w fun e w' => e = .returned (.bool (v % 2 == 1)) ∧ w = w' := by
  have e1 : bits .and .u64 v 1 = v % 2 := mask_u64 1 (by decide) v h.1 (by omega)
  go_enter Try.func37, Try.ntmps37
  go_wp2_with fail
  go_ret
  exact ⟨rfl, rfl⟩
theorem roddw (v : Int) (h : 0 ≤ v ∧ v < 18446744073709551616) (w : World) : Calls Try.prog 38 #[.int .u64 v] w fun e w' => e = .returned (.bool (v % 2 == 1)) ∧ w = w' := by
  have e1 : v.tmod 2 = v % 2 := Int.tmod_eq_emod_of_nonneg h.1
  have e2 : IntKind.u64.wrap (v % 2) = v % 2 := by rw [IntKind.wrap_u64]; omega
  go_enter Try.func38, Try.ntmps38
  go_wp2_with fail
  go_ret
  exact ⟨rfl, rfl⟩
end Go.Proofs.Ytadaeddklahjjaa
