/- The law NotesFull. -/
import Derived.Test.YteofbgbjibbdaadNlV
import Derived.Test.YteofbgbjibbdaadNlS
namespace Go.Proofs.Yteofbgbjibbdaad
open Go.RowKit
set_option linter.unusedVariables false

abbrev ft (i : Int) : Nv := (i, 0, 9, 0, 0, 0, 0, 0)
def fullL : Nat → List Nv
  | 0 => []
  | k + 1 => fullL k ++ [ft (k : Int)]
theorem fullL_len : ∀ k, (fullL k).length = k
  | 0 => rfl
  | k + 1 => by rw [fullL, List.length_append, fullL_len k]; rfl
theorem iskf9 : iskf 9 = true := by decide
theorem addF_ok {L : List Nv} {x : Nv} (h1 : iskf x.k = true) (h2 : lowN L x = false) (h3 : L.length < 1048576) : addF L x = 0 := by
  unfold addF
  rw [if_neg, if_neg (by omega)]
  intro e
  rcases e with e | e
  · exact absurd (h1.symm.trans e) (by decide)
  · exact absurd (h2.symm.trans e) (by decide)
theorem addF_full {L : List Nv} {x : Nv} (h1 : iskf x.k = true) (h2 : lowN L x = false) (h3 : 1048576 ≤ L.length) : addF L x = 3 := by
  unfold addF
  rw [if_neg, if_pos h3]
  intro e
  rcases e with e | e
  · exact absurd (h1.symm.trans e) (by decide)
  · exact absurd (h2.symm.trans e) (by decide)
theorem addF_not {L : List Nv} {x : Nv} (h : iskf x.k = false) : addF L x = 1 := by
  unfold addF
  rw [if_pos (.inl h)]
theorem lowN_full (k : Nat) (z : Int) (h : (k : Int) - 1 ≤ z) : lowN (fullL k) (ft z) = false := by
  unfold lowN
  cases k with
  | zero => rfl
  | succ k =>
    have e : (fullL (k + 1)).getLast? = some (ft (k : Int)) := by rw [fullL]; simp
    rw [e]
    exact decide_eq_false (show ¬ z < (k : Int) by omega)
theorem full_next {k : Nat} (h : k < 1048576) : addF (fullL k) (ft (k : Int)) = 0 ∧ addL (fullL k) (ft (k : Int)) = fullL (k + 1) := by
  have h1 : addF (fullL k) (ft (k : Int)) = 0 := addF_ok iskf9 (lowN_full k k (by omega)) (by rw [fullL_len]; exact h)
  refine ⟨h1, ?_⟩
  unfold addL
  rw [if_pos h1]
  rfl
theorem full_drop (k : Nat) : (fullL (k + 1)).drop k = [ft (k : Int)] := by
  rw [fullL, List.drop_append, List.drop_eq_nil_of_le (by rw [fullL_len]; omega), fullL_len]
  simp
set_option maxHeartbeats 8000000 in
set_option maxRecDepth 100000 in
theorem walk_NotesFull (w : World) :
    Calls Try.prog 5 #[] w fun e w' => e = .returned (.bool true) ∧ Below w.heap.size w w' := by
  obtain ⟨P, hP⟩ : ∃ P, P = w.heap.size := ⟨_, rfl⟩
  have HP := Lib.hid hP
  obtain ⟨N, hM⟩ : ∃ N : Nat, N = 1048576 := ⟨_, rfl⟩
  have HM := Lib.hid hM
  clear hP hM
  go_enter Try.func5, Try.ntmps5
  go_wp2_with fail
  refine (newl _).mono ?_
  rintro e w2 ⟨rfl, hL0, k1⟩
  rw [← HP.out] at hL0 k1 ⊢
  go_wp2_with fail
  go_loopw [2] (fun i wr => ∃ k : Nat, Hid (k ≤ N) ∧ i = .int .i64 k ∧ IsL wr P (fullL k) ∧ Below P w wr) (fun i _ => N - (intOf i).toNat)
  case atStart => exact ⟨0, by show _ ≤ _; omega, rfl, hL0, k1⟩
  case round =>
    obtain ⟨k, hk, rfl, hL, hbr⟩ := hrel
    have hsz := hbr.size
    by_cases hlt : k < N
    · have hd : decide ((k : Int) < 1048576) = true := decide_eq_true (by have := HM.out; omega)
      have hkN : k < 1048576 := by have := HM.out; omega
      obtain ⟨f1, f2⟩ := full_next hkN
      have F1 := Lib.hid f1
      have F2 := Lib.hid f2
      have hlen : Hid ((fullL k).length ≤ 1048576) := by show _ ≤ _; rw [fullL_len]; omega
      have hw1 : IntKind.i64.wrap ((k : Int) + 1) = (k : Int) + 1 := IntWalk.i64_in _ (by omega)
      have HK := Lib.hid hkN
      have HLT := Lib.hid hlt
      clear f1 f2 hkN hlt
      go_wp2_with fail
      refine (addl (ft (k : Int)) _ _ (fullL k) hL hlen.out).mono ?_
      rintro e w4 ⟨rfl, hL4, k4⟩
      rw [F1.out]
      rw [F2.out] at hL4
      have hbr4 := hbr.trans k4
      clear k4 hL
      go_wp2_with fail
      go_roundw
      case rel => exact ⟨k + 1, by show _ ≤ _; have := HLT.out; omega, by go_num, hL4, hbr4⟩
      case measure => have := HLT.out; simp [intOf]; omega
    · obtain rfl : N = k := by have := hk.out; omega
      have hd : decide ((N : Int) < 1048576) = false := decide_eq_false (by have := HM.out; omega)
      have hlen : Hid ((fullL N).length ≤ 1048576) := by show _ ≤ _; rw [fullL_len]; have := HM.out; omega
      have F1 : Hid (addF (fullL N) (ft 1073741824) = 3) := addF_full iskf9 (lowN_full _ _ (by have := HM.out; omega)) (by rw [fullL_len]; have := HM.out; omega)
      have F2 : Hid (addL (fullL N) (ft 1073741824) = fullL N) := by show _ = _; unfold addL; rw [F1.out, if_neg (by decide)]
      have G1 : Hid (addF (fullL N) (1073741824, 0, 0, 0, 0, 0, 0, 0) = 1) := addF_not (by decide)
      have G2 : Hid (addL (fullL N) (1073741824, 0, 0, 0, 0, 0, 0, 0) = fullL N) := by show _ = _; unfold addL; rw [G1.out, if_neg (by decide)]
      have D1 : Hid ((fullL N).drop (1048575 : Int).toNat = [ft ((1048575 : Nat) : Int)]) := by
        show _ = _
        rw [HM.out]
        exact full_drop 1048575
      have NI : Hid (((fullL N).length : Int) = 1048576) := by show _ = _; rw [fullL_len]; have := HM.out; omega
      clear hk
      go_wp2_with fail
      refine (addl (ft 1073741824) _ _ (fullL N) hL hlen.out).mono ?_
      rintro e w4 ⟨rfl, hL4, k4⟩
      rw [F1.out]
      rw [F2.out] at hL4
      have hb4 := hbr.trans k4
      clear k4 hL hd
      go_wp2_with fail
      refine (addl (1073741824, 0, 0, 0, 0, 0, 0, 0) _ _ (fullL N) hL4 hlen.out).mono ?_
      rintro e w5 ⟨rfl, hL5, k5⟩
      rw [G1.out]
      rw [G2.out] at hL5
      have hb5 := hb4.trans k5
      clear k5 hL4
      go_wp2_with fail
      refine (sincew _ _ (fullL N) 1048575 hL5 hlen.out).mono ?_
      rintro e w6 ⟨u, rfl, hT, k6⟩
      rw [D1.out] at hT
      have hL6 := nl_below hL5 k6
      have hb6 := hb5.trans (k6.mono (by rw [HP.out]; exact hb5.size))
      clear k6 hL5
      obtain ⟨_, ⟨_, h0⟩ | ⟨g, cap, rfl, hgB, hg, hn, hc, hx⟩⟩ := hT
      · simp at h0
      have e0 : w6.cell? ⟨g, 0, none⟩ = some (.int .i64 1048575) := (hx 0 (.int .i64 ((1048575 : Nat) : Int)) rfl).1
      clear hx
      unfold maxLen at hc
      simp only [List.length_cons, List.length_nil] at hn
      go_wp2_with fail
      refine (countl _ _ _ _ hL6 (Nat.le_trans hlen.out (by decide))).mono ?_
      rintro e w7 ⟨rfl, rfl⟩
      rw [NI.out]
      clear hL6
      go_wp2_with fail
      refine (lives09 _).mono ?_
      rintro e w8 ⟨rfl, k8⟩
      have hb8 := hb6.trans (k8.mono (by rw [HP.out]; exact hb6.size))
      clear k8
      go_wp2_with fail
      go_ret
      exact ⟨rfl, HP.out ▸ hb8⟩
end Go.Proofs.Yteofbgbjibbdaad
