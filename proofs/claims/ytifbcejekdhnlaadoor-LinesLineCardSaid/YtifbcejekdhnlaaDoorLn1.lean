/- Lines: how many words a form has. -/
import Derived.Test.YtifbcejekdhnlaaDoorLnF
namespace Go.Proofs.YtifbcejekdhnlaaDoor
open Go.RowKit Go.Maps
set_option linter.unusedVariables false

/-- A form that may be: at most four fields, none of them 0. -/
structure FormOk (f : Form) : Prop where
  len : f.fields.length ≤ 4
  pos : ∀ x ∈ f.fields, 1 ≤ x ∧ x ≤ 5
  most : f.most ≤ 64
  least : f.least ≤ f.most
  spare : f.spare ≤ f.fields.length
  few : f.least ≤ 64
  key : 1 ≤ f.most → 1 ≤ f.least
theorem formIn_mem {n : List UInt8} {f : Form} : ∀ {xs : List (List UInt8 × Form)}, formIn xs n = some f → (n, f) ∈ xs
  | [], h => by simp [formIn] at h
  | x :: xs, h => by
    unfold formIn at h
    split at h
    · next e => injection h with h; subst e; subst h; simp
    · exact List.mem_cons_of_mem _ (formIn_mem h)
theorem tbF_ok : ∀ x ∈ tbF, FormOk x.2 := by
  intro x hx
  simp only [tbF, List.mem_cons, List.not_mem_nil, or_false] at hx
  rcases hx with rfl | rfl | rfl | rfl | rfl | rfl | rfl | rfl | rfl | rfl | rfl | rfl | rfl
  all_goals exact ⟨by decide, by decide, by decide, by decide, by decide, by decide, by decide⟩
theorem formOf_ok {n : List UInt8} {f : Form} (h : formOf n = some f) : FormOk f := tbF_ok _ (formIn_mem h)
theorem getD_pos {f : Form} (h : FormOk f) {k : Nat} (hk : k < f.fields.length) : 1 ≤ f.fld k ∧ f.fld k ≤ 5 := by
  unfold Form.fld
  rw [List.getD_eq_getElem?_getD, List.getElem?_eq_getElem hk]
  exact h.pos _ (List.getElem_mem hk)
theorem getD_out {f : Form} {k : Nat} (hk : f.fields.length ≤ k) : f.fld k = 0 := by
  unfold Form.fld
  rw [List.getD_eq_getElem?_getD, List.getElem?_eq_none hk]; rfl
/-- The place of the first field that is none. -/
def endF (f : Form) : Int := if f.fields.length < 4 then (f.fields.length : Int) else -1
set_option maxHeartbeats 1000000 in
theorem indexw (g o : Nat) (f : Form) (w : World) (hf : FormOk f) (hc : ∀ j, j < 4 → w.cell? ⟨g, o + j, none⟩ = some (.int .u8 (f.fld j : Nat))) :
    Calls Tryd.prog 92 #[.slice (some ⟨g, o, none⟩) 4 4, .int .u8 0] w fun e w' => e = .returned (.int .i64 (endF f)) ∧ w = w' := by
  have hl := hf.len
  have HC := Lib.hid hc
  have HF := Lib.hid hf
  obtain ⟨n, hn⟩ : ∃ n, f.fields.length = n := ⟨_, rfl⟩
  have hl4 : n ≤ 4 := by omega
  have HN := Lib.hid hn
  clear hc hf hl hn
  go_enter Tryd.func92, Tryd.ntmps92
  go_wp2_with fail
  go_loop [8] (fun i => ∃ k : Nat, k ≤ n ∧ i = .int .i64 k) (fun i => 4 - (intOf i).toNat)
  case atStart => exact ⟨0, by omega, rfl⟩
  case round =>
    obtain ⟨k, hk, rfl⟩ := hrel
    by_cases h4 : k < 4
    · have h4' : decide ((k : Int) < 4) = true := decide_eq_true (by omega)
      have c0 := HC.out k h4
      by_cases hkn : k < n
      · have hp := getD_pos HF.out (k := k) (by rw [HN.out]; exact hkn)
        obtain ⟨x, hx⟩ : ∃ x : Nat, f.fld k = x := ⟨_, rfl⟩
        rw [hx] at c0 hp
        have d0 : ((0 : Int) == (x : Int)) = false := beq_eq_false_iff_ne.mpr (by omega)
        clear hx
        go_wp2_with fail
        go_round
        case rel => exact ⟨k + 1, by omega, by go_num⟩
        case measure => simp [intOf]; omega
      · have hE : endF f = (k : Int) := by unfold endF; rw [HN.out, if_pos (by omega)]; omega
        have hz := getD_out (f := f) (k := k) (by rw [HN.out]; omega)
        rw [hz] at c0
        have HE := Lib.hid hE
        clear hE hz
        go_wp2_with fail
        go_ret
        rw [HE.out]
        exact ⟨rfl, rfl⟩
    · have hE : endF f = -1 := by unfold endF; rw [HN.out, if_neg (by omega)]
      have h4' : decide ((k : Int) < 4) = false := decide_eq_false (by omega)
      have HE := Lib.hid hE
      clear hE
      go_wp2_with fail
      go_ret
      rw [HE.out]
      exact ⟨rfl, rfl⟩
theorem countw (f : Form) (w : World) (hf : FormOk f) :
    Calls Tryd.prog 64 #[formV f] w fun e w' => e = .returned (.int .i64 (f.fields.length : Nat)) ∧ Below w.heap.size w w' := by
  have HI := fun W h => Lib.hid (indexw w.heap.size 3 f W hf h)
  have hl := hf.len
  unfold formV formC
  by_cases h4 : f.fields.length < 4
  · have e : endF f = (f.fields.length : Int) := by unfold endF; rw [if_pos h4]
    have HE := Lib.hid e
    have d0 : decide ((f.fields.length : Int) < 0) = false := decide_eq_false (by omega)
    clear e hf
    go_enter Tryd.func64, Tryd.ntmps64
    go_wp2_with fail
    refine (HI _ ?_).out.mono ?_
    · intro j hj
      match j, hj with
      | 0, _ => simp
      | 1, _ => simp
      | 2, _ => simp
      | 3, _ => simp
    rintro e w1 ⟨rfl, rfl⟩
    rw [HE.out]
    go_wp2_with fail
    go_ret
    exact ⟨rfl, (Below.refl _ _).alloc (Nat.le_refl _) _⟩
  · have e : endF f = -1 := by unfold endF; rw [if_neg h4]
    have HE := Lib.hid e
    have e4 : f.fields.length = 4 := by omega
    have H4 := Lib.hid e4
    clear e hf e4 h4 hl
    go_enter Tryd.func64, Tryd.ntmps64
    go_wp2_with fail
    refine (HI _ ?_).out.mono ?_
    · intro j hj
      match j, hj with
      | 0, _ => simp
      | 1, _ => simp
      | 2, _ => simp
      | 3, _ => simp
    rintro e w1 ⟨rfl, rfl⟩
    rw [HE.out]
    go_wp2_with fail
    go_ret
    rw [H4.out]
    exact ⟨rfl, (Below.refl _ _).alloc (Nat.le_refl _) _⟩
end Go.Proofs.YtifbcejekdhnlaaDoor
