/- The chapter's lines: names, verb, rest, gets, bare, bounds. -/
import Derived.Test.YtifbcejekdhnlaaLn7
import Derived.Test.YtifbcejekdhnlaaFeMath
import Derived.IntWalk
namespace Go.Proofs.Ytifbcejekdhnlaa
open Go.RowKit Go.Maps
set_option linter.unusedVariables false

def namesL : List (List UInt8) := tbF.map (·.1)
def verbN (n : List UInt8) : Nat := match formOf n with | some f => f.verb | none => 0
theorem verbN_at : ∀ k, k < 13 → ∀ n, namesL[k]? = some n → verbN n = k + 1 := by
  intro k hk n hn
  rcases (by omega : k = 0 ∨ k = 1 ∨ k = 2 ∨ k = 3 ∨ k = 4 ∨ k = 5 ∨ k = 6 ∨ k = 7 ∨ k = 8 ∨ k = 9 ∨ k = 10 ∨ k = 11 ∨ k = 12) with rfl | rfl | rfl | rfl | rfl | rfl | rfl | rfl | rfl | rfl | rfl | rfl | rfl <;>
  · simp only [namesL, tbF, List.map_cons, List.map_nil, List.getElem?_cons_zero, List.getElem?_cons_succ, Option.some.injEq] at hn
    subst hn
    decide
theorem verbN_no {n : List UInt8} (h : ∀ (k : Nat) (x : List UInt8), namesL[k]? = some x → x ≠ n) : verbN n = 0 := by
  unfold verbN
  cases hf : formOf n with
  | none => rfl
  | some f =>
    exfalso
    have := formIn_in hf
    obtain ⟨k, hk⟩ := List.mem_iff_getElem?.mp this
    exact h k n (by unfold namesL; rw [List.getElem?_map, hk]; rfl) rfl
theorem verbN_some {n : List UInt8} {f : Form} (h : formOf n = some f) : verbN n = f.verb := by unfold verbN; rw [h]
theorem verbN_none {n : List UInt8} (h : formOf n = none) : verbN n = 0 := by unfold verbN; rw [h]
set_option maxHeartbeats 1000000 in
theorem rnames (w : World) : Calls Try.prog 44 #[] w fun e w' => e = .returned (.slice (some ⟨w.heap.size, 0, none⟩) 13 13) ∧ TxAt w' w.heap.size 0 namesL ∧ Below w.heap.size w w' := by
  go_enter Try.func44, Try.ntmps44
  go_wp2_with fail
  go_ret
  refine ⟨rfl, fun j x hj => ?_, (Below.refl _ _).alloc (Nat.le_refl _) _⟩
  rw [Nat.zero_add, World.cell?_alloc_mark]
  have hl : j < 13 := (List.getElem?_eq_some_iff.mp hj).1
  rcases (by omega : j = 0 ∨ j = 1 ∨ j = 2 ∨ j = 3 ∨ j = 4 ∨ j = 5 ∨ j = 6 ∨ j = 7 ∨ j = 8 ∨ j = 9 ∨ j = 10 ∨ j = 11 ∨ j = 12) with rfl | rfl | rfl | rfl | rfl | rfl | rfl | rfl | rfl | rfl | rfl | rfl | rfl <;>
  · simp only [namesL, tbF, List.map_cons, List.map_nil, List.getElem?_cons_zero, List.getElem?_cons_succ, Option.some.injEq] at hj
    subst hj
    rfl
set_option maxHeartbeats 2000000 in
set_option maxRecDepth 100000 in
theorem rverb (n : List UInt8) (w : World) : Calls Try.prog 36 #[.string ⟨n.toArray⟩] w fun e w' => e = .returned (.int .u8 (verbN n)) ∧ Below w.heap.size w w' := by
  go_enter Try.func36, Try.ntmps36
  go_wp2_with fail
  refine (rnames w).mono ?_
  rintro e W ⟨rfl, hT, hb⟩
  obtain ⟨g, hg⟩ : ∃ g, w.heap.size = g := ⟨_, rfl⟩
  have HB := Lib.hid hb
  rw [hg] at hT ⊢
  have HT := Lib.hid hT
  clear hT hb hg
  go_wp2_with fail
  go_loopw [4] (fun i wr => ∃ k : Nat, k ≤ 13 ∧ i = .int .i64 k ∧ W = wr ∧ Hid (∀ j x, j < k → namesL[j]? = some x → x ≠ n)) (fun i _ => 13 - (intOf i).toNat)
  case atStart => exact ⟨0, by omega, rfl, rfl, fun j x hj => by omega⟩
  case round =>
    obtain ⟨k, hk, rfl, rfl, hno⟩ := hrel
    by_cases hlt : k < 13
    · obtain ⟨x, hx⟩ : ∃ x, namesL[k]? = some x := ⟨_, List.getElem?_eq_getElem hlt⟩
      have c0 := HT.out k x hx
      rw [Nat.zero_add] at c0
      have HX := Lib.hid hx
      clear hx
      by_cases hxn : x = n
      · have e1 : (x == n) = true := by simpa using hxn
        have hw : IntKind.u8.wrap ((k : Int) + 1) = (k : Int) + 1 := IntWalk.u8_in _ (by omega)
        have HV := Lib.hid (show verbN n = k + 1 from verbN_at k hlt n (by rw [← hxn]; exact HX.out))
        clear hxn
        go_wp2_with fail
        go_ret
        exact ⟨by rw [HV.out]; rfl, HB.out⟩
      · have e1 : (x == n) = false := by simpa using hxn
        go_wp2_with fail
        go_roundw
        case rel => exact ⟨k + 1, by omega, by go_num, trivial, fun j y hj hy => by
          by_cases hjk : j = k
          · subst hjk
            rw [HX.out] at hy
            injection hy with hy
            rw [← hy]; exact hxn
          · exact hno.out j y (by omega) hy⟩
        case measure => simp [intOf]; omega
    · have hd : decide ((k : Int) < 13) = false := decide_eq_false (by omega)
      have HV := Lib.hid (verbN_no fun j x hj => hno.out j x (by have := (List.getElem?_eq_some_iff.mp hj).1; have e : namesL.length = 13 := rfl; omega) hj)
      go_wp2_with fail
      go_ret
      exact ⟨by rw [HV.out]; rfl, HB.out⟩
/-- Letters of what stands behind a verb's keys. -/
def lett (f : Nat) : UInt8 := if f = 1 then 102 else if f = 2 then 101 else if f = 3 then 98 else if f = 4 then 105 else 121
def letters (f : Form) : List UInt8 := f.fields.map lett
theorem form_cases {f : Form} (h : f ∈ tbF.map (·.2)) : f = ⟨1, 1, 64, [], 0, false⟩ ∨ f = ⟨2, 1, 64, [], 0, false⟩ ∨ f = ⟨3, 1, 1, [1, 2, 3], 0, true⟩ ∨ f = ⟨4, 1, 1, [1, 2, 3], 0, true⟩ ∨ f = ⟨5, 1, 1, [1, 2, 3], 0, true⟩ ∨ f = ⟨6, 1, 1, [1, 2, 3, 4], 0, true⟩ ∨ f = ⟨7, 1, 1, [], 0, true⟩ ∨ f = ⟨8, 1, 1, [2], 0, true⟩ ∨ f = ⟨9, 1, 1, [5], 0, true⟩ ∨ f = ⟨10, 1, 1, [5], 0, true⟩ ∨ f = ⟨11, 0, 0, [2], 1, true⟩ ∨ f = ⟨12, 0, 0, [], 0, false⟩ ∨ f = ⟨13, 0, 0, [], 0, false⟩ := by
  simpa [tbF] using h
theorem form_mem {n : List UInt8} {f : Form} (h : formOf n = some f) : f ∈ tbF.map (·.2) := by
  have := formIn_in h
  exact List.mem_map.mpr ⟨_, this, rfl⟩
set_option maxHeartbeats 4000000 in
theorem rrest (f : Form) (hf : f ∈ tbF.map (·.2)) (w : World) : Calls Try.prog 41 #[.int .u8 f.verb] w fun e w' => e = .returned (.string ⟨(letters f).toArray⟩) ∧ w = w' := by
  rcases form_cases hf with rfl | rfl | rfl | rfl | rfl | rfl | rfl | rfl | rfl | rfl | rfl | rfl | rfl
  all_goals
    clear hf
    go_enter Try.func41, Try.ntmps41
    go_wp2_with fail
    go_ret
    exact ⟨rfl, rfl⟩
set_option maxHeartbeats 4000000 in
theorem rgets (f : Form) (hf : f ∈ tbF.map (·.2)) (w : World) : Calls Try.prog 38 #[.int .u8 f.verb] w fun e w' => e = .returned (.bool (decide (f.most = 64))) ∧ w = w' := by
  rcases form_cases hf with rfl | rfl | rfl | rfl | rfl | rfl | rfl | rfl | rfl | rfl | rfl | rfl | rfl
  all_goals
    clear hf
    go_enter Try.func38, Try.ntmps38
    go_wp2_with fail
    go_ret
    exact ⟨rfl, rfl⟩
set_option maxHeartbeats 4000000 in
theorem rbare (f : Form) (hf : f ∈ tbF.map (·.2)) (w : World) : Calls Try.prog 39 #[.int .u8 f.verb] w fun e w' => e = .returned (.bool (decide (f.most = 0))) ∧ w = w' := by
  rcases form_cases hf with rfl | rfl | rfl | rfl | rfl | rfl | rfl | rfl | rfl | rfl | rfl | rfl | rfl
  all_goals
    clear hf
    go_enter Try.func39, Try.ntmps39
    go_wp2_with fail
    go_ret
    exact ⟨rfl, rfl⟩
set_option maxHeartbeats 8000000 in
theorem rbounds (f : Form) (hf : f ∈ tbF.map (·.2)) (w : World) : Calls Try.prog 37 #[.int .u8 f.verb] w fun e w' => e = .returned (.tuple #[.int .i64 (f.fewest : Nat), .int .i64 (f.greatest : Nat)]) ∧ w = w' := by
  have HR := Lib.hid (rrest f hf)
  have HG := Lib.hid (rgets f hf)
  have HB := Lib.hid (rbare f hf)
  rcases form_cases hf with rfl | rfl | rfl | rfl | rfl | rfl | rfl | rfl | rfl | rfl | rfl | rfl | rfl
  all_goals
    clear hf
    try simp [letters, lett] at HR
    go_enter Try.func37, Try.ntmps37
    go_wp2_with (first
      | (go_at_call 41; refine (HR.out _).mono ?_; rintro e w1 ⟨rfl, rfl⟩)
      | (go_at_call 38; refine (HG.out _).mono ?_; rintro e w1 ⟨rfl, rfl⟩)
      | (go_at_call 39; refine (HB.out _).mono ?_; rintro e w1 ⟨rfl, rfl⟩))
    go_ret2
    exact ⟨rfl, rfl⟩
end Go.Proofs.Ytifbcejekdhnlaa
