/- The chapter's Dropped. -/
import Derived.Test.YteofbgbjibbdaacNrT3
import Derived.Test.YteofbgbjibbdaacNlD
import Derived.LoopTactic
import Derived.IntWalk
namespace Go.Proofs.Yteofbgbjibbdaac
open Go.RowKit
set_option linter.unusedVariables false

def lastI (L : List Nv) (ref : Int) (j : Nat) : Int × Bool := match (idx (soD ref) L j).getLast? with
  | some z => (z, true)
  | none => (0, false)
theorem lastI_hit {L : List Nv} {ref : Int} {m : Nat} {x : Nv} (h : L[m]? = some x) (hs : soD ref x = true) : lastI L ref (m + 1) = ((m : Int), true) := by
  unfold lastI; rw [idx_hit h hs]; simp
theorem lastI_miss {L : List Nv} {ref : Int} {m : Nat} {x : Nv} (h : L[m]? = some x) (hs : soD ref x = false) : lastI L ref (m + 1) = lastI L ref m := by
  unfold lastI; rw [idx_miss h hs]
set_option maxHeartbeats 2000000 in
set_option maxRecDepth 100000 in
theorem rdropped {w : World} {p : Nat} {L : List Nv} {T : Nat → Prop} (h : Nrs w p L T) (hM : L.length ≤ 1048576) (ref : Int) :
    Calls Try.prog 66 #[.pointer (some ⟨p, 0, none⟩), .int .i64 ref] w fun e w' => e = .returned (.tuple #[.int .i64 (dropF L ref).1, .bool (dropF L ref).2]) ∧ w = w' := by
  obtain ⟨v, h⟩ := h
  have hF : dropF L ref = lastI L ref L.length := rfl
  have hc := h.c0
  have hrow := h.row
  have hnil := h.nil
  clear h
  obtain ⟨n, hn⟩ : ∃ n, n = L.length := ⟨_, rfl⟩
  rw [← hn] at hF hM hrow hnil
  obtain ⟨a, cap, hv, hcells⟩ : ∃ a cap, v = .slice a n cap ∧ (0 < n → ∃ g, a = some ⟨g, 0, none⟩ ∧ n ≤ cap ∧ ∀ j u, (rowsR L)[j]? = some u → w.cell? ⟨g, j, none⟩ = some u) := by
    obtain ⟨_, ⟨rfl, h0⟩ | ⟨g, cap, rfl, h1, h2, h3, h4, h5⟩⟩ := Lst.of_own hrow
    · exact ⟨none, 0, by rw [h0], fun h => by omega⟩
    · exact ⟨_, cap, rfl, fun _ => ⟨g, rfl, h3, fun j u hj => (h5 j u hj).1⟩⟩
  rw [hv] at hc
  have HC := Lib.hid hcells
  have HF := Lib.hid hF
  have HN := Lib.hid hn
  have y0 : IntKind.i64.wrap ((n : Int) - 1) = (n : Int) - 1 := IntWalk.i64_in _ (by omega)
  clear hcells hF hn hrow hnil hv
  go_enter Try.func66, Try.ntmps66
  go_wp2_with fail
  go_loopw [6] (fun i wr => ∃ j : Nat, j ≤ n ∧ i = .int .i64 ((j : Int) - 1) ∧ lastI L ref n = lastI L ref j ∧ w = wr) (fun i _ => (intOf i + 1).toNat)
  case atStart => exact ⟨n, Nat.le_refl _, rfl, rfl, rfl⟩
  case round =>
    obtain ⟨j, hj, rfl, hl, rfl⟩ := hrel
    cases j with
    | zero =>
      have d0 : decide ((0 : Int) ≤ ((0 : Nat) : Int) - 1) = false := by decide
      have hz : dropF L ref = (0, false) := HF.out.trans (hl.trans rfl)
      have HZ := Lib.hid hz
      clear hz hl
      go_wp2_with fail
      go_ret2
      exact ⟨ret_ib HZ.out, rfl⟩
    | succ m =>
      rw [show (((m + 1 : Nat) : Int) - 1) = (m : Int) by omega]
      obtain ⟨g, rfl, hnc, hcell⟩ := HC.out (by omega)
      have hmL : m < L.length := by have := HN.out; omega
      obtain ⟨x, hx⟩ : ∃ x, L[m]? = some x := ⟨_, List.getElem?_eq_getElem hmL⟩
      have hxx : L[m] = x := by rw [List.getElem?_eq_getElem hmL] at hx; simpa using hx
      have hr := fun t (ht : t < 8) => rowsR_at L m t hmL ht
      rw [hxx] at hr
      obtain ⟨xs, xth, xk, xr, xb, xc, xd, xv⟩ := x
      have c2 : w.cell? ⟨g, m * 8 + 2, none⟩ = some (.int .i64 xk) := hcell _ _ ((hr 2 (by omega)).trans rfl)
      have c3 : w.cell? ⟨g, m * 8 + 3, none⟩ = some (.int .i64 xr) := hcell _ _ ((hr 3 (by omega)).trans rfl)
      have j0 : (0 : Int) ≤ (m : Int) := by omega
      have j1 : (m : Int) < (n : Int) := by omega
      have y1 : IntKind.i64.wrap ((m : Int) - 1) = (m : Int) - 1 := IntWalk.i64_in _ (by omega)
      clear hr hcell y0 hxx hmL
      by_cases hk : xk = 1
      · subst hk
        by_cases hrr : xr = ref
        · subst hrr
          have hz : dropF L xr = ((m : Int), true) := HF.out.trans (hl.trans (lastI_hit hx (by simp [soD, Nv.k, Nv.r])))
          have HZ := Lib.hid hz
          clear hz hl hx
          go_wp2_with fail
          go_ret2
          exact ⟨ret_ib HZ.out, rfl⟩
        · have hl2 := hl.trans (lastI_miss hx (by simp [soD, Nv.k, Nv.r, hrr]))
          have b1 : (xr == ref) = false := by simpa using hrr
          clear hl hx
          go_wp2_with fail
          go_roundw
          case rel => exact ⟨m, by omega, rfl, hl2, trivial⟩
          case measure => simp [intOf]
      · have hl2 := hl.trans (lastI_miss hx (by simp [soD, Nv.k, Nv.r, hk]))
        have b1 : (xk == 1) = false := by simpa using hk
        clear hl hx
        go_wp2_with fail
        go_roundw
        case rel => exact ⟨m, by omega, rfl, hl2, trivial⟩
        case measure => simp [intOf]
end Go.Proofs.Yteofbgbjibbdaac
