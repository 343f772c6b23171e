/- The chapter's Of. -/
import Derived.Test.YteofbgbjibbdaacNrT3
import Derived.Test.YteofbgbjibbdaacNlO
import Derived.LoopTactic
import Derived.IntWalk
namespace Go.Proofs.Yteofbgbjibbdaac
open Go.RowKit
set_option linter.unusedVariables false

theorem take_filter {L : List Nv} {m : Nat} {x : Nv} (so : Nv → Bool) (h : L[m]? = some x) : (L.take (m + 1)).filter so = if so x then (L.take m).filter so ++ [x] else (L.take m).filter so := by
  have hm : m < L.length := by
    rcases Nat.lt_or_ge m L.length with h' | h'
    · exact h'
    · rw [List.getElem?_eq_none h'] at h; simp at h
  rw [List.take_succ_eq_append_getElem hm, List.filter_append]
  rw [List.getElem?_eq_getElem hm] at h
  simp at h
  rw [h]
  by_cases hs : so x = true
  · simp [hs]
  · simp [hs]
set_option maxHeartbeats 4000000 in
set_option maxRecDepth 100000 in
theorem rof {w : World} {p : Nat} {L : List Nv} {T : Nat → Prop} (h : Nrs w p L T) (hM : L.length ≤ 1000000) (kk : Int) :
    Calls Try.prog 63 #[.pointer (some ⟨p, 0, none⟩), .int .i64 kk] w (IsLst w 8 (L.filter (soK kk)).length (rowsR (L.filter (soK kk)))) := by
  obtain ⟨i0, hi, hz0, hz1, hz2⟩ := info_parts info_rnote
  obtain ⟨v, h⟩ := h
  have hc := h.c0
  have hrow := h.row
  clear h
  obtain ⟨n, hn⟩ : ∃ n, n = L.length := ⟨_, rfl⟩
  rw [← hn] at hM hrow
  obtain ⟨a, cap, hv, hcells⟩ : ∃ a cap, v = .slice a n cap ∧ (0 < n → ∃ g, a = some ⟨g, 0, none⟩ ∧ g < w.heap.size ∧ n ≤ cap ∧ ∀ j u, (rowsR L)[j]? = some u → w.cell? ⟨g, j, none⟩ = some u) := by
    obtain ⟨_, ⟨rfl, h0⟩ | ⟨g, cap, rfl, h1, h2, h3, h4, h5⟩⟩ := Lst.of_own hrow
    · exact ⟨none, 0, by rw [h0], fun h => by omega⟩
    · exact ⟨_, cap, rfl, fun _ => ⟨g, rfl, h2, h3, fun j u hj => (h5 j u hj).1⟩⟩
  rw [hv] at hc
  have hpC : p < w.heap.size := World.block_lt_of_cell? _ _ hc
  obtain ⟨C, hC⟩ : ∃ C, C = w.heap.size := ⟨_, rfl⟩
  rw [← hC] at hpC hcells
  have hCl : C ≤ w.heap.size := by omega
  have HC := Lib.hid hcells
  have HN := Lib.hid hn
  have HP := Lib.hid hc
  have HCC := Lib.hid hC
  clear hcells hn hrow hv hC
  go_enter Try.func63, Try.ntmps63
  go_wp2_with fail
  clear hc
  go_loopw [5, 6] (fun o i wr => ∃ k0 : Nat, k0 ≤ n ∧ i = .int .i64 k0 ∧ wr.ownsRow C 83 8 o ((L.take k0).filter (soK kk)).length (rowsR ((L.take k0).filter (soK kk))) ∧ Below C w wr) (fun _ i _ => n - (intOf i).toNat)
  case atStart => exact ⟨0, Nat.zero_le _, rfl, World.ownsRow_nil _ _ _ _, Below.refl _ _⟩
  case round =>
    obtain ⟨k0, hk0, rfl, hown, hbel⟩ := hrel
    have hsz := hbel.size
    have hlen : ((L.take k0).filter (soK kk)).length ≤ k0 := Nat.le_trans (List.length_filter_le _ _) (List.length_take_le _ _)
    have cp : wr.cell? ⟨p, 0, none⟩ = some (.slice a n cap) := (hbel.cell (p := ⟨p, 0, none⟩) hpC).trans HP.out
    by_cases hlt : k0 < n
    · obtain ⟨g, rfl, hgC, hnc, hcell⟩ := HC.out (by omega)
      have hkL : k0 < L.length := by have := HN.out; omega
      obtain ⟨x, hx⟩ : ∃ x, L[k0]? = some x := ⟨_, List.getElem?_eq_getElem hkL⟩
      have hxx : L[k0] = x := by rw [List.getElem?_eq_getElem hkL] at hx; simpa using hx
      have hr := fun t (ht : t < 8) => rowsR_at L k0 t hkL ht
      rw [hxx] at hr
      have hTF := take_filter (soK kk) hx
      obtain ⟨xs, xth, xk, xr, xb, xc, xd, xv⟩ := x
      replace hcell : ∀ t u, t < 8 → (Nv.rcells (xs, xth, xk, xr, xb, xc, xd, xv))[t]? = some u → w.cell? ⟨g, k0 * 8 + t, none⟩ = some u := fun t u ht hu => hcell _ _ ((hr t ht).trans hu)
      have e0 : wr.cell? ⟨g, k0 * 8, none⟩ = some (.int .i64 xs) := (hbel.cell (p := ⟨g, k0 * 8 + 0, none⟩) hgC).trans (hcell 0 _ (by omega) rfl)
      have e1 : wr.cell? ⟨g, k0 * 8 + 1, none⟩ = some (.int .i64 xth) := (hbel.cell (p := ⟨g, k0 * 8 + 1, none⟩) hgC).trans (hcell 1 _ (by omega) rfl)
      have e2 : wr.cell? ⟨g, k0 * 8 + 2, none⟩ = some (.int .i64 xk) := (hbel.cell (p := ⟨g, k0 * 8 + 2, none⟩) hgC).trans (hcell 2 _ (by omega) rfl)
      have e3 : wr.cell? ⟨g, k0 * 8 + 3, none⟩ = some (.int .i64 xr) := (hbel.cell (p := ⟨g, k0 * 8 + 3, none⟩) hgC).trans (hcell 3 _ (by omega) rfl)
      have e4 : wr.cell? ⟨g, k0 * 8 + 4, none⟩ = some (.int .i64 xb) := (hbel.cell (p := ⟨g, k0 * 8 + 4, none⟩) hgC).trans (hcell 4 _ (by omega) rfl)
      have e5 : wr.cell? ⟨g, k0 * 8 + 5, none⟩ = some (.int .i64 xc) := (hbel.cell (p := ⟨g, k0 * 8 + 5, none⟩) hgC).trans (hcell 5 _ (by omega) rfl)
      have e6 : wr.cell? ⟨g, k0 * 8 + 6, none⟩ = some (.int .i64 xd) := (hbel.cell (p := ⟨g, k0 * 8 + 6, none⟩) hgC).trans (hcell 6 _ (by omega) rfl)
      have e7 : wr.cell? ⟨g, k0 * 8 + 7, none⟩ = some (.int .i64 xv) := (hbel.cell (p := ⟨g, k0 * 8 + 7, none⟩) hgC).trans (hcell 7 _ (by omega) rfl)
      have j0 : (0 : Int) ≤ (k0 : Int) := by omega
      have j1 : (k0 : Int) < (n : Int) := by omega
      clear hcell hr hxx hx hkL
      generalize (L.take k0).filter (soK kk) = M at *
      by_cases hkk : xk = kk
      · subst hkk
        rw [if_pos (by simp [soK, Nv.k])] at hTF
        have HT := Lib.hid hTF
        clear hTF
        go_wp2_with (at_builtin; refine wpList_append_own _ rfl _ _ 73 rfl C 83 i0 (.agg #[.int .i64 0, .int .i64 0, .int .i64 0, .int .i64 0, .int .i64 0, .int .i64 0, .int .i64 0, .int .i64 0]) 8 64 Try.underlying73 hi hz0 hz1 hz2 rfl (by decide) _ _ _ rfl (hown.alloc _) ⟨wr.heap.size, 0, none⟩ 1 1 (rcells xs xth xk xr xb xc xd xv) rfl rfl ?c1 ?c2 ?c3 ?c4 ?c5 ?_)
        case c1 => intro q u hq; exact news8R hq
        case c2 => simp [rcells, Value.oneCell']
        case c3 => unfold maxLen; omega
        case c4 => omega
        case c5 => simp; omega
        intro v' w3 hown' hgrow _
        have R := app_below hown hbel hCl hgrow
        clear hgrow hown e0 e1 e2 e3 e4 e5 e6 e7 cp
        go_wp2
        go_roundw
        case rel => exact ⟨k0 + 1, by omega, by go_num, by rw [HT.out, rowsR_snoc, List.length_append]; exact hown', R⟩
        case measure => simp [intOf]; omega
      · have b1 : (xk == kk) = false := by simpa using hkk
        rw [if_neg (by simp [soK, Nv.k, hkk])] at hTF
        have HT := Lib.hid hTF
        have HO := Lib.hid hown
        clear hTF hown
        go_wp2_with fail
        go_roundw
        case rel => exact ⟨k0 + 1, by omega, by go_num, by rw [HT.out]; exact HO.out, hbel⟩
        case measure => simp [intOf]; omega
    · obtain rfl : n = k0 := by omega
      have ht : L.take n = L := by rw [HN.out]; exact List.take_length
      rw [ht] at hown
      have F := Lst.of_own hown
      clear hown
      go_wp2_with fail
      go_ret
      rw [HCC.out] at F hbel
      exact ⟨_, rfl, F, hbel⟩
end Go.Proofs.Yteofbgbjibbdaac
