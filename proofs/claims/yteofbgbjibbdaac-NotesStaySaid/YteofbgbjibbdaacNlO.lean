/- Lists of notes: the notes of a kind. -/
import Derived.Test.YteofbgbjibbdaacNlD
namespace Go.Proofs.Yteofbgbjibbdaac
open Go.RowKit
set_option linter.unusedVariables false

theorem clipn (a : Option Addr) (n c : Nat) (w : World) (hn : n ≤ c) (hc : c ≤ maxLen) (h0 : a = none → n = 0 ∧ c = 0) :
    Calls Try.prog 91 #[.slice a n c] w fun e w' => e = .returned (.slice a n n) ∧ w = w' := by
  unfold maxLen at hc
  cases a with
  | none =>
    obtain ⟨rfl, rfl⟩ := h0 rfl
    go_enter Try.func91, Try.ntmps91
    go_wp2
    go_ret
    exact ⟨rfl, rfl⟩
  | some a =>
    clear h0
    go_enter Try.func91, Try.ntmps91
    go_wp2
    go_ret
    exact ⟨rfl, rfl⟩
/-- The notes at these places. -/
def pick (L : List Nv) (I : List Int) : List Nv := I.filterMap fun z => L[z.toNat]?
theorem pick_idx (so : Nv → Bool) (L : List Nv) : ∀ k, k ≤ L.length → pick L (idx so L k) = (L.take k).filter so
  | 0, _ => by simp [pick, idx]
  | k + 1, h => by
    have ih := pick_idx so L k (by omega)
    have hx : L[k]? = some L[k] := List.getElem?_eq_getElem (by omega)
    rw [List.take_succ_eq_append_getElem (by omega), List.filter_append, ← ih]
    have e : idx so L (k + 1) = idx so L k ++ if so L[k] then [(k : Int)] else [] := by simp [idx, hx]
    rw [e]
    unfold pick
    rw [List.filterMap_append]
    cases hs : so L[k] with
    | true => simp [hs, hx]
    | false => simp [hs]
theorem pick_all (so : Nv → Bool) (L : List Nv) : pick L (idx so L L.length) = L.filter so := by
  rw [pick_idx so L L.length (Nat.le_refl _), List.take_length]
theorem pick_snoc {L : List Nv} {I : List Int} {m : Nat} {x : Nv} (h : L[m]? = some x) : pick L (I ++ [(m : Int)]) = pick L I ++ [x] := by
  simp [pick, h]
theorem pick_len (L : List Nv) (I : List Int) : (pick L I).length ≤ I.length := List.length_filterMap_le _ _
set_option maxHeartbeats 4000000 in
set_option maxRecDepth 100000 in
theorem ofw (w : World) (p : Nat) (L : List Nv) (kk : Int) (h : IsL w p L) (hM : L.length ≤ 1048576) :
    Calls Try.prog 59 #[.pointer (some ⟨p, 0, none⟩), .int .u8 kk] w (IsLst w 8 (L.filter (soK kk)).length (rowsN (L.filter (soK kk)))) := by
  obtain ⟨i0, hi, hz0, hz1, hz2⟩ := info_parts info_note
  have hb0 : Below w.heap.size w (w.alloc (.cells #[.int .u8 kk] 78)) := (Below.refl _ _).alloc (Nat.le_refl _) _
  have h1 : IsL (w.alloc (.cells #[.int .u8 kk] 78)) p L := nl_below h hb0
  have hW := whereK (w.alloc (.cells #[.int .u8 kk] 78)) p L kk w.heap.size h1 hM (by simp)
  have HW := Lib.hid hW
  obtain ⟨B, hB⟩ : ∃ B, B = w.heap.size := ⟨_, rfl⟩
  have hBl : B ≤ w.heap.size := by omega
  have HB := Lib.hid hB
  clear hW h1 hB
  go_enter Try.func59, Try.ntmps59
  go_wp2_with fail
  refine HW.out.mono ?_
  rintro e w1 ⟨u, rfl, hL, hb1⟩
  have hb : Below B w w1 := HB.out ▸ hb0.trans (hb1.mono (by simp))
  have hs1 := hb.size
  have hl1 : IsL w1 p L := nl_below h (HB.out ▸ hb)
  have hle := idx_le (soK kk) L L.length
  have hmem := idx_mem (soK kk) L L.length
  have hall := pick_all (soK kk) L
  obtain ⟨I, hI⟩ : ∃ I, I = idx (soK kk) L L.length := ⟨_, rfl⟩
  rw [← hI] at hL hle hmem hall
  have HMem := Lib.hid hmem
  have HAll := Lib.hid hall
  clear hb0 hb1 hI HW h hmem hall
  obtain ⟨up, hp, hf, hown, hnil⟩ := hl1
  obtain ⟨C, hC⟩ : ∃ C, C = w1.heap.size := ⟨_, rfl⟩
  have hCl : C ≤ w1.heap.size := by omega
  have hpC : p < C := by rw [hC]; exact World.block_lt_of_cell? _ _ hp
  have HC := Lib.hid hC
  have fin : ∀ (M : List Nv) (wr : World) (v : Value), M = L.filter (soK kk) → wr.ownsRow C 80 8 v M.length (rowsN M) → Below C w1 wr → Lst wr B 8 v (L.filter (soK kk)).length (rowsN (L.filter (soK kk))) ∧ Below B w wr := by
    intro M wr v hM' ho hbr
    subst hM'
    exact ⟨(Lst.of_own ho).mono (by rw [HC.out]; exact Nat.le_trans hBl hs1), hb.trans (hbr.mono (by rw [HC.out]; exact Nat.le_trans hBl hs1))⟩
  have FIN := Lib.hid fin
  clear hC fin
  by_cases hI0 : I.length = 0
  · have hI1 : I = [] := List.eq_nil_of_length_eq_zero hI0
    subst hI1
    have hu : ∃ a c, u = .slice a 0 c := by
      obtain ⟨_, ⟨rfl, _⟩ | ⟨gi, ci, rfl, _⟩⟩ := hL
      · exact ⟨_, _, rfl⟩
      · exact ⟨_, _, rfl⟩
    obtain ⟨a, c, rfl⟩ := hu
    have hE : Hid ([] = L.filter (soK kk)) := HAll.out
    clear hL hle hI0 hown hnil hp hf
    go_wp2_with fail
    refine wp_loop_rounds 1 ?_
    rw [rounds_succ]
    go_wp2_with fail
    refine (clipn none 0 0 _ (by omega) (by unfold maxLen; omega) (fun _ => ⟨rfl, rfl⟩)).mono ?_
    rintro e w2 ⟨rfl, rfl⟩
    go_wp2_with fail
    go_ret
    obtain ⟨f1, f2⟩ := FIN.out [] w1 (.slice none 0 0) hE.out (World.ownsRow_nil _ _ _ _) (Below.refl _ _)
    exact ⟨_, rfl, HB.out ▸ f1, HB.out ▸ f2⟩
  obtain ⟨_, ⟨_, hI2⟩ | ⟨gi, ci, rfl, hgiB, hgi, hni, hci, hxi⟩⟩ := hL
  · exact absurd hI2 hI0
  obtain ⟨_, ⟨rfl, hL0⟩ | ⟨g, cap, rfl, hgB, hg, hnc, hcm, _⟩⟩ := Lst.of_own hown
  · exfalso
    obtain ⟨m, _, hm, _⟩ := HMem.out (I[0]'(by omega)) (List.getElem_mem _)
    omega
  have HCell : Hid (∀ (i j : Nat) (u : Value), i < L.length → j < 8 → L[i]?.bind (fun x => x.cells[j]?) = some u → w1.cell? ⟨g, i * 8 + j, none⟩ = some u) := by
    intro i j u hi hj he
    rw [List.getElem?_eq_getElem hi, Option.bind_some, ← rowsN_at L i j hi hj] at he
    have := hown.cells rfl _ _ he
    rwa [Addr.add_lit, Nat.zero_add] at this
  have hgC : g < C := by rw [HC.out]; exact hg
  have hgiC : gi < C := by rw [HC.out]; exact hgi
  have HXi := Lib.hid hxi
  have HP := Lib.hid hp
  unfold maxLen at hci hcm
  clear hown hnil hf hxi hp hg hgi hgB hgiB hI0
  go_wp2_with fail
  go_loopw [5, 12] (fun v i wr => ∃ j : Nat, j ≤ I.length ∧ i = .int .i64 j ∧ wr.ownsRow C 80 8 v (pick L (I.take j)).length (rowsN (pick L (I.take j))) ∧ Below C w1 wr) (fun _ i _ => I.length - (intOf i).toNat)
  case atStart => exact ⟨0, by omega, rfl, World.ownsRow_nil _ _ _ _, Below.refl _ _⟩
  case round =>
    obtain ⟨j, hj, rfl, howni, hnx⟩ := hrel
    have hsz := hnx.size
    have hpl := pick_len L (I.take j)
    have hpl2 : (I.take j).length ≤ j := List.length_take_le _ _
    by_cases hlt : j < I.length
    · obtain ⟨m, hm1, hm2, x, hx, _⟩ := HMem.out I[j] (List.getElem_mem _)
      have ci0 : wr.cell? ⟨gi, j, none⟩ = some (.int .i64 m) := box_cell hnx hgiC (by rw [← hm1]; exact (HXi.out j (.int .i64 I[j]) (by simp [ints, hlt])).1)
      have cp := box_cell hnx hpC HP.out
      have hcell := fun q u (hq : q < 8) (he : x.cells[q]? = some u) => box_cell hnx hgC (HCell.out m q u hm2 hq (by rw [hx]; exact he))
      have HN : Hid (pick L (I.take (j + 1)) = pick L (I.take j) ++ [x]) := by
        show _ = _
        rw [List.take_succ_eq_append_getElem hlt, hm1]
        exact pick_snoc hx
      clear hx hm1
      obtain ⟨s, th, k, r, b, c, d, v⟩ := x
      have e0 : wr.cell? ⟨g, m * 8, none⟩ = some (.int .i64 s) := hcell 0 _ (by omega) rfl
      have e1 : wr.cell? ⟨g, m * 8 + 1, none⟩ = some (.int .i64 th) := hcell 1 _ (by omega) rfl
      have e2 : wr.cell? ⟨g, m * 8 + 2, none⟩ = some (.int .u8 k) := hcell 2 _ (by omega) rfl
      have e3 : wr.cell? ⟨g, m * 8 + 3, none⟩ = some (.int .i64 r) := hcell 3 _ (by omega) rfl
      have e4 : wr.cell? ⟨g, m * 8 + 4, none⟩ = some (.int .i64 b) := hcell 4 _ (by omega) rfl
      have e5 : wr.cell? ⟨g, m * 8 + 5, none⟩ = some (.int .i64 c) := hcell 5 _ (by omega) rfl
      have e6 : wr.cell? ⟨g, m * 8 + 6, none⟩ = some (.int .i64 d) := hcell 6 _ (by omega) rfl
      have e7 : wr.cell? ⟨g, m * 8 + 7, none⟩ = some (.int .i64 v) := hcell 7 _ (by omega) rfl
      clear hcell
      go_wp2_with (at_builtin; refine wpList_append_own _ rfl _ _ 68 rfl C 80 i0 (.agg #[.int .i64 0, .int .i64 0, .int .u8 0, .int .i64 0, .int .i64 0, .int .i64 0, .int .i64 0, .int .i64 0]) 8 64 Try.underlying68 hi hz0 hz1 hz2 rfl (by decide) _ _ _ rfl (howni.alloc _) ⟨wr.heap.size, 0, none⟩ 1 1 (ncells s th k r b c d v) rfl rfl ?c1 ?c2 ?c3 ?c4 ?c5 ?_)
      case c1 => intro q u hq; exact news8 hq
      case c2 => simp [ncells, Value.oneCell']
      case c3 => unfold maxLen; omega
      case c4 => omega
      case c5 => simp; omega
      intro v' w3 hown' hgrow _
      have R := app_below howni hnx hCl hgrow
      clear hgrow howni e0 e1 e2 e3 e4 e5 e6 e7 ci0 cp
      go_wp2
      go_roundw
      case rel => exact ⟨j + 1, by omega, by go_num, by rw [HN.out, rowsN_snoc, List.length_append]; exact hown', R⟩
      case measure => simp [intOf]; omega
    · obtain rfl : j = I.length := by omega
      have hE : Hid (pick L (I.take I.length) = L.filter (soK kk)) := by show _ = _; rw [List.take_length]; exact HAll.out
      obtain ⟨a, n, c, hv, hn, hc, h0, L'⟩ := lst_clip howni
      obtain ⟨f1, f2⟩ := FIN.out _ wr _ hE.out howni hnx
      rw [hv]
      clear hv howni f1
      go_wp2_with fail
      refine (clipn _ _ _ _ hn hc h0).mono ?_
      rintro e w2 ⟨rfl, rfl⟩
      go_wp2_with fail
      go_ret
      rw [hE.out] at L'
      exact ⟨_, rfl, HB.out ▸ L'.mono (by rw [HC.out]; exact Nat.le_trans hBl hs1), HB.out ▸ f2⟩
end Go.Proofs.Yteofbgbjibbdaac
