/- Lists of notes: where a note is so; the notes of a kind; where an item was dropped. -/
import Derived.Test.YteofbgbjibbdaacNlL
import Derived.LoopN
namespace Go.Proofs.Yteofbgbjibbdaac
open Go.RowKit
set_option linter.unusedVariables false

theorem info_int : (Try.prog.info? 3).map (fun i => (i.zero, i.size, i.bytes)) = some (some (.int .i64 0), 1, 8) := by kernel_rfl
theorem ints_snoc (l : List Int) (k : Int) : ints (l ++ [k]) = ints l ++ [.int .i64 k] := by simp [ints]
def soD (ref : Int) (x : Nv) : Bool := (x.k == 1) && (x.r == ref)
def soK (k : Int) (x : Nv) : Bool := x.k == k
theorem dropso (x : Nv) (q : Nat) (ref : Int) (w : World) (hq : w.cell? ⟨q, 0, none⟩ = some (.int .i64 ref)) :
    Calls Try.prog 95 #[x.agg, .pointer (some ⟨q, 0, none⟩)] w fun e w' => e = .returned (.bool (soD ref x)) ∧ Below w.heap.size w w' := by
  obtain ⟨s, th, k, r, b, c, d, v⟩ := x
  have hq' := fun o => (World.cell?_alloc_some w _ o (by simp [hq])).trans hq
  show Calls Try.prog 95 #[.agg #[.int .i64 s, .int .i64 th, .int .u8 k, .int .i64 r, .int .i64 b, .int .i64 c, .int .i64 d, .int .i64 v], .pointer (some ⟨q, 0, none⟩)] w _
  by_cases h1 : k = 1
  · have hz : soD ref (s, th, k, r, b, c, d, v) = (r == ref) := by simp [soD, Nv.k, Nv.r, h1]
    rw [hz]
    have h1' : (k == 1) = true := by simpa using h1
    clear h1 hz
    go_enter Try.func95, Try.ntmps95
    go_wp2
    go_ret
    exact ⟨rfl, (Below.refl _ _).alloc (Nat.le_refl _) _⟩
  · have hz : soD ref (s, th, k, r, b, c, d, v) = false := by simp [soD, Nv.k, h1]
    rw [hz]
    have h1' : (k == 1) = false := by simpa using h1
    clear h1 hz
    go_enter Try.func95, Try.ntmps95
    go_wp2
    go_ret
    exact ⟨rfl, (Below.refl _ _).alloc (Nat.le_refl _) _⟩
theorem kindso (x : Nv) (q : Nat) (kk : Int) (w : World) (hq : w.cell? ⟨q, 0, none⟩ = some (.int .u8 kk)) :
    Calls Try.prog 94 #[x.agg, .pointer (some ⟨q, 0, none⟩)] w fun e w' => e = .returned (.bool (soK kk x)) ∧ Below w.heap.size w w' := by
  obtain ⟨s, th, k, r, b, c, d, v⟩ := x
  have hq' := fun o => (World.cell?_alloc_some w _ o (by simp [hq])).trans hq
  show Calls Try.prog 94 #[.agg #[.int .i64 s, .int .i64 th, .int .u8 k, .int .i64 r, .int .i64 b, .int .i64 c, .int .i64 d, .int .i64 v], .pointer (some ⟨q, 0, none⟩)] w _
  have hz : soK kk (s, th, k, r, b, c, d, v) = (k == kk) := by simp [soK, Nv.k]
  rw [hz]
  clear hz
  go_enter Try.func94, Try.ntmps94
  go_wp2
  go_ret
  exact ⟨rfl, (Below.refl _ _).alloc (Nat.le_refl _) _⟩
/-- The places below k at which a note is so. -/
def idx (so : Nv → Bool) (L : List Nv) : Nat → List Int
  | 0 => []
  | k + 1 => idx so L k ++ match L[k]? with
    | some x => if so x then [(k : Int)] else []
    | none => []
theorem idx_le (so : Nv → Bool) (L : List Nv) : ∀ k, (idx so L k).length ≤ k
  | 0 => by simp [idx]
  | k + 1 => by
    have := idx_le so L k
    unfold idx
    split
    · split <;> simp <;> omega
    · simp; omega
theorem idx_hit {so : Nv → Bool} {L : List Nv} {k : Nat} {x : Nv} (h : L[k]? = some x) (hs : so x = true) : idx so L (k + 1) = idx so L k ++ [(k : Int)] := by simp [idx, h, hs]
theorem idx_miss {so : Nv → Bool} {L : List Nv} {k : Nat} {x : Nv} (h : L[k]? = some x) (hs : so x = false) : idx so L (k + 1) = idx so L k := by simp [idx, h, hs]
set_option maxHeartbeats 4000000 in
set_option maxRecDepth 100000 in
theorem whereD (w : World) (p : Nat) (L : List Nv) (ref : Int) (q : Nat) (h : IsL w p L) (hM : L.length ≤ 1048576) (hq : w.cell? ⟨q, 0, none⟩ = some (.int .i64 ref)) :
    Calls Try.prog 93 #[.pointer (some ⟨p, 0, none⟩), .func (Fn.func 95) #[] #[.pointer (some ⟨q, 0, none⟩)]] w (IsLst w 1 (idx (soD ref) L L.length).length (ints (idx (soD ref) L L.length))) := by
  obtain ⟨i0, hi, hz0, hz1, hz2⟩ := info_parts info_int
  obtain ⟨u, hp, hf, hown, hnil⟩ := h
  obtain ⟨B, hB⟩ : ∃ B, B = w.heap.size := ⟨_, rfl⟩
  have hBl : B ≤ w.heap.size := by omega
  have HB := Lib.hid hB
  clear hB
  obtain ⟨_, ⟨rfl, h0⟩ | ⟨g, cap, rfl, hgB, hg, hnc, hc, _⟩⟩ := Lst.of_own hown
  · have hL : L = [] := List.eq_nil_of_length_eq_zero h0
    subst hL
    clear hnil hown
    go_enter Try.func93, Try.ntmps93
    go_wp2_with fail
    refine wp_loop_rounds 1 ?_
    rw [rounds_succ]
    go_wp2_with fail
    go_ret
    exact ⟨_, rfl, ⟨rfl, .inl ⟨rfl, rfl⟩⟩, Below.refl _ _⟩
  · have HC : Hid (∀ (i j : Nat) (u : Value), i < L.length → j < 8 → L[i]?.bind (fun x => x.cells[j]?) = some u → w.cell? ⟨g, i * 8 + j, none⟩ = some u) := by
      intro i j u hi hj he
      rw [List.getElem?_eq_getElem hi, Option.bind_some, ← rowsN_at L i j hi hj] at he
      have := hown.cells rfl _ _ he
      rwa [Addr.add_lit, Nat.zero_add] at this
    have hgl : g < B := by rw [HB.out]; exact hg
    have hql : q < B := by rw [HB.out]; exact World.block_lt_of_cell? _ _ hq
    have HQ := Lib.hid hq
    unfold maxLen at hc
    clear hown hnil hq hf hg
    go_enter Try.func93, Try.ntmps93
    go_wp2_with fail
    go_loopw [5, 15] (fun v i wr => ∃ k : Nat, k ≤ L.length ∧ i = .int .i64 k ∧ wr.ownsRow B 3 1 v (idx (soD ref) L k).length (ints (idx (soD ref) L k)) ∧ Below B w wr) (fun _ i _ => L.length - (intOf i).toNat)
    case atStart => exact ⟨0, by omega, rfl, World.ownsRow_nil _ _ _ _, Below.refl _ _⟩
    case round =>
      obtain ⟨k, hk, rfl, howni, hnx⟩ := hrel
      have hsz := hnx.size
      have hle := idx_le (soD ref) L k
      by_cases hlt : k < L.length
      · obtain ⟨x, hx⟩ : ∃ x, L[k]? = some x := ⟨_, List.getElem?_eq_getElem hlt⟩
        have hcell := fun j u (hj : j < 8) (he : x.cells[j]? = some u) => box_cell hnx hgl (HC.out k j u hlt hj (by rw [hx]; exact he))
        have hX := Lib.hid hx
        clear hx
        obtain ⟨s, th, kk, r, b, c, d, v⟩ := x
        have e0 : wr.cell? ⟨g, k * 8, none⟩ = some (.int .i64 s) := hcell 0 _ (by omega) rfl
        have e1 : wr.cell? ⟨g, k * 8 + 1, none⟩ = some (.int .i64 th) := hcell 1 _ (by omega) rfl
        have e2 : wr.cell? ⟨g, k * 8 + 2, none⟩ = some (.int .u8 kk) := hcell 2 _ (by omega) rfl
        have e3 : wr.cell? ⟨g, k * 8 + 3, none⟩ = some (.int .i64 r) := hcell 3 _ (by omega) rfl
        have e4 : wr.cell? ⟨g, k * 8 + 4, none⟩ = some (.int .i64 b) := hcell 4 _ (by omega) rfl
        have e5 : wr.cell? ⟨g, k * 8 + 5, none⟩ = some (.int .i64 c) := hcell 5 _ (by omega) rfl
        have e6 : wr.cell? ⟨g, k * 8 + 6, none⟩ = some (.int .i64 d) := hcell 6 _ (by omega) rfl
        have e7 : wr.cell? ⟨g, k * 8 + 7, none⟩ = some (.int .i64 v) := hcell 7 _ (by omega) rfl
        clear hcell
        cases hso : soD ref (s, th, kk, r, b, c, d, v) with
        | true =>
          have HH := Lib.hid (idx_hit hX.out hso)
          have HS := Lib.hid hso
          clear hso
          go_wp2_with fail
          have hnx1 := hnx.alloc (o := .cells #[.int .i64 s, .int .i64 th, .int .u8 kk, .int .i64 r, .int .i64 b, .int .i64 c, .int .i64 d, .int .i64 v] 80) (by omega)
          refine (dropso (s, th, kk, r, b, c, d, v) q ref _ (box_cell hnx1 hql HQ.out)).mono ?_
          rintro e w2 ⟨rfl, hb2⟩
          have hown2 := own_below (howni.alloc _) hb2
          have hnx2 := hnx1.trans (hb2.mono (by simp; omega))
          have hsz2 := hb2.size
          simp at hsz2
          rw [HS.out]
          clear hb2 hnx1 howni e0 e1 e2 e3 e4 e5 e6 e7
          go_wp2_with (at_builtin; refine wpList_append_own _ rfl _ _ 118 rfl B 3 i0 (.int .i64 0) 1 8 Try.underlying118 hi hz0 hz1 hz2 rfl (by decide) _ _ _ rfl (hown2.alloc _) ⟨w2.heap.size, 0, none⟩ 1 1 [.int .i64 k] rfl rfl ?c1 ?c2 ?c3 ?c4 ?c5 ?_)
          case c1 =>
            intro j u hj
            match j, hj with
            | 0, hj => simp at hj; subst hj; simp [Addr.add]
          case c2 => intro u hu; simp at hu; subst hu; rfl
          case c3 => unfold maxLen; omega
          case c4 => omega
          case c5 => simp; omega
          intro v' w3 hown' hgrow _
          have R := app_below hown2 hnx2 hBl hgrow
          clear hgrow hown2
          go_wp2
          go_roundw
          case rel => exact ⟨k + 1, by omega, by go_num, by rw [HH.out, ints_snoc, List.length_append]; exact hown', R⟩
          case measure => simp [intOf]; omega
        | false =>
          have HH := Lib.hid (idx_miss hX.out hso)
          have HS := Lib.hid hso
          clear hso
          go_wp2_with fail
          have hnx1 := hnx.alloc (o := .cells #[.int .i64 s, .int .i64 th, .int .u8 kk, .int .i64 r, .int .i64 b, .int .i64 c, .int .i64 d, .int .i64 v] 80) (by omega)
          refine (dropso (s, th, kk, r, b, c, d, v) q ref _ (box_cell hnx1 hql HQ.out)).mono ?_
          rintro e w2 ⟨rfl, hb2⟩
          have hown2 := own_below (howni.alloc _) hb2
          have hnx2 := hnx1.trans (hb2.mono (by simp; omega))
          rw [HS.out]
          clear hb2 hnx1 howni e0 e1 e2 e3 e4 e5 e6 e7
          go_wp2_with fail
          go_roundw
          case rel => exact ⟨k + 1, by omega, by go_num, by rw [HH.out]; exact hown2, hnx2⟩
          case measure => simp [intOf]; omega
      · obtain rfl : k = L.length := by omega
        go_wp2_with fail
        go_ret
        exact ⟨_, rfl, HB.out ▸ Lst.of_own howni, HB.out ▸ hnx⟩
set_option maxHeartbeats 4000000 in
set_option maxRecDepth 100000 in
theorem whereK (w : World) (p : Nat) (L : List Nv) (ref : Int) (q : Nat) (h : IsL w p L) (hM : L.length ≤ 1048576) (hq : w.cell? ⟨q, 0, none⟩ = some (.int .u8 ref)) :
    Calls Try.prog 93 #[.pointer (some ⟨p, 0, none⟩), .func (Fn.func 94) #[] #[.pointer (some ⟨q, 0, none⟩)]] w (IsLst w 1 (idx (soK ref) L L.length).length (ints (idx (soK ref) L L.length))) := by
  obtain ⟨i0, hi, hz0, hz1, hz2⟩ := info_parts info_int
  obtain ⟨u, hp, hf, hown, hnil⟩ := h
  obtain ⟨B, hB⟩ : ∃ B, B = w.heap.size := ⟨_, rfl⟩
  have hBl : B ≤ w.heap.size := by omega
  have HB := Lib.hid hB
  clear hB
  obtain ⟨_, ⟨rfl, h0⟩ | ⟨g, cap, rfl, hgB, hg, hnc, hc, _⟩⟩ := Lst.of_own hown
  · have hL : L = [] := List.eq_nil_of_length_eq_zero h0
    subst hL
    clear hnil hown
    go_enter Try.func93, Try.ntmps93
    go_wp2_with fail
    refine wp_loop_rounds 1 ?_
    rw [rounds_succ]
    go_wp2_with fail
    go_ret
    exact ⟨_, rfl, ⟨rfl, .inl ⟨rfl, rfl⟩⟩, Below.refl _ _⟩
  · have HC : Hid (∀ (i j : Nat) (u : Value), i < L.length → j < 8 → L[i]?.bind (fun x => x.cells[j]?) = some u → w.cell? ⟨g, i * 8 + j, none⟩ = some u) := by
      intro i j u hi hj he
      rw [List.getElem?_eq_getElem hi, Option.bind_some, ← rowsN_at L i j hi hj] at he
      have := hown.cells rfl _ _ he
      rwa [Addr.add_lit, Nat.zero_add] at this
    have hgl : g < B := by rw [HB.out]; exact hg
    have hql : q < B := by rw [HB.out]; exact World.block_lt_of_cell? _ _ hq
    have HQ := Lib.hid hq
    unfold maxLen at hc
    clear hown hnil hq hf hg
    go_enter Try.func93, Try.ntmps93
    go_wp2_with fail
    go_loopw [5, 15] (fun v i wr => ∃ k : Nat, k ≤ L.length ∧ i = .int .i64 k ∧ wr.ownsRow B 3 1 v (idx (soK ref) L k).length (ints (idx (soK ref) L k)) ∧ Below B w wr) (fun _ i _ => L.length - (intOf i).toNat)
    case atStart => exact ⟨0, by omega, rfl, World.ownsRow_nil _ _ _ _, Below.refl _ _⟩
    case round =>
      obtain ⟨k, hk, rfl, howni, hnx⟩ := hrel
      have hsz := hnx.size
      have hle := idx_le (soK ref) L k
      by_cases hlt : k < L.length
      · obtain ⟨x, hx⟩ : ∃ x, L[k]? = some x := ⟨_, List.getElem?_eq_getElem hlt⟩
        have hcell := fun j u (hj : j < 8) (he : x.cells[j]? = some u) => box_cell hnx hgl (HC.out k j u hlt hj (by rw [hx]; exact he))
        have hX := Lib.hid hx
        clear hx
        obtain ⟨s, th, kk, r, b, c, d, v⟩ := x
        have e0 : wr.cell? ⟨g, k * 8, none⟩ = some (.int .i64 s) := hcell 0 _ (by omega) rfl
        have e1 : wr.cell? ⟨g, k * 8 + 1, none⟩ = some (.int .i64 th) := hcell 1 _ (by omega) rfl
        have e2 : wr.cell? ⟨g, k * 8 + 2, none⟩ = some (.int .u8 kk) := hcell 2 _ (by omega) rfl
        have e3 : wr.cell? ⟨g, k * 8 + 3, none⟩ = some (.int .i64 r) := hcell 3 _ (by omega) rfl
        have e4 : wr.cell? ⟨g, k * 8 + 4, none⟩ = some (.int .i64 b) := hcell 4 _ (by omega) rfl
        have e5 : wr.cell? ⟨g, k * 8 + 5, none⟩ = some (.int .i64 c) := hcell 5 _ (by omega) rfl
        have e6 : wr.cell? ⟨g, k * 8 + 6, none⟩ = some (.int .i64 d) := hcell 6 _ (by omega) rfl
        have e7 : wr.cell? ⟨g, k * 8 + 7, none⟩ = some (.int .i64 v) := hcell 7 _ (by omega) rfl
        clear hcell
        cases hso : soK ref (s, th, kk, r, b, c, d, v) with
        | true =>
          have HH := Lib.hid (idx_hit hX.out hso)
          have HS := Lib.hid hso
          clear hso
          go_wp2_with fail
          have hnx1 := hnx.alloc (o := .cells #[.int .i64 s, .int .i64 th, .int .u8 kk, .int .i64 r, .int .i64 b, .int .i64 c, .int .i64 d, .int .i64 v] 80) (by omega)
          refine (kindso (s, th, kk, r, b, c, d, v) q ref _ (box_cell hnx1 hql HQ.out)).mono ?_
          rintro e w2 ⟨rfl, hb2⟩
          have hown2 := own_below (howni.alloc _) hb2
          have hnx2 := hnx1.trans (hb2.mono (by simp; omega))
          have hsz2 := hb2.size
          simp at hsz2
          rw [HS.out]
          clear hb2 hnx1 howni e0 e1 e2 e3 e4 e5 e6 e7
          go_wp2_with (at_builtin; refine wpList_append_own _ rfl _ _ 118 rfl B 3 i0 (.int .i64 0) 1 8 Try.underlying118 hi hz0 hz1 hz2 rfl (by decide) _ _ _ rfl (hown2.alloc _) ⟨w2.heap.size, 0, none⟩ 1 1 [.int .i64 k] rfl rfl ?c1 ?c2 ?c3 ?c4 ?c5 ?_)
          case c1 =>
            intro j u hj
            match j, hj with
            | 0, hj => simp at hj; subst hj; simp [Addr.add]
          case c2 => intro u hu; simp at hu; subst hu; rfl
          case c3 => unfold maxLen; omega
          case c4 => omega
          case c5 => simp; omega
          intro v' w3 hown' hgrow _
          have R := app_below hown2 hnx2 hBl hgrow
          clear hgrow hown2
          go_wp2
          go_roundw
          case rel => exact ⟨k + 1, by omega, by go_num, by rw [HH.out, ints_snoc, List.length_append]; exact hown', R⟩
          case measure => simp [intOf]; omega
        | false =>
          have HH := Lib.hid (idx_miss hX.out hso)
          have HS := Lib.hid hso
          clear hso
          go_wp2_with fail
          have hnx1 := hnx.alloc (o := .cells #[.int .i64 s, .int .i64 th, .int .u8 kk, .int .i64 r, .int .i64 b, .int .i64 c, .int .i64 d, .int .i64 v] 80) (by omega)
          refine (kindso (s, th, kk, r, b, c, d, v) q ref _ (box_cell hnx1 hql HQ.out)).mono ?_
          rintro e w2 ⟨rfl, hb2⟩
          have hown2 := own_below (howni.alloc _) hb2
          have hnx2 := hnx1.trans (hb2.mono (by simp; omega))
          rw [HS.out]
          clear hb2 hnx1 howni e0 e1 e2 e3 e4 e5 e6 e7
          go_wp2_with fail
          go_roundw
          case rel => exact ⟨k + 1, by omega, by go_num, by rw [HH.out]; exact hown2, hnx2⟩
          case measure => simp [intOf]; omega
      · obtain rfl : k = L.length := by omega
        go_wp2_with fail
        go_ret
        exact ⟨_, rfl, HB.out ▸ Lst.of_own howni, HB.out ▸ hnx⟩
end Go.Proofs.Yteofbgbjibbdaac
