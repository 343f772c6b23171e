/- The law NotesPlay: its notes, and what holds at each round. -/
import Derived.Test.YteofbgbjibbdaacNrS
import Derived.Test.YteofbgbjibbdaacNrD
import Derived.Test.YteofbgbjibbdaacNrO
import Derived.Test.YteofbgbjibbdaacNrE
import Derived.Test.YteofbgbjibbdaacNrP
import Derived.Test.YteofbgbjibbdaacNlV
import Derived.Test.YteofbgbjibbdaacNlG
import Derived.Test.YteofbgbjibbdaacBits
import Derived.Test.YteofbgbjibbdaacOpen
namespace Go.Proofs.Yteofbgbjibbdaac
open Go.RowKit
set_option linter.unusedVariables false

/-- Notes lie in a row. -/
def LayN (w : World) (b off : Nat) (L : List Nv) : Prop := ∀ (i : Nat) x, L[i]? = some x → (0 ≤ x.k ∧ x.k ≤ 255) ∧ ∀ j u, x.cells[j]? = some u → w.cell? ⟨b, off + (i * 8 + j), none⟩ = some u
theorem LayN.now {w wr : World} {b off N k : Nat} {L : List Nv} {s th kk r b' c d v : Int} (h : LayN w b off L) (hN : N = w.heap.size) (hb : Below N w wr) (hx : L[k]? = some (s, th, kk, r, b', c, d, v)) :
    (wr.cell? ⟨b, off + k * 8, none⟩ = some (.int .i64 s) ∧ wr.cell? ⟨b, off + k * 8 + 1, none⟩ = some (.int .i64 th) ∧ wr.cell? ⟨b, off + k * 8 + 2, none⟩ = some (.int .u8 kk) ∧ wr.cell? ⟨b, off + k * 8 + 3, none⟩ = some (.int .i64 r) ∧ wr.cell? ⟨b, off + k * 8 + 4, none⟩ = some (.int .i64 b') ∧ wr.cell? ⟨b, off + k * 8 + 5, none⟩ = some (.int .i64 c) ∧ wr.cell? ⟨b, off + k * 8 + 6, none⟩ = some (.int .i64 d) ∧ wr.cell? ⟨b, off + k * 8 + 7, none⟩ = some (.int .i64 v)) ∧ 0 ≤ kk ∧ kk ≤ 255 ∧ b < N := by
  obtain ⟨hk, hc⟩ := h k _ hx
  have up : ∀ j u, (Nv.cells (s, th, kk, r, b', c, d, v))[j]? = some u → wr.cell? ⟨b, off + k * 8 + j, none⟩ = some u := by
    intro j u hu
    have h1 := hc j u hu
    rw [show off + (k * 8 + j) = off + k * 8 + j by omega] at h1
    have : b < w.heap.size := World.block_lt_of_cell? _ _ h1
    exact (hb.cell (p := ⟨b, off + k * 8 + j, none⟩) (by rw [hN]; exact this)).trans h1
  have hbN : b < N := by
    have := World.block_lt_of_cell? _ _ (hc 0 _ rfl)
    rw [hN]; exact this
  exact ⟨⟨up 0 _ rfl, up 1 _ rfl, up 2 _ rfl, up 3 _ rfl, up 4 _ rfl, up 5 _ rfl, up 6 _ rfl, up 7 _ rfl⟩, hk.1, hk.2, hbN⟩
theorem list_of {A : Type} (P : Nat → A → Prop) : ∀ n : Nat, (∀ i, i < n → ∃ x, P i x) → ∃ L : List A, L.length = n ∧ ∀ i x, L[i]? = some x → P i x
  | 0, _ => ⟨[], rfl, fun i x h => by simp at h⟩
  | n + 1, h => by
    obtain ⟨L, h1, h2⟩ := list_of P n (fun i hi => h i (by omega))
    obtain ⟨x, hx⟩ := h n (by omega)
    refine ⟨L ++ [x], by simp [h1], fun i y hy => ?_⟩
    by_cases e : i < n
    · rw [List.getElem?_append_left (by omega)] at hy
      exact h2 i y hy
    · have hi : i < (L ++ [x]).length := by
        rcases Nat.lt_or_ge i (L ++ [x]).length with h' | h'
        · exact h'
        · rw [List.getElem?_eq_none h'] at hy; simp at hy
      simp at hi
      obtain rfl : i = n := by omega
      rw [List.getElem?_append_right (by omega)] at hy
      simp [h1] at hy
      subst hy
      exact hx
theorem reads_layN {w : World} {a : Option Addr} {len cap : Nat} (h : Reads Try.prog w 68 (.slice a len cap)) : len ≤ 9223372036854775807 ∧ ∃ b off L, (0 < len → len ≤ cap ∧ a = some ⟨b, off, none⟩) ∧ L.length = len ∧ LayN w b off L := by
  have ht : Try.prog.underlying 68 = some (.slice 80) := Try.underlying68
  have hk : leaves Try.prog 9 80 = some [.inl .i64, .inl .i64, .inl .u8, .inl .i64, .inl .i64, .inl .i64, .inl .i64, .inl .i64] := by kernel_rfl
  have hc : Try.prog.cellsOf 80 = 8 := by kernel_rfl
  rcases Reads.slice ht hk h with ⟨_, rfl, _⟩ | ⟨b, off, sp, rfl, h1, h2, h3, h4⟩
  · exact ⟨by omega, 0, 0, [], fun h => by omega, rfl, fun i x h => by simp at h⟩
  · obtain ⟨L, hL, hx⟩ := list_of (fun i (x : Nv) => (0 ≤ x.k ∧ x.k ≤ 255) ∧ ∀ j u, x.cells[j]? = some u → w.cell? ⟨b, off + (i * 8 + j), none⟩ = some u) len (fun i hi => by
      obtain ⟨l, hl, hll, hx⟩ := h4 i (by omega)
      obtain ⟨_, _, rfl, ⟨s, rfl, _⟩, q1⟩ := all2_cons hl
      obtain ⟨_, _, rfl, ⟨th, rfl, _⟩, q2⟩ := all2_cons q1
      obtain ⟨_, _, rfl, ⟨k, rfl, wk⟩, q3⟩ := all2_cons q2
      obtain ⟨_, _, rfl, ⟨r, rfl, _⟩, q4⟩ := all2_cons q3
      obtain ⟨_, _, rfl, ⟨b', rfl, _⟩, q5⟩ := all2_cons q4
      obtain ⟨_, _, rfl, ⟨c, rfl, _⟩, q6⟩ := all2_cons q5
      obtain ⟨_, _, rfl, ⟨d, rfl, _⟩, q7⟩ := all2_cons q6
      obtain ⟨_, _, rfl, ⟨v, rfl, _⟩, q8⟩ := all2_cons q7
      obtain rfl := all2_nil q8
      rw [hc] at hx
      exact ⟨(s, th, k, r, b', c, d, v), bounds_u8 wk, hx⟩)
    exact ⟨by unfold maxLen at h2; omega, b, off, L, fun h => ⟨h1, by rw [h3 (by omega) (by omega)]⟩, hL, hx⟩
/-- The notes that are taken, one behind the other. -/
def addsL (L : List Nv) : List Nv := L.foldl addL []
theorem addsL_snoc {L : List Nv} {k : Nat} {x : Nv} (h : L[k]? = some x) : addsL (L.take (k + 1)) = addL (addsL (L.take k)) x := by
  have hk : k < L.length := by
    rcases Nat.lt_or_ge k L.length with h' | h'
    · exact h'
    · rw [List.getElem?_eq_none h'] at h; simp at h
  rw [List.getElem?_eq_getElem hk] at h
  simp at h
  rw [List.take_succ_eq_append_getElem hk, h]
  simp [addsL]
theorem addL_len (L : List Nv) (x : Nv) : (addL L x).length ≤ L.length + 1 := by
  unfold addL; split <;> simp
theorem foldl_addL_len : ∀ (L M : List Nv), (L.foldl addL M).length ≤ M.length + L.length
  | [], M => by simp
  | x :: L, M => by
    have h1 := foldl_addL_len L (addL M x)
    have h2 := addL_len M x
    simp only [List.foldl_cons, List.length_cons]
    omega
theorem addsL_len (L : List Nv) : (addsL L).length ≤ L.length := by
  have := foldl_addL_len L []
  simpa [addsL] using this
theorem addF_kind {L : List Nv} {x : Nv} (h : addF L x = 0) : iskf x.k = true := by
  unfold addF at h
  by_cases e : iskf x.k = false
  · rw [if_pos (.inl e)] at h; simp at h
  · simpa using e
theorem foldl_addL_kind : ∀ (L M : List Nv), (∀ x ∈ M, iskf x.k = true) → ∀ x ∈ L.foldl addL M, iskf x.k = true
  | [], M, h => h
  | y :: L, M, h => by
    refine foldl_addL_kind L (addL M y) ?_
    unfold addL
    split
    · rename_i e
      intro x hx
      rcases List.mem_append.mp hx with hx | hx
      · exact h x hx
      · simp at hx; subst hx; exact addF_kind e
    · exact h
theorem addsL_kind (L : List Nv) : ∀ x ∈ addsL L, 0 ≤ x.k ∧ x.k ≤ 255 := by
  intro x hx
  have := foldl_addL_kind L [] (fun x h => by simp at h) x hx
  simp [iskf] at this
  omega

def NpRel (N : Nat) (w : World) (L : List Nv) (k : Nat) (wr : World) : Prop := ∃ S T, Nts wr N (addsL (L.take k)) S ∧ Nrs wr (N + 1) (addsL (L.take k)) T ∧ (∀ j, S j → N ≤ j) ∧ (∀ j, T j → N + 1 ≤ j) ∧ (∀ j, S j → ¬ T j) ∧ Below N w wr ∧ N + 1 < wr.heap.size
/-- Between the two additions. -/
def NmRel (N : Nat) (w : World) (L : List Nv) (k : Nat) (wr : World) : Prop := ∃ S T, Nts wr N (addsL (L.take (k + 1))) S ∧ Nrs wr (N + 1) (addsL (L.take k)) T ∧ (∀ j, S j → N ≤ j) ∧ (∀ j, T j → N + 1 ≤ j) ∧ (∀ j, S j → ¬ T j) ∧ Below N w wr ∧ N + 1 < wr.heap.size
theorem NpRel.below {N : Nat} {w : World} {L : List Nv} {k : Nat} {wr : World} (h : NpRel N w L k wr) : Below N w wr ∧ N + 1 < wr.heap.size := by
  obtain ⟨S, T, h1, h2, h3, h4, h5, h6, h7⟩ := h
  exact ⟨h6, h7⟩
theorem NmRel.below {N : Nat} {w : World} {L : List Nv} {k : Nat} {wr : World} (h : NmRel N w L k wr) : Below N w wr ∧ N + 1 < wr.heap.size := by
  obtain ⟨S, T, h1, h2, h3, h4, h5, h6, h7⟩ := h
  exact ⟨h6, h7⟩
theorem NpRel.new {N : Nat} {w : World} {L : List Nv} {k : Nat} {wr W : World} (h : NpRel N w L k wr) (hb : Below wr.heap.size wr W) : NpRel N w L k W := by
  obtain ⟨S, T, h1, h2, h3, h4, h5, h6, h7⟩ := h
  have := hb.size
  exact ⟨S, T, h1.new hb, h2.new hb, h3, h4, h5, h6.trans (hb.mono (by omega)), by omega⟩
theorem NmRel.new {N : Nat} {w : World} {L : List Nv} {k : Nat} {wr W : World} (h : NmRel N w L k wr) (hb : Below wr.heap.size wr W) : NmRel N w L k W := by
  obtain ⟨S, T, h1, h2, h3, h4, h5, h6, h7⟩ := h
  have := hb.size
  exact ⟨S, T, h1.new hb, h2.new hb, h3, h4, h5, h6.trans (hb.mono (by omega)), by omega⟩
theorem Nts.lt' {w : World} {p : Nat} {L : List Nv} {T : Nat → Prop} (h : Nts w p L T) : ∀ k, T k → k < w.heap.size := by
  obtain ⟨v, h⟩ := h
  exact h.lt
theorem Nrs.lt' {w : World} {p : Nat} {L : List Nv} {T : Nat → Prop} (h : Nrs w p L T) : ∀ k, T k → k < w.heap.size := by
  obtain ⟨v, h⟩ := h
  exact h.lt
theorem NpRel.addA {N : Nat} {w : World} {L : List Nv} {k : Nat} {wr : World} (x : Nv) (h : NpRel N w L k wr) (hl : k < 1000) (hx : L[k]? = some x) :
    Calls Try.prog 54 #[.pointer (some ⟨N, 0, none⟩), x.agg] wr fun e w' => e = .returned (.int .i64 (addF (addsL (L.take k)) x)) ∧ NmRel N w L k w' := by
  obtain ⟨S, T, h1, h2, h3, h4, h5, h6, h7⟩ := h
  have hkl : (addsL (L.take k)).length ≤ k := Nat.le_trans (addsL_len _) (List.length_take_le _ _)
  refine (addT x h1 (by omega)).mono ?_
  rintro e w' ⟨rfl, S', t, q⟩
  obtain ⟨b1, b2⟩ := t.to_below h3 (by omega)
  refine ⟨rfl, S', T, by rw [addsL_snoc hx]; exact q, h2.keep t.keeps (fun j s s' => h5 j s' s), b2, h4, fun j s s' => ?_, h6.trans b1, by have := t.keeps.size; omega⟩
  have := h2.lt' j s'
  rcases t.only j s with s | s
  · exact h5 j s s'
  · omega
theorem NmRel.addB {N : Nat} {w : World} {L : List Nv} {k : Nat} {wr : World} (x : Nv) (h : NmRel N w L k wr) (hl : k < 1000) (hx : L[k]? = some x) :
    Calls Try.prog 55 #[.pointer (some ⟨N + 1, 0, none⟩), x.ragg] wr fun e w' => e = .returned (.int .i64 (addF (addsL (L.take k)) x)) ∧ NpRel N w L (k + 1) w' := by
  obtain ⟨S, T, h1, h2, h3, h4, h5, h6, h7⟩ := h
  have hkl : (addsL (L.take k)).length ≤ k := Nat.le_trans (addsL_len _) (List.length_take_le _ _)
  refine (raddT x h2 (by omega)).mono ?_
  rintro e w' ⟨rfl, T', t, q⟩
  obtain ⟨b1, b2⟩ := t.to_below h4 (by omega)
  refine ⟨rfl, S, T', h1.keep t.keeps h5, by rw [addsL_snoc hx]; exact q, h3, b2, fun j s s' => ?_, h6.trans (b1.mono (by omega)), by have := t.keeps.size; omega⟩
  have := h1.lt' j s
  rcases t.only j s' with s' | s'
  · exact h5 j s s'
  · omega
/-- The number of notes, and the chapter's cell. -/
theorem NpRel.counts {N : Nat} {w : World} {L : List Nv} {k : Nat} {wr : World} (h : NpRel N w L k wr) (hk : k ≤ 1000) :
    (∀ W, Below wr.heap.size wr W → Calls Try.prog 57 #[.pointer (some ⟨N, 0, none⟩)] W fun e w' => e = .returned (.int .i64 ((addsL (L.take k)).length : Int)) ∧ W = w') ∧ ∃ a cap, wr.cell? ⟨N + 1, 0, none⟩ = some (.slice a (addsL (L.take k)).length cap) := by
  have hkl : (addsL (L.take k)).length ≤ k := Nat.le_trans (addsL_len _) (List.length_take_le _ _)
  refine ⟨fun W hb => ?_, ?_⟩
  · obtain ⟨S, T, h1, h2, h3, h4, h5, h6, h7⟩ := h.new hb
    exact countT h1 (by omega)
  · obtain ⟨S, T, h1, ⟨v, h2⟩, h3, h4, h5, h6, h7⟩ := h
    have c0 := h2.c0
    obtain ⟨hl, ⟨rfl, h0⟩ | ⟨g, cap, rfl, _⟩⟩ := Lst.of_own h2.row
    · rw [h0]; exact ⟨none, 0, c0⟩
    · exact ⟨_, _, c0⟩
/-- A round's calls. -/
theorem NpRel.round {N : Nat} {w : World} {L : List Nv} {k : Nat} {wr : World} {s th kk r b c d v : Int} (h : NpRel N w L k wr) (hl : k < 1000) (hx : L[k]? = some (s, th, kk, r, b, c, d, v)) : ∃ (z : Int) (n : Nat), n ≤ 1000 ∧
    (Calls Try.prog 54 #[.pointer (some ⟨N, 0, none⟩), .agg #[.int .i64 s, .int .i64 th, .int .u8 kk, .int .i64 r, .int .i64 b, .int .i64 c, .int .i64 d, .int .i64 v]] wr fun e w' => e = .returned (.int .i64 z) ∧ NmRel N w L k w') ∧
    (∀ W, NmRel N w L k W → Calls Try.prog 55 #[.pointer (some ⟨N + 1, 0, none⟩), .agg #[.int .i64 s, .int .i64 th, .int .i64 kk, .int .i64 r, .int .i64 b, .int .i64 c, .int .i64 d, .int .i64 v]] W fun e w' => e = .returned (.int .i64 z) ∧ NpRel N w L (k + 1) w' ∧ (∃ a cap, w'.cell? ⟨N + 1, 0, none⟩ = some (.slice a n cap)) ∧ Calls Try.prog 57 #[.pointer (some ⟨N, 0, none⟩)] w' fun e w2 => e = .returned (.int .i64 (n : Int)) ∧ w' = w2) := by
  refine ⟨_, (addsL (L.take (k + 1))).length, ?_, h.addA (s, th, kk, r, b, c, d, v) hl hx, fun W hW => ?_⟩
  · have : (addsL (L.take (k + 1))).length ≤ k + 1 := Nat.le_trans (addsL_len _) (List.length_take_le _ _)
    omega
  · refine (hW.addB (s, th, kk, r, b, c, d, v) hl hx).mono ?_
    rintro e w' ⟨rfl, hR⟩
    obtain ⟨hc, ha⟩ := hR.counts (by omega)
    exact ⟨rfl, hR, ha, hc _ (Below.refl _ _)⟩
theorem newT (w : World) : Calls Try.prog 53 #[] w fun e w' => e = .returned (.pointer (some ⟨w.heap.size, 0, none⟩)) ∧ w.alloc (.cells #[.slice none 0 0] 98) = w' := by
  go_enter Try.func53, Try.ntmps53
  go_wp2
  go_ret
  exact ⟨rfl, rfl⟩
/-- The relation at the start. -/
theorem np_made (W : World) (L : List Nv) : NpRel W.heap.size W L 0 ((W.alloc (.cells #[.slice none 0 0] 98)).alloc (.cells #[.slice none 0 0] 75)) := by
  have h1 := nts_made W 98
  have h2 := nrs_made (W.alloc (.cells #[.slice none 0 0] 98)) 75
  rw [show (W.alloc (.cells #[.slice none 0 0] 98)).heap.size = W.heap.size + 1 by simp] at h2
  exact ⟨_, _, h1.new ((Below.refl _ _).alloc (Nat.le_refl _) _), h2, fun j e => by omega, fun j e => by omega, fun j e e' => by omega, ((Below.refl _ _).alloc (Nat.le_refl _) _).alloc (by simp) _, by simp⟩
theorem Lst.lies {w : World} {B n : Nat} {v : Value} {xs : List Value} (h : Lst w B 8 v n xs) : ∃ a cap, v = .slice a n cap ∧ Lies w a cap n xs := by
  obtain ⟨hl, ⟨rfl, rfl⟩ | ⟨g, cap, rfl, hB, hg, hn, hc, hx⟩⟩ := h
  · exact ⟨none, 0, rfl, fun h => by omega⟩
  · exact ⟨_, cap, rfl, fun _ => ⟨g, rfl, hg, hn, fun j u hj => (hx j u hj).1⟩⟩
theorem Lst.keep {w w' : World} {B size n : Nat} {v : Value} {xs : List Value} {S : Nat → Prop} (h : Lst w B size v n xs) (hk : Keeps S w w') (hS : ∀ g, v.ownBlock = some g → ¬ S g) : Lst w' B size v n xs := by
  obtain ⟨hl, h | ⟨g, cap, rfl, hB', hg, hn, hcap, hx⟩⟩ := h
  · exact ⟨hl, .inl h⟩
  · exact ⟨hl, .inr ⟨g, cap, rfl, hB', Nat.lt_of_lt_of_le hg hk.size, hn, hcap, fun j u hj => by
      have := hx j u hj
      exact ⟨hk.cell (p := ⟨g, j, none⟩) (hS g rfl) this.1, hk.frozen (p := ⟨g, j, none⟩) (hS g rfl) hg this.2⟩⟩⟩
theorem spoilw_nil (w : World) : Calls Try.prog 64 #[.slice none 0 0] w fun e w' => e = .returned (.tuple #[]) ∧ w = w' := by
  go_enter Try.func64, Try.ntmps64
  go_wp2_with fail
  refine wp_loop_rounds 1 ?_
  rw [rounds_succ]
  go_wp2_with fail
  go_end0
  exact ⟨rfl, rfl⟩
theorem spoil_any {w : World} {B n : Nat} {v : Value} {xs : List Value} (h : Lst w B 8 v n xs) (hM : n ≤ 1000000) : Calls Try.prog 64 #[v] w fun e w' => e = .returned (.tuple #[]) ∧ Keeps (fun k => v.ownBlock = some k) w w' := by
  obtain ⟨hl, ⟨rfl, rfl⟩ | ⟨g, cap, rfl, hB, hg, hn, hc, hx⟩⟩ := h
  · exact (spoilw_nil w).mono fun e w' ⟨he, hw⟩ => ⟨he, hw ▸ Keeps.refl _ _⟩
  · refine (spoilw hM hn (fun j hj => ?_)).mono fun e w' ⟨he, hk⟩ => ⟨he, hk.mono (fun k _ e => by rw [e]; rfl)⟩
    have := hx j _ (List.getElem?_eq_getElem (by omega))
    exact ⟨⟨_, this.1⟩, this.2⟩
theorem Lst.block {w : World} {B size n : Nat} {v : Value} {xs : List Value} (h : Lst w B size v n xs) : ∀ g, v.ownBlock = some g → B ≤ g ∧ g < w.heap.size := by
  obtain ⟨hl, ⟨rfl, rfl⟩ | ⟨g, cap, rfl, hB, hg, hn, hc, hx⟩⟩ := h
  · intro g hg; simp [Value.ownBlock] at hg
  · intro k hk; simp [Value.ownBlock] at hk; omega
/-- What the readers need. -/
theorem NpRel.reads {N : Nat} {w : World} {L : List Nv} {k : Nat} {wr : World} (h : NpRel N w L k wr) : IsL wr N (addsL (L.take k)) ∧ (∃ T, Nrs wr (N + 1) (addsL (L.take k)) T) ∧ ∃ a cap, wr.cell? ⟨N + 1, 0, none⟩ = some (.slice a (addsL (L.take k)).length cap) ∧ Lies wr a cap (addsL (L.take k)).length (rowsR (addsL (L.take k))) := by
  obtain ⟨S, T, h1, h2, h3, h4, h5, h6, h7⟩ := h
  refine ⟨h1.isL h3, ⟨T, h2⟩, ?_⟩
  obtain ⟨v, h2⟩ := h2
  have c0 := h2.c0
  obtain ⟨a, cap, rfl, hl⟩ := (Lst.of_own h2.row).lies
  exact ⟨a, cap, c0, hl⟩
theorem Lies.new {w w' : World} {a : Option Addr} {cap n : Nat} {xs : List Value} (h : Lies w a cap n xs) (hb : Below w.heap.size w w') : Lies w' a cap n xs := by
  intro hn
  obtain ⟨g, h1, h2, h3, h4⟩ := h hn
  exact ⟨g, h1, Nat.lt_of_lt_of_le h2 hb.size, h3, fun j u hj => (hb.cell (p := ⟨g, j, none⟩) h2).trans (h4 j u hj)⟩
end Go.Proofs.Yteofbgbjibbdaac
