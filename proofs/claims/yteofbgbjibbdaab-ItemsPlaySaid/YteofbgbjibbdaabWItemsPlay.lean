/- The law ItemsPlay. -/
import Derived.Test.YteofbgbjibbdaabRaT
namespace Go.Proofs.Yteofbgbjibbdaab
open Go.RowKit
set_option linter.unusedVariables false
def PlRel (N : Nat) (w : World) (L : List It) (k : Nat) (wr : World) : Prop := ∃ S T, Ars wr N (L.take k) S ∧ Ras wr (N + 1) (L.take k) T ∧ (∀ j, S j → N ≤ j) ∧ (∀ j, T j → N ≤ j) ∧ (∀ j, S j → ¬ T j) ∧ Below N w wr
/-- Between the two additions. -/
def PmRel (N : Nat) (w : World) (L : List It) (k : Nat) (wr : World) : Prop := ∃ S T, Ars wr N (L.take (k + 1)) S ∧ Ras wr (N + 1) (L.take k) T ∧ (∀ j, S j → N ≤ j) ∧ (∀ j, T j → N ≤ j) ∧ (∀ j, S j → ¬ T j) ∧ Below N w wr
theorem PlRel.new {N : Nat} {w : World} {L : List It} {k : Nat} {wr W : World} (h : PlRel N w L k wr) (hb : Below wr.heap.size wr W) (hN : N ≤ wr.heap.size) : PlRel N w L k W := by
  obtain ⟨S, T, h1, h2, h3, h4, h5, h6⟩ := h
  exact ⟨S, T, h1.new hb, h2.new hb, h3, h4, h5, h6.trans (hb.mono hN)⟩
theorem PlRel.addA {N : Nat} {w : World} {L : List It} {k : Nat} {wr : World} {x : It} (h : PlRel N w L k wr) (hN : N ≤ wr.heap.size) (hl : k < 1048576) (hx : L[k]? = some x) :
    Calls Try.prog 30 #[.pointer (some ⟨N, 0, none⟩), .agg #[.string x.1, .string x.2.1, .int .u32 x.2.2.1, .int .u64 x.2.2.2.1, .int .i64 x.2.2.2.2.1, .int .i64 x.2.2.2.2.2]] wr fun e w' => e = .returned (.tuple #[.int .i64 ((k : Int) + 1), .int .i64 0]) ∧ PmRel N w L k w' ∧ N ≤ w'.heap.size ∧ Below N w w' := by
  obtain ⟨S, T, h1, h2, h3, h4, h5, h6⟩ := h
  have hk : k < L.length := by
    rcases Nat.lt_or_ge k L.length with h' | h'
    · exact h'
    · rw [List.getElem?_eq_none h'] at hx; simp at hx
  have hkl : (L.take k).length = k := by rw [List.length_take]; omega
  refine (iadd_any h1 (by omega) _ _ _ _ _ _ (n := (k : Int) + 1) (by rw [hkl])).mono ?_
  rintro e w' ⟨rfl, S', t, q⟩
  obtain ⟨b1, b2⟩ := t.to_below h3 hN
  refine ⟨rfl, ⟨S', T, by rw [take_one hx]; exact q, h2.keep t.keeps (fun j s s' => h5 j s' s), b2, h4, fun j s s' => ?_, h6.trans b1⟩, Nat.le_trans hN b1.size, h6.trans b1⟩
  obtain ⟨v, g⟩ := h2
  have := g.lt j s'
  rcases t.only j s with s | s
  · exact h5 j s s'
  · omega
theorem PmRel.addB {N : Nat} {w : World} {L : List It} {k : Nat} {wr : World} {x : It} (h : PmRel N w L k wr) (hN : N ≤ wr.heap.size) (hl : k < 1048576) (hx : L[k]? = some x) :
    Calls Try.prog 31 #[.pointer (some ⟨N + 1, 0, none⟩), .agg #[.string x.1, .string x.2.1, .int .u32 x.2.2.1, .int .u64 x.2.2.2.1, .int .i64 x.2.2.2.2.1, .int .i64 x.2.2.2.2.2]] wr fun e w' => e = .returned (.tuple #[.int .i64 ((k : Int) + 1), .int .i64 0]) ∧ PlRel N w L (k + 1) w' ∧ N ≤ w'.heap.size := by
  obtain ⟨S, T, h1, h2, h3, h4, h5, h6⟩ := h
  have hk : k < L.length := by
    rcases Nat.lt_or_ge k L.length with h' | h'
    · exact h'
    · rw [List.getElem?_eq_none h'] at hx; simp at hx
  have hkl : (L.take k).length = k := by rw [List.length_take]; omega
  refine (radd h2 (by omega) _ _ _ _ _ _ (n := (k : Int) + 1) (by rw [hkl])).mono ?_
  rintro e w' ⟨rfl, T', t, q⟩
  obtain ⟨b1, b2⟩ := t.to_below h4 hN
  refine ⟨rfl, ⟨S, T', h1.keep t.keeps h5, by rw [take_one hx]; exact q, h3, b2, fun j s s' => ?_, h6.trans b1⟩, Nat.le_trans hN b1.size⟩
  obtain ⟨bs, v, g1, g2, g3⟩ := h1
  have := g3 j s
  rcases t.only j s' with s' | s'
  · exact h5 j s s'
  · omega
theorem PlRel.counts {N : Nat} {w : World} {L : List It} {k : Nat} {wr : World} (h : PlRel N w L k wr) (hk : k ≤ L.length) : (Calls Try.prog 32 #[.pointer (some ⟨N, 0, none⟩)] wr fun e w' => e = .returned (.int .i64 (k : Int)) ∧ wr = w') ∧ (Calls Try.prog 33 #[.pointer (some ⟨N + 1, 0, none⟩)] wr fun e w' => e = .returned (.int .i64 (k : Int)) ∧ wr = w') := by
  obtain ⟨S, T, h1, h2, h3, h4, h5, h6⟩ := h
  exact ⟨icount_any h1 (by rw [List.length_take]; omega), rcount h2 (by rw [List.length_take]; omega)⟩
theorem PlRel.ats {N : Nat} {w : World} {L : List It} {k : Nat} {wr : World} (h : PlRel N w L k wr) (hN : N ≤ wr.heap.size) (hk : k ≤ 300) (ref : Int) : ∃ (xk xv : ByteArray) (x2 x3 x4 x5 : Int) (b : Bool),
    (Calls Try.prog 34 #[.pointer (some ⟨N, 0, none⟩), .int .i64 ref] wr fun e w' => e = .returned (.tuple #[.agg #[.string xk, .string xv, .int .u32 x2, .int .u64 x3, .int .i64 x4, .int .i64 x5], .bool b]) ∧ Below wr.heap.size wr w') ∧
    (∀ w2, Below wr.heap.size wr w2 → Calls Try.prog 35 #[.pointer (some ⟨N + 1, 0, none⟩), .int .i64 ref] w2 fun e w' => e = .returned (.tuple #[.agg #[.string xk, .string xv, .int .u32 x2, .int .u64 x3, .int .i64 x4, .int .i64 x5], .bool b]) ∧ Below w2.heap.size w2 w') := by
  obtain ⟨xk, xv, x2, x3, x4, x5, b, A, B⟩ := at_both (L.take k) (by rw [List.length_take]; omega) ref
  refine ⟨xk, xv, x2, x3, x4, x5, b, ?_, fun w2 hb => ?_⟩
  · obtain ⟨S, T, h1, h2, h3, h4, h5, h6⟩ := h
    exact A h1
  · obtain ⟨S, T, h1, h2, h3, h4, h5, h6⟩ := h.new hb hN
    exact B h2
theorem belowNp {B : Nat} {a w : World} (h : Below B a w) (n : Nat) : Below B a (w.drewN n) := by
  induction n with
  | zero => exact h
  | succ n ih => exact ih.drew
set_option maxHeartbeats 8000000 in
set_option maxRecDepth 100000 in
theorem walk_ItemsPlay (a0 : Option Addr) (l0 c0 : Nat) (a1 : Option Addr) (l1 c1 : Nat) (w : World) (w0 : Reads Try.prog w 53 (.slice a0 l0 c0)) (w1 : Reads Try.prog w 54 (.slice a1 l1 c1)) :
    Calls Try.prog 6 #[.slice a0 l0 c0, .slice a1 l1 c1] w fun e w' => e = .returned (.bool true) ∧ Below w.heap.size w w' := by
  obtain ⟨m0, b0, o0, L, p0, hL, lay0⟩ := reads_lay w0
  obtain ⟨b1, o1, p1, lay1⟩ := reads_ints (e := 3) Try.underlying54 (by kernel_rfl) (by kernel_rfl) w1
  clear w0 w1
  have HA0 := Lib.hid p0
  have HA1 := Lib.hid p1
  have HL := Lib.hid hL
  have LY0 := Lib.hid lay0
  have LY1 := Lib.hid lay1
  clear p0 p1 hL lay0 lay1
  by_cases hbig : 300 < l0
  · have hd : decide (300 < (l0 : Int)) = true := decide_eq_true (by omega)
    go_enter Try.func6, Try.ntmps6
    go_wp2_with (go_at_call 28; refine (lives06 _).mono ?_; rintro e w' ⟨rfl, hk⟩)
    go_ret
    exact ⟨rfl, hk⟩
  have hd : decide (300 < (l0 : Int)) = false := decide_eq_false (by omega)
  have hs0 : l0 ≤ 300 := by omega
  obtain ⟨N, hN⟩ : ∃ N, N = w.heap.size := ⟨_, rfl⟩
  have HN := Lib.hid hN
  clear hbig m0 hN
  go_enter Try.func6, Try.ntmps6
  go_wp2_with (go_at_call 29; refine (inew _).mono ?_; rintro e w1 ⟨rfl, rfl⟩)
  have hr0 : PlRel N w L 0 ((w.alloc (.cells #[.slice none 0 0, .int .i64 0] 71)).alloc (.cells #[.slice none 0 0] 59)) := by
    rw [HN.out]
    have h1 := ars_made w 71
    have h2 := ras_made (w.alloc (.cells #[.slice none 0 0, .int .i64 0] 71)) 59
    rw [show (w.alloc (.cells #[.slice none 0 0, .int .i64 0] 71)).heap.size = w.heap.size + 1 by simp] at h2
    exact ⟨_, _, h1.new ((Below.refl _ _).alloc (Nat.le_refl _) _), h2, fun j e => by omega, fun j e => by omega, fun j e e' => by omega, ((Below.refl _ _).alloc (Nat.le_refl _) _).alloc (by simp) _⟩
  rw [show w.heap.size = N from HN.out.symm]
  generalize World.alloc _ _ = W at hr0 ⊢
  go_loopw [7] (fun i wr => ∃ k : Nat, k ≤ l0 ∧ i = .int .i64 k ∧ PlRel N w L k wr) (fun i _ => l0 - (intOf i).toNat)
  case atStart => exact ⟨0, Nat.zero_le _, rfl, hr0⟩
  case round =>
    obtain ⟨k, hk, rfl, hR⟩ := hrel
    clear hr0
    have hbel : Below N w wr := by obtain ⟨S, T, _, _, _, _, _, hb⟩ := hR; exact hb
    have hsz : N ≤ wr.heap.size := by have := hbel.size; rw [← HN.out] at this; exact this
    by_cases hlt : k < l0
    · obtain ⟨hlc, rfl⟩ := HA0.out (by omega)
      obtain ⟨x, hx⟩ : ∃ x, L[k]? = some x := ⟨_, List.getElem?_eq_getElem (by have := HL.out; omega)⟩
      obtain ⟨xk, xv, x2, x3, x4, x5⟩ := x
      obtain ⟨d0, d1, d2, d3, d4, d5, hbN⟩ := LY0.out.now HN.out hbel hx
      have C1 := Lib.hid (hR.addA hsz (by omega) hx)
      have LN := Lib.hid (fun (X : World) (hb : Below N w X) => LY0.out.now HN.out hb hx)
      have hkc : k < c0 := by omega
      have hkL : k + 1 ≤ L.length := by have := HL.out; omega
      have HX := Lib.hid hx
      have y2 : ((k : Int) + 1 != (k : Int) + 1) = false := by simp
      clear hx hR hbel hsz hbN
      go_wp2_with (go_at_call 30; ((with_reducible refine C1.out.mono ?_); rintro e w2 ⟨rfl, hR2, hs2, hb2⟩; obtain ⟨g0, g1, g2, g3, g4, g5, gN⟩ := LN.out _ hb2; have C2 := Lib.hid (hR2.addB hs2 (by omega) HX.out); clear hR2 hb2 hs2 C1 d0 d1 d2 d3 d4 d5 gN))
      refine C2.out.mono ?_
      rintro e w3 ⟨rfl, hR3, hs3⟩
      obtain ⟨c1, c2⟩ := hR3.counts hkL
      have C3 := Lib.hid c1
      have C4 := Lib.hid c2
      have HR3 := Lib.hid hR3
      have HS3 := Lib.hid hs3
      clear hR3 hs3 c1 c2 C2 g0 g1 g2 g3 g4 g5
      by_cases hl1 : k < l1
      · obtain ⟨hlc1, rfl⟩ := HA1.out (by omega)
        obtain ⟨q, hq⟩ := LY1.out k hl1
        have hb3 : Below N w w3 := by obtain ⟨S, T, _, _, _, _, _, hb⟩ := HR3.out; exact hb
        have hqN : b1 < N := by have := World.block_lt_of_cell? _ _ hq; rw [HN.out]; exact this
        have q3 := (hb3.cell (p := ⟨b1, o1 + k, none⟩) hqN).trans hq
        obtain ⟨zk, zv, z2, z3, z4, z5, zb, A, B⟩ := HR3.out.ats HS3.out (by omega) q
        have CA := Lib.hid A
        have CB := Lib.hid B
        have hkc1 : k < c1 := by omega
        have HB3 := Lib.hid hb3
        have HQN := Lib.hid hqN
        clear A B hb3 hqN hq
        go_wp2_with (first
          | (go_at_call 32; ((with_reducible refine C3.out.mono ?_); rintro e w4 ⟨rfl, rfl⟩))
          | (go_at_call 33; ((with_reducible refine C4.out.mono ?_); rintro e w4 ⟨rfl, rfl⟩))
          | (go_at_call 34; ((with_reducible refine CA.out.mono ?_); rintro e w4 ⟨rfl, k4⟩; have q4 := fun o => (World.cell?_alloc_lt w4 o ⟨b1, o1 + k, none⟩ (by have := HQN.out; have := HS3.out; have := k4.size; show b1 < _; omega)).trans ((k4.cell (p := ⟨b1, o1 + k, none⟩) (by have := HQN.out; have := HS3.out; show b1 < _; omega)).trans q3); clear q3 C3 C4)))
        generalize hX : World.alloc _ _ = X
        have kx : Below w3.heap.size w3 X := by rw [← hX]; exact k4.alloc (by have := k4.size; omega) _
        have sx : w4.heap.size < X.heap.size := by rw [← hX]; simp
        have e0 : X.cell? ⟨w4.heap.size, 0, none⟩ = some (.string zk) := by rw [← hX]; simp
        have e1 : X.cell? ⟨w4.heap.size, 1, none⟩ = some (.string zv) := by rw [← hX]; simp
        have e2 : X.cell? ⟨w4.heap.size, 2, none⟩ = some (.int .u32 z2) := by rw [← hX]; simp
        have e3 : X.cell? ⟨w4.heap.size, 3, none⟩ = some (.int .u64 z3) := by rw [← hX]; simp
        have e4 : X.cell? ⟨w4.heap.size, 4, none⟩ = some (.int .i64 z4) := by rw [← hX]; simp
        have e5 : X.cell? ⟨w4.heap.size, 5, none⟩ = some (.int .i64 z5) := by rw [← hX]; simp
        clear hX q4 k4 CA
        refine (CB.out _ kx).mono ?_
        rintro e w5 ⟨rfl, k5⟩
        replace e0 := (k5.cell (p := ⟨w4.heap.size, 0, none⟩) sx).trans e0
        replace e1 := (k5.cell (p := ⟨w4.heap.size, 1, none⟩) sx).trans e1
        replace e2 := (k5.cell (p := ⟨w4.heap.size, 2, none⟩) sx).trans e2
        replace e3 := (k5.cell (p := ⟨w4.heap.size, 3, none⟩) sx).trans e3
        replace e4 := (k5.cell (p := ⟨w4.heap.size, 4, none⟩) sx).trans e4
        replace e5 := (k5.cell (p := ⟨w4.heap.size, 5, none⟩) sx).trans e5
        have kx5 := below_then kx k5
        have s5 : w4.heap.size < w5.heap.size := by have := k5.size; omega
        clear CB k5 kx sx
        go_wp2_with fail
        generalize hY : World.alloc _ _ = Y
        have ky : Below w3.heap.size w3 Y := by rw [← hY]; exact kx5.alloc (by have := kx5.size; omega) _
        clear hY
        exact ⟨⟨k + 1, by omega, by go_num, HR3.out.new ky HS3.out⟩, by simp [intOf]; omega⟩
      · have d6 : decide ((k : Int) < (l1 : Int)) = false := decide_eq_false (by omega)
        go_wp2_with (first
          | (go_at_call 32; ((with_reducible refine C3.out.mono ?_); rintro e w4 ⟨rfl, rfl⟩))
          | (go_at_call 33; ((with_reducible refine C4.out.mono ?_); rintro e w4 ⟨rfl, rfl⟩)))
        go_roundw
        case rel => exact ⟨k + 1, by omega, by go_num, HR3.out⟩
        case measure => simp [intOf]; omega
    · obtain rfl : l0 = k := by omega
      have HB := Lib.hid hbel
      clear hR hbel hsz
      go_wp2_with (go_at_call 28; refine (lives06 _).mono ?_; rintro e w' ⟨rfl, hk⟩)
      go_ret
      have hbb := HB.out
      rw [HN.out] at hbb
      exact ⟨rfl, below_then hbb hk⟩
end Go.Proofs.Yteofbgbjibbdaab
