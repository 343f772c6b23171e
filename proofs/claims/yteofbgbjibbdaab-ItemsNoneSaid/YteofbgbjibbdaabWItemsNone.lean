/- The law ItemsNone. -/
import Derived.Test.YteofbgbjibbdaabArI
namespace Go.Proofs.Yteofbgbjibbdaab
open Go.RowKit
set_option linter.unusedVariables false
def ArRel (N : Nat) (w : World) (L : List It) (k : Nat) (wr : World) : Prop := ∃ S, Ars wr N (L.take k) S ∧ (∀ j, S j → N ≤ j) ∧ Below N w wr
/-- A zero record's box. -/
def ZI (X : World) (g : Nat) : Prop := X.cell? ⟨g, 0, none⟩ = some (.string ⟨#[]⟩) ∧ X.cell? ⟨g, 1, none⟩ = some (.string ⟨#[]⟩) ∧ X.cell? ⟨g, 2, none⟩ = some (.int .u32 0) ∧ X.cell? ⟨g, 3, none⟩ = some (.int .u64 0) ∧ X.cell? ⟨g, 4, none⟩ = some (.int .i64 0) ∧ X.cell? ⟨g, 5, none⟩ = some (.int .i64 0)
theorem ZI.new {X Y : World} {g : Nat} (h : ZI X g) (hb : Below X.heap.size X Y) : ZI Y g := by
  obtain ⟨h0, h1, h2, h3, h4, h5⟩ := h
  have lt := World.block_lt_of_cell? _ _ h0
  exact ⟨(hb.cell (p := ⟨g, 0, none⟩) lt).trans h0, (hb.cell (p := ⟨g, 1, none⟩) lt).trans h1, (hb.cell (p := ⟨g, 2, none⟩) lt).trans h2, (hb.cell (p := ⟨g, 3, none⟩) lt).trans h3, (hb.cell (p := ⟨g, 4, none⟩) lt).trans h4, (hb.cell (p := ⟨g, 5, none⟩) lt).trans h5⟩
theorem ZI.made (W : World) (T : TypeId) : ZI (W.alloc (.cells #[.string ⟨#[]⟩, .string ⟨#[]⟩, .int .u32 0, .int .u64 0, .int .i64 0, .int .i64 0] T)) W.heap.size := ⟨by simp, by simp, by simp, by simp, by simp, by simp⟩
theorem take_snoc {L : List It} {k : Nat} {x : It} (h : L[k]? = some x) : L.take (k + 1) = L.take k ++ [x] := by
  have hk : k < L.length := by
    rcases Nat.lt_or_ge k L.length with h' | h'
    · exact h'
    · rw [List.getElem?_eq_none h'] at h; simp at h
  rw [List.take_succ_eq_append_getElem hk]
  rw [List.getElem?_eq_getElem hk] at h
  simp at h
  rw [h]
set_option maxHeartbeats 4000000 in
set_option maxRecDepth 100000 in
theorem walk_ItemsNone (a0 : Option Addr) (l0 c0 : Nat) (a1 : Int) (w : World) (w0 : Reads Try.prog w 53 (.slice a0 l0 c0)) (w1 : (Lit.int .i64 a1).wf = true) :
    Calls Try.prog 9 #[.slice a0 l0 c0, .int .i64 a1] w fun e w' => e = .returned (.bool true) ∧ Below w.heap.size w w' := by
  have hrd := reads_items (e := 65) Try.underlying53 (by kernel_rfl) (by kernel_rfl) w0
  clear w0 w1
  have hm : l0 ≤ 9223372036854775807 := by
    rcases hrd with ⟨_, rfl, _⟩ | ⟨b, off, h1, h2, _⟩
    · omega
    · unfold maxLen at h2; omega
  by_cases hbig : 100 < l0
  · clear hrd
    go_enter Try.func9, Try.ntmps9
    go_wp2_with (go_at_call 28; refine (lives06 _).mono ?_; rintro e w' ⟨rfl, hk⟩)
    go_ret
    exact ⟨rfl, hk⟩
  have hd : decide (100 < (l0 : Int)) = false := decide_eq_false (by omega)
  have hsm : l0 ≤ 100 := by omega
  have hrd' : ∃ b off, (0 < l0 → l0 ≤ c0 ∧ a0 = some ⟨b, off, none⟩) ∧ ∃ L : List It, L.length = l0 ∧ ∀ (i : Nat) x, L[i]? = some x → w.cell? ⟨b, off + i * 6, none⟩ = some (.string x.1) ∧ w.cell? ⟨b, off + i * 6 + 1, none⟩ = some (.string x.2.1) ∧ w.cell? ⟨b, off + i * 6 + 2, none⟩ = some (.int .u32 x.2.2.1) ∧ w.cell? ⟨b, off + i * 6 + 3, none⟩ = some (.int .u64 x.2.2.2.1) ∧ w.cell? ⟨b, off + i * 6 + 4, none⟩ = some (.int .i64 x.2.2.2.2.1) ∧ w.cell? ⟨b, off + i * 6 + 5, none⟩ = some (.int .i64 x.2.2.2.2.2) := by
    rcases hrd with ⟨_, rfl, _⟩ | ⟨b, off, h1, h2, h3, L, h4, h5⟩
    · exact ⟨0, 0, fun h => by omega, [], rfl, fun i x h => by simp at h⟩
    · exact ⟨b, off, fun h => ⟨h1, h3 (by omega)⟩, L, h4, h5⟩
  obtain ⟨b, off, ha, L, hL, hc⟩ := hrd'
  obtain ⟨N, hN⟩ : ∃ N, N = w.heap.size := ⟨_, rfl⟩
  have HA := Lib.hid ha
  have HL := Lib.hid hL
  have HC := Lib.hid hc
  have HNN := Lib.hid hN
  clear hrd hbig hm ha hL hc hN
  go_enter Try.func9, Try.ntmps9
  go_wp2_with (go_at_call 29; refine (inew _).mono ?_; rintro e w1 ⟨rfl, rfl⟩)
  rw [show w.heap.size = N from HNN.out.symm]
  have hr0 : ArRel N w L 0 (w.alloc (.cells #[.slice none 0 0, .int .i64 0] 71)) := by
    rw [HNN.out]
    exact ⟨_, ars_made w _, fun j e => by omega, (Below.refl _ _).alloc (Nat.le_refl _) _⟩
  generalize w.alloc _ = W at hr0 ⊢
  go_loopw [6] (fun i wr => ∃ k : Nat, k ≤ l0 ∧ i = .int .i64 k ∧ ArRel N w L k wr) (fun i _ => l0 - (intOf i).toNat)
  case atStart => exact ⟨0, Nat.zero_le _, rfl, hr0⟩
  case round =>
    obtain ⟨k, hk, rfl, S, hq, hS, hbel⟩ := hrel
    clear hr0
    have hsz := hbel.size
    rw [← HNN.out] at hsz
    by_cases hlt : k < l0
    · obtain ⟨hlc, rfl⟩ := HA.out (by omega)
      obtain ⟨x, hx⟩ : ∃ x, L[k]? = some x := ⟨_, List.getElem?_eq_getElem (by have := HL.out; omega)⟩
      obtain ⟨d0, d1, d2, d3, d4, d5⟩ := HC.out k x hx
      have hbN : b < N := by have := World.block_lt_of_cell? _ _ d0; rw [HNN.out]; exact this
      replace d0 := (hbel.cell (p := ⟨b, off + k * 6, none⟩) hbN).trans d0
      replace d1 := (hbel.cell (p := ⟨b, off + k * 6 + 1, none⟩) hbN).trans d1
      replace d2 := (hbel.cell (p := ⟨b, off + k * 6 + 2, none⟩) hbN).trans d2
      replace d3 := (hbel.cell (p := ⟨b, off + k * 6 + 3, none⟩) hbN).trans d3
      replace d4 := (hbel.cell (p := ⟨b, off + k * 6 + 4, none⟩) hbN).trans d4
      replace d5 := (hbel.cell (p := ⟨b, off + k * 6 + 5, none⟩) hbN).trans d5
      obtain ⟨xk, xv, x2, x3, x4, x5⟩ := x
      have hl : (L.take k).length = k := by rw [List.length_take]; have := HL.out; omega
      have C1 := Lib.hid (iadd_any hq (by omega) xk xv x2 x3 x4 x5 rfl)
      have hkc : k < c0 := by omega
      have HX := Lib.hid hx
      have HS := Lib.hid hS
      have HB := Lib.hid hbel
      clear hx hq hS hbel hl
      go_wp2_with (go_at_call 30; ((with_reducible refine C1.out.mono ?_); rintro e w2 ⟨rfl, S2, t2, q2⟩))
      go_roundw
      case rel =>
        obtain ⟨b2, s2⟩ := t2.to_below HS.out hsz
        exact ⟨k + 1, by omega, by go_num, S2, by rw [take_snoc HX.out]; exact q2, s2, HB.out.trans b2⟩
      case measure => simp [intOf]; omega
    · obtain rfl : l0 = k := by omega
      have e1 : L.take l0 = L := List.take_of_length_le (by have := HL.out; omega)
      rw [e1] at hq
      have HB := Lib.hid hbel
      have hsz' : N ≤ wr.heap.size := hsz
      clear hbel hS HA HC hsz
      have d1 : decide ((1 : Int) ≤ 0) = false := by decide
      have y1 : IntKind.i64.wrap ((l0 : Int) + 1) = (l0 : Int) + 1 := IntWalk.i64_in _ (by omega)
      have fin : ∀ {X Y : World}, Below wr.heap.size wr X → Below X.heap.size X Y → Below w.heap.size w Y := fun h1 h2 => (HB.out.mono (by rw [HNN.out]; omega)).trans ((below_then h1 h2).mono (by rw [← HNN.out]; omega))
      by_cases hr : 1 ≤ a1 ∧ a1 ≤ l0
      · obtain ⟨x, hx⟩ : ∃ x, L[(a1 - 1).toNat]? = some x := ⟨_, List.getElem?_eq_getElem (by have := HL.out; omega)⟩
        obtain ⟨xk, xv, x2, x3, x4, x5⟩ := x
        have C1 := Lib.hid (iat_any hq (a1 - 1).toNat (by omega) hx (r := a1) (by omega))
        have r1 : decide ((1 : Int) ≤ a1) = true := decide_eq_true (by omega)
        have r2 : decide (a1 ≤ (l0 : Int)) = true := decide_eq_true (by omega)
        clear hx hr
        go_wp2_with fail
        refine C1.out.mono ?_
        rintro e w3 ⟨rfl, k3⟩
        go_wp2_with fail
        generalize hX : World.alloc _ _ = X3
        have kx : Below w3.heap.size w3 X3 := by rw [← hX]; exact (Below.refl _ _).alloc (Nat.le_refl _) _
        have k3' := below_then k3 kx
        have q3 := hq.new k3'
        have C2 := Lib.hid (iat_no q3 0 (.inl (by omega)))
        have HQ3 := Lib.hid q3
        have K3 := Lib.hid k3'
        clear hX kx k3' k3 q3 hq C1
        refine C2.out.mono ?_
        rintro e w4 ⟨rfl, k4⟩
        go_wp2_with fail
        generalize hX : World.alloc _ _ = X4
        have kx : Below w4.heap.size w4 X4 := by rw [← hX]; exact (Below.refl _ _).alloc (Nat.le_refl _) _
        have z4 : ZI X4 w4.heap.size := by rw [← hX]; exact ZI.made _ _
        have k4' := below_then k4 kx
        have q4 := HQ3.out.new k4'
        have C3 := Lib.hid (iat_no q4 ((l0 : Int) + 1) (.inr (by have := HL.out; omega)))
        have K4 := Lib.hid (below_then K3.out k4')
        clear hX kx k4' k4 q4 C2 HQ3
        refine C3.out.mono ?_
        rintro e w5 ⟨rfl, k5⟩
        have K5 := Lib.hid (below_then K4.out k5)
        replace z4 := z4.new k5
        have lt4 := World.block_lt_of_cell? _ _ z4.1
        obtain ⟨s0, s1, s2, s3, s4, s5⟩ := z4
        have t0 := fun o => (World.cell?_alloc_lt w5 o ⟨w4.heap.size, 0, none⟩ lt4).trans s0
        have t1 := fun o => (World.cell?_alloc_lt w5 o ⟨w4.heap.size, 1, none⟩ lt4).trans s1
        have t2 := fun o => (World.cell?_alloc_lt w5 o ⟨w4.heap.size, 2, none⟩ lt4).trans s2
        have t3 := fun o => (World.cell?_alloc_lt w5 o ⟨w4.heap.size, 3, none⟩ lt4).trans s3
        have t4 := fun o => (World.cell?_alloc_lt w5 o ⟨w4.heap.size, 4, none⟩ lt4).trans s4
        have t5 := fun o => (World.cell?_alloc_lt w5 o ⟨w4.heap.size, 5, none⟩ lt4).trans s5
        clear k5 s0 s1 s2 s3 s4 s5 lt4 C3
        go_wp2_with (go_at_call 28; refine (lives06 _).mono ?_; rintro e w6 ⟨rfl, k6⟩)
        go_ret
        exact ⟨rfl, fin (K5.out.alloc (by have := K5.out.size; omega) _) k6⟩
      · have C1 := Lib.hid (iat_no hq a1 (by have := HL.out; omega))
        by_cases r1 : (1 : Int) ≤ a1
        all_goals
          have r1' := r1
          first
            | (have r2 : decide ((1 : Int) ≤ a1) = true := decide_eq_true (by omega); have r3 : decide (a1 ≤ (l0 : Int)) = false := decide_eq_false (by omega))
            | (have r2 : decide ((1 : Int) ≤ a1) = false := decide_eq_false (by omega))
          clear r1 r1' hr
          go_wp2_with fail
          refine C1.out.mono ?_
          rintro e w3 ⟨rfl, k3⟩
          go_wp2_with fail
          generalize hX : World.alloc _ _ = X3
          have kx : Below w3.heap.size w3 X3 := by rw [← hX]; exact (Below.refl _ _).alloc (Nat.le_refl _) _
          have z3 : ZI X3 w3.heap.size := by rw [← hX]; exact ZI.made _ _
          have k3' := below_then k3 kx
          have q3 := hq.new k3'
          have C2 := Lib.hid (iat_no q3 0 (.inl (by omega)))
          have HQ3 := Lib.hid q3
          have K3 := Lib.hid k3'
          clear hX kx k3' k3 q3 hq C1
          refine C2.out.mono ?_
          rintro e w4 ⟨rfl, k4⟩
          go_wp2_with fail
          generalize hX : World.alloc _ _ = X4
          have kx : Below w4.heap.size w4 X4 := by rw [← hX]; exact (Below.refl _ _).alloc (Nat.le_refl _) _
          have z4 : ZI X4 w4.heap.size := by rw [← hX]; exact ZI.made _ _
          have k4' := below_then k4 kx
          have q4 := HQ3.out.new k4'
          have C3 := Lib.hid (iat_no q4 ((l0 : Int) + 1) (.inr (by have := HL.out; omega)))
          have K4 := Lib.hid (below_then K3.out k4')
          replace z3 := z3.new k4'
          clear hX kx k4' k4 q4 C2 HQ3
          refine C3.out.mono ?_
          rintro e w5 ⟨rfl, k5⟩
          have K5 := Lib.hid (below_then K4.out k5)
          replace z4 := z4.new k5
          have lt4 := World.block_lt_of_cell? _ _ z4.1
          obtain ⟨s0, s1, s2, s3, s4, s5⟩ := z4
          have t0 := fun o => (World.cell?_alloc_lt w5 o ⟨w4.heap.size, 0, none⟩ lt4).trans s0
          have t1 := fun o => (World.cell?_alloc_lt w5 o ⟨w4.heap.size, 1, none⟩ lt4).trans s1
          have t2 := fun o => (World.cell?_alloc_lt w5 o ⟨w4.heap.size, 2, none⟩ lt4).trans s2
          have t3 := fun o => (World.cell?_alloc_lt w5 o ⟨w4.heap.size, 3, none⟩ lt4).trans s3
          have t4 := fun o => (World.cell?_alloc_lt w5 o ⟨w4.heap.size, 4, none⟩ lt4).trans s4
          have t5 := fun o => (World.cell?_alloc_lt w5 o ⟨w4.heap.size, 5, none⟩ lt4).trans s5
          replace z3 := z3.new k5
          have lt3 := World.block_lt_of_cell? _ _ z3.1
          obtain ⟨p0, p1, p2, p3, p4, p5⟩ := z3
          have v0 := fun o => (World.cell?_alloc_lt w5 o ⟨w3.heap.size, 0, none⟩ lt3).trans p0
          have v1 := fun o => (World.cell?_alloc_lt w5 o ⟨w3.heap.size, 1, none⟩ lt3).trans p1
          have v2 := fun o => (World.cell?_alloc_lt w5 o ⟨w3.heap.size, 2, none⟩ lt3).trans p2
          have v3 := fun o => (World.cell?_alloc_lt w5 o ⟨w3.heap.size, 3, none⟩ lt3).trans p3
          have v4 := fun o => (World.cell?_alloc_lt w5 o ⟨w3.heap.size, 4, none⟩ lt3).trans p4
          have v5 := fun o => (World.cell?_alloc_lt w5 o ⟨w3.heap.size, 5, none⟩ lt3).trans p5
          clear p0 p1 p2 p3 p4 p5 lt3
          clear k5 s0 s1 s2 s3 s4 s5 lt4 C3
          go_wp2_with (go_at_call 28; refine (lives06 _).mono ?_; rintro e w6 ⟨rfl, k6⟩)
          go_ret
          exact ⟨rfl, fin (K5.out.alloc (by have := K5.out.size; omega) _) k6⟩
end Go.Proofs.Yteofbgbjibbdaab
