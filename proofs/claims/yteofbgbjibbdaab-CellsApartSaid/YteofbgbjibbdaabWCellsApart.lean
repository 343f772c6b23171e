/- The law CellsApart. -/
import Derived.Test.YteofbgbjibbdaabClAct
import Derived.Test.YteofbgbjibbdaabClSort
import Derived.BigQuiet
import Derived.Deep.QuietTactic
namespace Go.Proofs.Yteofbgbjibbdaab
open Go.RowKit
set_option linter.unusedVariables false
theorem belowNd {B : Nat} {a w : World} (h : Below B a w) (n : Nat) : Below B a (w.drewN n) := by
  induction n with
  | zero => exact h
  | succ n ih => exact ih.drew
def ApRel (N B : Nat) (w : World) (k : Nat) (wr : World) : Prop := ∃ f kk a x y n S, Cel wr B f k kk a x y n S ∧ (∀ j, S j → B ≤ j ∧ j < wr.heap.size) ∧ n ≤ k + 1000000 ∧ Below N w wr
/-- An access at xa has been done. -/
def Done (p : Nat) (f : Int → Int) (k : Nat) (xa : Int) (n : Nat) (S : Nat → Prop) (w w' : World) : Prop := ∃ S' kk v, Turn S S' w w' ∧ Cel w' p (upd f xa v) ((k : Int) + 1) kk xa (f xa) v (n + 1) S'
theorem peek_at {w : World} {p n : Nat} {f : Int → Int} {cnt k a0 x y a u : Int} {S : Nat → Prop} (h : Cel w p f cnt k a0 x y n S) (ha : isU a) (hu : f a = u) :
    Calls Try.prog 22 #[.pointer (some ⟨p, 0, none⟩), .int .u64 a] w fun e w' => e = .returned (.int .u64 u) ∧ w = w' := hu ▸ peek_any h a ha
section
variable {w : World} {p n k : Nat} {f : Int → Int} {kk a0 x y xa v u z : Int} {S : Nat → Prop}
theorem d_load (h : Cel w p f k kk a0 x y n S) (ha : isU xa) (hk : k ≤ 300) (hn : n ≤ k + 1000000) (hz : f xa = z) :
    Calls Try.prog 16 #[.pointer (some ⟨p, 0, none⟩), .int .u64 xa] w fun e w' => e = .returned (.int .u64 z) ∧ Done p f k xa n S w w' := by
  subst hz
  refine (load_any h ha (by omega) (by omega) (by omega)).mono ?_
  rintro e w' ⟨rfl, S', t, q⟩
  exact ⟨rfl, S', _, f xa, t, by rw [upd_id]; exact q⟩
theorem d_store (h : Cel w p f k kk a0 x y n S) (ha : isU xa) (hv : isU v) (hk : k ≤ 300) (hn : n ≤ k + 1000000) (hz : f xa = z) :
    Calls Try.prog 17 #[.pointer (some ⟨p, 0, none⟩), .int .u64 xa, .int .u64 v] w fun e w' => e = .returned (.int .u64 z) ∧ Done p f k xa n S w w' := by
  subst hz
  refine (store_any h ha hv (by omega) (by omega) (by omega)).mono ?_
  rintro e w' ⟨rfl, S', t, q⟩
  exact ⟨rfl, S', _, _, t, q⟩
theorem d_swap (h : Cel w p f k kk a0 x y n S) (ha : isU xa) (hv : isU v) (hk : k ≤ 300) (hn : n ≤ k + 1000000) (hz : f xa = z) :
    Calls Try.prog 18 #[.pointer (some ⟨p, 0, none⟩), .int .u64 xa, .int .u64 v] w fun e w' => e = .returned (.int .u64 z) ∧ Done p f k xa n S w w' := by
  subst hz
  refine (swap_any h ha hv (by omega) (by omega) (by omega)).mono ?_
  rintro e w' ⟨rfl, S', t, q⟩
  exact ⟨rfl, S', _, _, t, q⟩
theorem d_add (h : Cel w p f k kk a0 x y n S) (ha : isU xa) (hk : k ≤ 300) (hn : n ≤ k + 1000000) (hz : f xa = z) :
    Calls Try.prog 19 #[.pointer (some ⟨p, 0, none⟩), .int .u64 xa, .int .u64 v] w fun e w' => e = .returned (.int .u64 z) ∧ Done p f k xa n S w w' := by
  subst hz
  refine (add_any h ha (by omega) (by omega) (by omega)).mono ?_
  rintro e w' ⟨rfl, S', t, q⟩
  exact ⟨rfl, S', _, _, t, q⟩
theorem d_cas (h : Cel w p f k kk a0 x y n S) (hS : ∀ j, S j → j < w.heap.size) (ha : isU xa) (hv : isU v) (hk : k ≤ 300) (hn : n ≤ k + 1000000) (hz : f xa = z) :
    Calls Try.prog 15 #[.pointer (some ⟨p, 0, none⟩), .int .u64 xa, .int .u64 u, .int .u64 v] w fun e w' => (∃ r, e = .returned (.tuple #[.int .u64 z, .bool r])) ∧ Done p f k xa n S w w' := by
  subst hz
  refine (cas_any h hS ha hv (by omega) (by omega) (by omega) rfl).mono ?_
  rintro e w' ⟨rfl, S', t, q⟩
  exact ⟨⟨_, rfl⟩, S', _, _, t, q⟩
end
theorem five {kd : Int} (h : 0 ≤ kd ∧ kd ≤ 255) : kd.tmod 5 = 0 ∨ kd.tmod 5 = 1 ∨ kd.tmod 5 = 2 ∨ kd.tmod 5 = 3 ∨ kd.tmod 5 = 4 := by
  rw [Int.tmod_eq_emod_of_nonneg h.1]; omega
set_option maxHeartbeats 8000000 in
set_option maxRecDepth 100000 in
theorem walk_CellsApart (a0 : Option Addr) (l0 c0 : Nat) (a1 : Int) (a2 : Int) (w : World) (w0 : Reads Try.prog w 46 (.slice a0 l0 c0)) (w1 : (Lit.int .u64 a1).wf = true) (w2 : (Lit.int .u64 a2).wf = true) :
    Calls Try.prog 4 #[.slice a0 l0 c0, .int .u64 a1, .int .u64 a2] w fun e w' => e = .returned (.bool true) ∧ Below w.heap.size w w' := by
  have HSN := Lib.hid sort_none
  have u1 := wf_isU w1
  have u2 := wf_isU w2
  have hrd := reads_acts (e := 25) Try.underlying46 (by kernel_rfl) (by kernel_rfl) w0
  clear w0 w1 w2
  have hm : l0 ≤ 9223372036854775807 := by
    rcases hrd with ⟨_, rfl, _⟩ | ⟨b, off, h1, h2, _⟩
    · omega
    · unfold maxLen at h2; omega
  by_cases hbig : 300 < l0
  · clear hrd
    go_enter Try.func4, Try.ntmps4
    go_wp2_with (go_at_call 26; refine (lives05 HSN.out _).mono ?_; rintro e w' ⟨rfl, hk⟩)
    go_ret
    exact ⟨rfl, hk⟩
  have hd : decide (300 < (l0 : Int)) = false := decide_eq_false (by omega)
  have hsm : l0 ≤ 300 := by omega
  clear hbig hm
  obtain ⟨B, hB⟩ : ∃ B, B = w.heap.size + 1 := ⟨_, rfl⟩
  have HB := Lib.hid hB
  have HR := Lib.hid hrd
  have HN : ∀ T, Hid (Calls Try.prog 27 #[.slice (some ⟨w.heap.size, 0, none⟩) 1 1] (w.alloc (.cells #[.int .u64 a1, .int .u64 a2] T)) fun e w' => e = .returned (.pointer (some ⟨B, 0, none⟩)) ∧ ∃ f, ClsPost B (w.alloc (.cells #[.int .u64 a1, .int .u64 a2] T)) B f 0 0 0 0 0 w') := fun T => Lib.hid (by
    have hz : (w.alloc (.cells #[.int .u64 a1, .int .u64 a2] T)).heap.size = B := by rw [hB]; simp
    have := new_words [(a1, a2)] (by intro x hx; simp at hx; subst hx; exact ⟨u1, u2⟩) w.heap.size 0 1 (w.alloc (.cells #[.int .u64 a1, .int .u64 a2] T)) (by simp) (by simp) (by
      intro i x hx
      have hi : i = 0 := by
        rcases i with _ | i
        · rfl
        · simp at hx
      subst hi
      simp at hx
      subst hx
      exact ⟨by simp, by simp⟩) (by simp)
    rw [hz] at this
    refine this.mono ?_
    rintro e w' ⟨rfl, h⟩
    exact ⟨rfl, _, h⟩)
  clear hB hrd u2
  go_enter Try.func4, Try.ntmps4
  go_wp2_with (go_at_call 27; ((with_reducible refine ((HN _).out).mono ?_); rintro e w1 ⟨rfl, f0, hb1, hc1⟩))
  have hr0 : ApRel w.heap.size B w 0 w1 := by
    obtain ⟨n, S, q, hS, hn⟩ := hc1
    exact ⟨f0, 0, 0, 0, 0, n, S, q, hS, by omega, ((Below.refl _ _).alloc (Nat.le_refl _) _).trans (hb1.mono (by rw [HB.out]; omega))⟩
  clear HN hb1 hc1
  obtain ⟨N, hN⟩ : ∃ N, N = w.heap.size := ⟨_, rfl⟩
  have HNN := Lib.hid hN
  have hNB : N ≤ B := by rw [HB.out, hN]; omega
  rw [← hN] at hr0
  clear hN
  go_wp2_with fail
  go_loopw [8] (fun i wr => ∃ k : Nat, k ≤ l0 ∧ i = .int .i64 k ∧ ApRel N B w k wr) (fun i _ => l0 - (intOf i).toNat)
  case atStart => exact ⟨0, Nat.zero_le _, rfl, hr0⟩
  case round =>
    obtain ⟨k, hk, rfl, f, kk, pa, px, py, n, S, hq, hS, hn, hbel⟩ := hrel
    clear hr0
    by_cases hlt : k < l0
    · rcases HR.out with ⟨-, e0, -⟩ | ⟨b, off, h1, h2, h3, h4⟩
      · omega
      obtain ⟨kd, xa, xv, xi, hkd, ux, uv, ui, d0, d1, d2, d3⟩ := h4 k (by omega)
      obtain rfl := h3 (by omega)
      have hbN : b < N := by have := World.block_lt_of_cell? _ _ d0; rw [HNN.out]; exact this
      replace d0 := (hbel.cell (p := ⟨b, off + k * 4, none⟩) hbN).trans d0
      replace d1 := (hbel.cell (p := ⟨b, off + k * 4 + 1, none⟩) hbN).trans d1
      replace d2 := (hbel.cell (p := ⟨b, off + k * 4 + 2, none⟩) hbN).trans d2
      replace d3 := (hbel.cell (p := ⟨b, off + k * 4 + 3, none⟩) hbN).trans d3
      have hkc : k < c0 := by omega
      have hw1 : B < wr.heap.size := (hS _ hq.here).2
      have HQ := Lib.hid hq
      have HS := Lib.hid hS
      have HL := Lib.hid hbel
      clear hq hS hbel h1 h2 h3 h4 HR
      go_wp2_with fail
      generalize hW1 : wr.alloc _ = W1
      have hb1 : Below wr.heap.size wr W1 := by rw [← hW1]; exact (Below.refl _ _).alloc (Nat.le_refl _) _
      have hz1 : W1.heap.size = wr.heap.size + 1 := by rw [← hW1]; simp
      have x0 : W1.cell? ⟨wr.heap.size, 0, none⟩ = some (.int .u8 kd) := by rw [← hW1]; simp
      have x1 : W1.cell? ⟨wr.heap.size, 1, none⟩ = some (.int .u64 xa) := by rw [← hW1]; simp
      have x2 : W1.cell? ⟨wr.heap.size, 2, none⟩ = some (.int .u64 xv) := by rw [← hW1]; simp
      have x3 : W1.cell? ⟨wr.heap.size, 3, none⟩ = some (.int .u64 xi) := by rw [← hW1]; simp
      have q1 : Cel W1 B f k kk pa px py n S := IsCells.keep HQ.out (Keeps.of_new (S := fun _ => False) hb1) (fun _ _ s => s)
      have hnS : ¬ S wr.heap.size := fun s => by have := (HS.out _ s).2; omega
      have hS1 : ∀ j, S j → j < W1.heap.size := fun j s => by have := (HS.out j s).2; omega
      obtain ⟨z, hz⟩ : ∃ z, f xa = z := ⟨_, rfl⟩
      obtain ⟨z1, hz1'⟩ : ∃ z1, f a1 = z1 := ⟨_, rfl⟩
      have C1 := Lib.hid (peek_at q1 ux hz)
      have C2 := Lib.hid (peek_at q1 u1 hz1')
      have E1 := Lib.hid (d_load q1 ux (by omega) hn hz)
      have E2 := Lib.hid (d_store (v := xv) q1 ux uv (by omega) hn hz)
      have E3 := Lib.hid (d_cas (u := xv) (v := xi) q1 hS1 ux ui (by omega) hn hz)
      have E4 := Lib.hid (d_swap (v := xv) q1 ux uv (by omega) hn hz)
      have E5 := Lib.hid (d_add (v := xv) q1 ux (by omega) hn hz)
      have HNS := Lib.hid hnS
      have HB1 := Lib.hid hb1
      have HZ1 := Lib.hid hz1
      have HZ := Lib.hid hz
      have HZ' := Lib.hid hz1'
      have h5 := five hkd
      clear hW1 d0 d1 d2 d3 q1 hS1 hnS hb1 hz1 hz hz1'
      rcases h5 with h5 | h5 | h5 | h5 | h5
      all_goals
        have h5' : kd % 5 = kd.tmod 5 := (Int.tmod_eq_emod_of_nonneg hkd.1).symm
        rw [h5] at h5'
        go_wp2_with (first
          | (go_at_call 22; first | ((with_reducible refine (C1.out).mono ?_); rintro e w' ⟨rfl, rfl⟩) | ((with_reducible refine (C2.out).mono ?_); rintro e w' ⟨rfl, rfl⟩))
          | (go_at_call 16; ((with_reducible refine (E1.out).mono ?_); rintro e w3 ⟨rfl, hD⟩))
          | (go_at_call 17; ((with_reducible refine (E2.out).mono ?_); rintro e w3 ⟨rfl, hD⟩))
          | (go_at_call 15; ((with_reducible refine (E3.out).mono ?_); rintro e w3 ⟨⟨r, rfl⟩, hD⟩))
          | (go_at_call 18; ((with_reducible refine (E4.out).mono ?_); rintro e w3 ⟨rfl, hD⟩))
          | (go_at_call 19; ((with_reducible refine (E5.out).mono ?_); rintro e w3 ⟨rfl, hD⟩)))
        obtain ⟨S', kk', v', ht, hq3⟩ := hD
        rw [HZ.out] at hq3
        have y1 := ht.keeps.cell (p := ⟨wr.heap.size, 1, none⟩) HNS.out x1
        have hlt3 : wr.heap.size < w3.heap.size := World.block_lt_of_cell? _ _ y1
        have CL := Lib.hid (last_any hq3)
        have HT := Lib.hid ht
        have HQ3 := Lib.hid hq3
        clear ht hq3 x0 x1 x2 x3 C1 C2 E1 E2 E3 E4 E5
        go_wp2_with (go_at_call 21; ((with_reducible refine (CL.out).mono ?_); rintro e w4 ⟨rfl, hb4⟩))
        generalize hW5 : w4.alloc _ = W5
        have hb5 : Below w4.heap.size w4 W5 := by rw [← hW5]; exact (Below.refl _ _).alloc (Nat.le_refl _) _
        have l1 : W5.cell? ⟨w4.heap.size, 1, none⟩ = some (.int .u64 xa) := by rw [← hW5]; simp
        have l2 : W5.cell? ⟨w4.heap.size, 2, none⟩ = some (.int .u64 z) := by rw [← hW5]; simp
        have l3 : W5.cell? ⟨w4.heap.size, 3, none⟩ = some (.int .u64 v') := by rw [← hW5]; simp
        have hb35 := below_then hb4 hb5
        have y5 := (hb35.cell (p := ⟨wr.heap.size, 1, none⟩) hlt3).trans y1
        have q5 : ∀ m, Cel (W5.drewN m) B (upd f xa v') ((k : Int) + 1) kk' xa z v' (n + 1) S' := fun m => IsCells.keep HQ3.out ((Keeps.of_new (S := fun _ => False) hb35).drewN m) (fun _ _ s => s)
        have P1 : ∀ m, Hid (Calls Try.prog 22 #[.pointer (some ⟨B, 0, none⟩), .int .u64 xa] (W5.drewN m) fun e w' => e = .returned (.int .u64 v') ∧ W5.drewN m = w') := fun m => Lib.hid (peek_at (q5 m) ux (upd_same _ _ _))
        have P3 : ∀ m, Hid (Calls Try.prog 20 #[.pointer (some ⟨B, 0, none⟩)] (W5.drewN m) fun e w' => e = .returned (.int .i64 ((k : Int) + 1)) ∧ W5.drewN m = w') := fun m => Lib.hid (count_any (q5 m))
        have Q5 := Lib.hid q5
        have HB35 := Lib.hid hb35
        have kw : IntKind.i64.wrap ((k : Int) + 1) = (k : Int) + 1 := IntWalk.i64_in _ (by omega)
        have b1 : (z != z) = false := by simp
        have b2 : (xa != xa) = false := by simp
        have b3 : (v' != v') = false := by simp
        have b4 : ((k : Int) + 1 != (k : Int) + 1) = false := by simp
        clear hW5 hb4 hb5 hb35 q5 y1
        by_cases hxa : xa = a1
        · obtain rfl := hxa
          clear u1
          go_quiet ((first
            | (go_at_call 22; exact quiet_left ((P1 _).out))
            | (go_at_call 20; exact quiet_left ((P3 _).out))))
          clear P1 P3 b1 b2 b3 b4 l1 l2 l3 y5
          go_wp2_with fail
          go_roundw
          case rel =>
            refine ⟨k + 1, by omega, by go_num, upd f xa v', kk', xa, z, v', n + 1, S', ?_, fun j s => ?_, by omega, ?_⟩
            · have := Q5.out nq
              rwa [show ((k : Int) + 1) = ((k + 1 : Nat) : Int) by omega] at this
            · have hs := HB35.out.size
              rcases HT.out.only j s with s | s
              · have := HS.out j s; have h3 := HT.out.keeps.size; have := HZ1.out; simp; omega
              · have := HZ1.out; simp; omega
            · exact belowNd (HL.out.trans ((HB1.out.mono (by omega)).trans (((HT.out.to_below (B := B) (fun j s => (HS.out j s).1) (by have := HZ1.out; omega)).1.mono hNB).trans (HB35.out.mono (by have := HT.out.keeps.size; have := HZ1.out; omega))))) nq
          case measure => simp [intOf]; omega
        · have b5 : (xa != a1) = true := bne_iff_ne.2 hxa
          have b6 : (xa == a1) = false := beq_eq_false_iff_ne.2 hxa
          have b7 : decide (xa = a1) = false := decide_eq_false hxa
          have b8 : (z1 != z1) = false := by simp
          have P2 : ∀ m, Hid (Calls Try.prog 22 #[.pointer (some ⟨B, 0, none⟩), .int .u64 a1] (W5.drewN m) fun e w' => e = .returned (.int .u64 z1) ∧ W5.drewN m = w') := fun m => Lib.hid (peek_at (Q5.out m) u1 (by rw [upd_other (fun e => hxa e.symm)]; exact HZ'.out))
          have HX := Lib.hid hxa
          clear hxa
          go_quiet ((first
            | (go_at_call 22; first | (with_reducible exact quiet_left ((P1 _).out)) | (with_reducible exact quiet_left ((P2 _).out)))
            | (go_at_call 20; exact quiet_left ((P3 _).out))))
          clear P2 b5 b6 b7 b8
          clear P1 P3 b1 b2 b3 b4 l1 l2 l3 y5
          go_wp2_with fail
          go_roundw
          case rel =>
            refine ⟨k + 1, by omega, by go_num, upd f xa v', kk', xa, z, v', n + 1, S', ?_, fun j s => ?_, by omega, ?_⟩
            · have := Q5.out nq
              rwa [show ((k : Int) + 1) = ((k + 1 : Nat) : Int) by omega] at this
            · have hs := HB35.out.size
              rcases HT.out.only j s with s | s
              · have := HS.out j s; have h3 := HT.out.keeps.size; have := HZ1.out; simp; omega
              · have := HZ1.out; simp; omega
            · exact belowNd (HL.out.trans ((HB1.out.mono (by omega)).trans (((HT.out.to_below (B := B) (fun j s => (HS.out j s).1) (by have := HZ1.out; omega)).1.mono hNB).trans (HB35.out.mono (by have := HT.out.keeps.size; have := HZ1.out; omega))))) nq
          case measure => simp [intOf]; omega
    · have hkl : k = l0 := by omega
      have HL := Lib.hid hbel
      clear hq hS hbel HR
      go_wp2_with (go_at_call 26; refine (lives05 HSN.out _).mono ?_; rintro e w' ⟨rfl, hk⟩)
      go_ret
      have := HL.out
      rw [HNN.out] at this
      exact ⟨rfl, below_then this hk⟩
end Go.Proofs.Yteofbgbjibbdaab
