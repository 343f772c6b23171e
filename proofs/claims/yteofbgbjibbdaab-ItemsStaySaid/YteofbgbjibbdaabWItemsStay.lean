/- The law ItemsStay. -/
import Derived.Test.YteofbgbjibbdaabArI
import Derived.Deep.QuietTactic
import Derived.BigQuiet
namespace Go.Proofs.Yteofbgbjibbdaab
open Go.RowKit
set_option linter.unusedVariables false
/-- Records lie in a row. -/
def Lay (w : World) (b off : Nat) (L : List It) : Prop := ∀ (i : Nat) x, L[i]? = some x → w.cell? ⟨b, off + i * 6, none⟩ = some (.string x.1) ∧ w.cell? ⟨b, off + i * 6 + 1, none⟩ = some (.string x.2.1) ∧ w.cell? ⟨b, off + i * 6 + 2, none⟩ = some (.int .u32 x.2.2.1) ∧ w.cell? ⟨b, off + i * 6 + 3, none⟩ = some (.int .u64 x.2.2.2.1) ∧ w.cell? ⟨b, off + i * 6 + 4, none⟩ = some (.int .i64 x.2.2.2.2.1) ∧ w.cell? ⟨b, off + i * 6 + 5, none⟩ = some (.int .i64 x.2.2.2.2.2)
theorem Lay.now {w wr : World} {b off N k : Nat} {L : List It} {xk xv : ByteArray} {x2 x3 x4 x5 : Int} (h : Lay w b off L) (hN : N = w.heap.size) (hb : Below N w wr) (hx : L[k]? = some (xk, xv, x2, x3, x4, x5)) :
    wr.cell? ⟨b, off + k * 6, none⟩ = some (.string xk) ∧ wr.cell? ⟨b, off + k * 6 + 1, none⟩ = some (.string xv) ∧ wr.cell? ⟨b, off + k * 6 + 2, none⟩ = some (.int .u32 x2) ∧ wr.cell? ⟨b, off + k * 6 + 3, none⟩ = some (.int .u64 x3) ∧ wr.cell? ⟨b, off + k * 6 + 4, none⟩ = some (.int .i64 x4) ∧ wr.cell? ⟨b, off + k * 6 + 5, none⟩ = some (.int .i64 x5) ∧ b < N := by
  obtain ⟨d0, d1, d2, d3, d4, d5⟩ := h k _ hx
  have hbN : b < N := by have := World.block_lt_of_cell? _ _ d0; rw [hN]; exact this
  exact ⟨(hb.cell (p := ⟨b, off + k * 6, none⟩) hbN).trans d0, (hb.cell (p := ⟨b, off + k * 6 + 1, none⟩) hbN).trans d1, (hb.cell (p := ⟨b, off + k * 6 + 2, none⟩) hbN).trans d2, (hb.cell (p := ⟨b, off + k * 6 + 3, none⟩) hbN).trans d3, (hb.cell (p := ⟨b, off + k * 6 + 4, none⟩) hbN).trans d4, (hb.cell (p := ⟨b, off + k * 6 + 5, none⟩) hbN).trans d5, hbN⟩
theorem reads_lay {w : World} {a : Option Addr} {len cap : Nat} (h : Reads Try.prog w 53 (.slice a len cap)) : len ≤ 9223372036854775807 ∧ ∃ b off L, (0 < len → len ≤ cap ∧ a = some ⟨b, off, none⟩) ∧ L.length = len ∧ Lay w b off L := by
  have hrd := reads_items (e := 65) Try.underlying53 (by kernel_rfl) (by kernel_rfl) h
  rcases hrd with ⟨_, rfl, _⟩ | ⟨b, off, h1, h2, h3, L, h4, h5⟩
  · exact ⟨by omega, 0, 0, [], fun h => by omega, rfl, fun i x h => by simp at h⟩
  · exact ⟨by unfold maxLen at h2; omega, b, off, L, fun h => ⟨h1, h3 (by omega)⟩, h4, h5⟩
theorem take_one {L : List It} {k : Nat} {x : It} (h : L[k]? = some x) : L.take (k + 1) = L.take k ++ [x] := by
  have hk : k < L.length := by
    rcases Nat.lt_or_ge k L.length with h' | h'
    · exact h'
    · rw [List.getElem?_eq_none h'] at h; simp at h
  rw [List.take_succ_eq_append_getElem hk]
  rw [List.getElem?_eq_getElem hk] at h
  simp at h
  rw [h]
def StRel (N : Nat) (w : World) (L M : List It) (k m : Nat) (wr : World) : Prop := ∃ S T, Ars wr N (L.take k) S ∧ Ars wr (N + 1) (M.take m) T ∧ (∀ j, S j → N ≤ j) ∧ (∀ j, T j → N ≤ j) ∧ (∀ j, S j → ¬ T j) ∧ Below N w wr
theorem StRel.new {N : Nat} {w : World} {L M : List It} {k m : Nat} {wr W : World} (h : StRel N w L M k m wr) (hb : Below wr.heap.size wr W) (hN : N ≤ wr.heap.size) : StRel N w L M k m W := by
  obtain ⟨S, T, h1, h2, h3, h4, h5, h6⟩ := h
  exact ⟨S, T, h1.new hb, h2.new hb, h3, h4, h5, h6.trans (hb.mono hN)⟩
theorem StRel.addA {N : Nat} {w : World} {L M : List It} {k m : Nat} {wr : World} {x : It} (h : StRel N w L M k m wr) (hN : N ≤ wr.heap.size) (hl : k < 1048576) (hx : L[k]? = some x) :
    Calls Try.prog 30 #[.pointer (some ⟨N, 0, none⟩), .agg #[.string x.1, .string x.2.1, .int .u32 x.2.2.1, .int .u64 x.2.2.2.1, .int .i64 x.2.2.2.2.1, .int .i64 x.2.2.2.2.2]] wr fun e w' => e = .returned (.tuple #[.int .i64 ((k : Int) + 1), .int .i64 0]) ∧ StRel N w L M (k + 1) m w' ∧ N ≤ w'.heap.size := by
  obtain ⟨S, T, h1, h2, h3, h4, h5, h6⟩ := h
  have hk : k < L.length := by
    rcases Nat.lt_or_ge k L.length with h' | h'
    · exact h'
    · rw [List.getElem?_eq_none h'] at hx; simp at hx
  have hkl : (L.take k).length = k := by rw [List.length_take]; omega
  refine (iadd_any h1 (by omega) _ _ _ _ _ _ (n := (k : Int) + 1) (by rw [hkl])).mono ?_
  rintro e w' ⟨rfl, S', t, q⟩
  obtain ⟨b1, b2⟩ := t.to_below h3 hN
  refine ⟨rfl, ⟨S', T, by rw [take_one hx]; exact q, h2.keep t.keeps (fun j s s' => h5 j s' s), b2, h4, fun j s s' => ?_, h6.trans b1⟩, Nat.le_trans hN b1.size⟩
  obtain ⟨bs, v, g1, g2, g3⟩ := h2
  have := g3 j s'
  rcases t.only j s with s | s
  · exact h5 j s s'
  · omega
theorem StRel.addB {N : Nat} {w : World} {L M : List It} {k m : Nat} {wr : World} {x : It} (h : StRel N w L M k m wr) (hN : N ≤ wr.heap.size) (hl : m < 1048576) (hx : M[m]? = some x) :
    Calls Try.prog 30 #[.pointer (some ⟨N + 1, 0, none⟩), .agg #[.string x.1, .string x.2.1, .int .u32 x.2.2.1, .int .u64 x.2.2.2.1, .int .i64 x.2.2.2.2.1, .int .i64 x.2.2.2.2.2]] wr fun e w' => e = .returned (.tuple #[.int .i64 ((m : Int) + 1), .int .i64 0]) ∧ StRel N w L M k (m + 1) w' ∧ N ≤ w'.heap.size := by
  obtain ⟨S, T, h1, h2, h3, h4, h5, h6⟩ := h
  have hk : m < M.length := by
    rcases Nat.lt_or_ge m M.length with h' | h'
    · exact h'
    · rw [List.getElem?_eq_none h'] at hx; simp at hx
  have hkl : (M.take m).length = m := by rw [List.length_take]; omega
  refine (iadd_any h2 (by omega) _ _ _ _ _ _ (n := (m : Int) + 1) (by rw [hkl])).mono ?_
  rintro e w' ⟨rfl, T', t, q⟩
  obtain ⟨b1, b2⟩ := t.to_below h4 hN
  refine ⟨rfl, ⟨S, T', h1.keep t.keeps h5, by rw [take_one hx]; exact q, h3, b2, fun j s s' => ?_, h6.trans b1⟩, Nat.le_trans hN b1.size⟩
  obtain ⟨bs, v, g1, g2, g3⟩ := h1
  have := g3 j s
  rcases t.only j s' with s' | s'
  · exact h5 j s s'
  · omega
theorem StRel.atA {N : Nat} {w : World} {L M : List It} {l m k : Nat} {wr : World} {xk xv : ByteArray} {x2 x3 x4 x5 : Int} (h : StRel N w L M l m wr) (hk : k < l) (hl : l ≤ 200) (hx : L[k]? = some (xk, xv, x2, x3, x4, x5)) :
    Calls Try.prog 34 #[.pointer (some ⟨N, 0, none⟩), .int .i64 ((k : Int) + 1)] wr fun e w' => e = .returned (.tuple #[.agg #[.string xk, .string xv, .int .u32 x2, .int .u64 x3, .int .i64 x4, .int .i64 x5], .bool true]) ∧ Below wr.heap.size wr w' := by
  obtain ⟨S, T, h1, h2, h3, h4, h5, h6⟩ := h
  exact iat_any h1 k (by omega) (by rw [List.getElem?_take_of_lt hk]; exact hx) rfl
theorem StRel.atB {N : Nat} {w : World} {L M : List It} {l m k : Nat} {wr : World} {xk xv : ByteArray} {x2 x3 x4 x5 : Int} (h : StRel N w L M l m wr) (hk : k < m) (hl : m ≤ 200) (hx : M[k]? = some (xk, xv, x2, x3, x4, x5)) :
    Calls Try.prog 34 #[.pointer (some ⟨N + 1, 0, none⟩), .int .i64 ((k : Int) + 1)] wr fun e w' => e = .returned (.tuple #[.agg #[.string xk, .string xv, .int .u32 x2, .int .u64 x3, .int .i64 x4, .int .i64 x5], .bool true]) ∧ Below wr.heap.size wr w' := by
  obtain ⟨S, T, h1, h2, h3, h4, h5, h6⟩ := h
  exact iat_any h2 k (by omega) (by rw [List.getElem?_take_of_lt hk]; exact hx) rfl
theorem belowNi {B : Nat} {a w : World} (h : Below B a w) (n : Nat) : Below B a (w.drewN n) := by
  induction n with
  | zero => exact h
  | succ n ih => exact ih.drew
set_option maxHeartbeats 8000000 in
set_option maxRecDepth 100000 in
theorem walk_ItemsStay (a0 : Option Addr) (l0 c0 : Nat) (a1 : Option Addr) (l1 c1 : Nat) (w : World) (w0 : Reads Try.prog w 53 (.slice a0 l0 c0)) (w1 : Reads Try.prog w 53 (.slice a1 l1 c1)) :
    Calls Try.prog 8 #[.slice a0 l0 c0, .slice a1 l1 c1] w fun e w' => e = .returned (.bool true) ∧ Below w.heap.size w w' := by
  obtain ⟨m0, b0, o0, L, p0, hL, lay0⟩ := reads_lay w0
  obtain ⟨m1, b1, o1, M, p1, hM, lay1⟩ := reads_lay w1
  clear w0 w1
  have HA0 := Lib.hid p0
  have HA1 := Lib.hid p1
  have HL := Lib.hid hL
  have HM := Lib.hid hM
  have LY0 := Lib.hid lay0
  have LY1 := Lib.hid lay1
  clear p0 p1 hL hM lay0 lay1
  by_cases hbig : 200 < l0
  · go_enter Try.func8, Try.ntmps8
    go_wp2_with (go_at_call 28; refine (lives06 _).mono ?_; rintro e w' ⟨rfl, hk⟩)
    go_ret
    exact ⟨rfl, hk⟩
  have hd : decide (200 < (l0 : Int)) = false := decide_eq_false (by omega)
  by_cases hbig1 : 40 < l1
  · have hd1 : decide (40 < (l1 : Int)) = true := decide_eq_true (by omega)
    go_enter Try.func8, Try.ntmps8
    go_wp2_with (go_at_call 28; refine (lives06 _).mono ?_; rintro e w' ⟨rfl, hk⟩)
    go_ret
    exact ⟨rfl, hk⟩
  have hd1 : decide (40 < (l1 : Int)) = false := decide_eq_false (by omega)
  have hs0 : l0 ≤ 200 := by omega
  have hs1 : l1 ≤ 40 := by omega
  obtain ⟨N, hN⟩ : ∃ N, N = w.heap.size := ⟨_, rfl⟩
  have HN := Lib.hid hN
  clear hbig hbig1 m0 m1 hN
  go_enter Try.func8, Try.ntmps8
  go_wp2_with (go_at_call 29; refine (inew _).mono ?_; rintro e w1 ⟨rfl, rfl⟩)
  have hr0 : StRel N w L M 0 0 ((w.alloc (.cells #[.slice none 0 0, .int .i64 0] 71)).alloc (.cells #[.slice none 0 0, .int .i64 0] 71)) := by
    rw [HN.out]
    have h1 := ars_made w 71
    have h2 := ars_made (w.alloc (.cells #[.slice none 0 0, .int .i64 0] 71)) 71
    rw [show (w.alloc (.cells #[.slice none 0 0, .int .i64 0] 71)).heap.size = w.heap.size + 1 by simp] at h2
    exact ⟨_, _, h1.new ((Below.refl _ _).alloc (Nat.le_refl _) _), h2, fun j e => by omega, fun j e => by omega, fun j e e' => by omega, ((Below.refl _ _).alloc (Nat.le_refl _) _).alloc (by simp) _⟩
  rw [show w.heap.size = N from HN.out.symm]
  generalize World.alloc _ _ = W at hr0 ⊢
  go_loopw [7] (fun i wr => ∃ k : Nat, k ≤ l0 ∧ i = .int .i64 k ∧ StRel N w L M k (min k l1) wr) (fun i _ => l0 - (intOf i).toNat)
  case atStart => exact ⟨0, Nat.zero_le _, rfl, by rw [Nat.zero_min]; exact hr0⟩
  case round =>
    obtain ⟨k, hk, rfl, hR⟩ := hrel
    clear hr0
    have hsz : N ≤ wr.heap.size := by have := hR; obtain ⟨S, T, _, _, _, _, _, hb⟩ := this; have := hb.size; rw [← HN.out] at this; exact this
    by_cases hlt : k < l0
    · obtain ⟨hlc, rfl⟩ := HA0.out (by omega)
      obtain ⟨x, hx⟩ : ∃ x, L[k]? = some x := ⟨_, List.getElem?_eq_getElem (by have := HL.out; omega)⟩
      obtain ⟨xk, xv, x2, x3, x4, x5⟩ := x
      have hbel : Below N w wr := by obtain ⟨S, T, _, _, _, _, _, hb⟩ := hR; exact hb
      obtain ⟨d0, d1, d2, d3, d4, d5, hbN⟩ := LY0.out.now HN.out hbel hx
      have C1 := Lib.hid (hR.addA hsz (by omega) hx)
      have hkc : k < c0 := by omega
      have y1 : IntKind.i64.wrap ((k : Int) + 1) = (k : Int) + 1 := IntWalk.i64_in _ (by omega)
      have y2 : ((k : Int) + 1 != (k : Int) + 1) = false := by simp
      have HX := Lib.hid hx
      have HSZ := Lib.hid hsz
      clear hx hR hbel
      by_cases hl1 : k < l1
      · obtain ⟨hlc1, rfl⟩ := HA1.out (by omega)
        obtain ⟨z, hz⟩ : ∃ z, M[k]? = some z := ⟨_, List.getElem?_eq_getElem (by have := HM.out; omega)⟩
        obtain ⟨zk, zv, z2, z3, z4, z5⟩ := z
        have hkc1 : k < c1 := by omega
        have HZ := Lib.hid hz
        have HK1 := Lib.hid hl1
        clear hz
        go_wp2_with (go_at_call 30; ((with_reducible refine C1.out.mono ?_); rintro e w2 ⟨rfl, hR2, hs2⟩; have hmk : min k l1 = k := Nat.min_eq_left (by have := HK1.out; omega); rw [hmk] at hR2; have hb2 : Below N w w2 := (by obtain ⟨S, T, _, _, _, _, _, hb⟩ := hR2; exact hb); obtain ⟨g0, g1, g2, g3, g4, g5, gN⟩ := LY1.out.now HN.out hb2 HZ.out; have C2 := Lib.hid (hR2.addB hs2 (by omega) HZ.out); clear hR2 hb2 C1 hmk d0 d1 d2 d3 d4 d5))
        refine C2.out.mono ?_
        rintro e w3 ⟨rfl, hR3, hs3⟩
        have HR3 := Lib.hid hR3
        clear hR3 g0 g1 g2 g3 g4 g5 C2
        go_wp2_with fail
        go_roundw
        case rel => exact ⟨k + 1, by omega, by go_num, by rw [show min (k + 1) l1 = k + 1 by omega]; exact HR3.out⟩
        case measure => simp [intOf]; omega
      · have d6 : decide ((k : Int) < (l1 : Int)) = false := decide_eq_false (by omega)
        go_wp2_with (go_at_call 30; ((with_reducible refine C1.out.mono ?_); rintro e w2 ⟨rfl, hR2, hs2⟩; have HR2 := Lib.hid hR2; clear hR2))
        go_roundw
        case rel => exact ⟨k + 1, by omega, by go_num, by rw [show min (k + 1) l1 = min k l1 by omega]; exact HR2.out⟩
        case measure => simp [intOf]; omega
    · obtain rfl : l0 = k := by omega
      obtain ⟨m, hm⟩ : ∃ m, m = min l0 l1 := ⟨_, rfl⟩
      rw [← hm] at hR
      have HMM := Lib.hid hm
      clear hm
      go_wp2_with fail
      go_loopw [12] (fun i w2 => ∃ k : Nat, k ≤ l0 ∧ i = .int .i64 k ∧ StRel N w L M l0 m w2) (fun i _ => l0 - (intOf i).toNat)
      case atStart => exact ⟨0, Nat.zero_le _, rfl, hR⟩
      case round =>
        obtain ⟨k, hk2, rfl, hR2⟩ := hrel
        clear hR hsz
        by_cases hlt2 : k < l0
        · obtain ⟨hlc, rfl⟩ := HA0.out (by omega)
          obtain ⟨x, hx⟩ : ∃ x, L[k]? = some x := ⟨_, List.getElem?_eq_getElem (by have := HL.out; omega)⟩
          obtain ⟨xk, xv, x2, x3, x4, x5⟩ := x
          have hbel : Below N w wr := by obtain ⟨S, T, _, _, _, _, _, hb⟩ := hR2; exact hb
          have hsz : N ≤ wr.heap.size := by have := hbel.size; rw [← HN.out] at this; exact this
          have C1 := Lib.hid (hR2.atA hlt2 (by omega) hx)
          have LN := Lib.hid (fun (X : World) (hb : Below N w X) => LY0.out.now HN.out hb hx)
          have hkc : k < c0 := by omega
          have y1 : IntKind.i64.wrap ((k : Int) + 1) = (k : Int) + 1 := IntWalk.i64_in _ (by omega)
          have HB := Lib.hid hbel
          have HSZ := Lib.hid hsz
          have HR2 := Lib.hid hR2
          clear hx hR2 hbel hsz
          go_wp2_with (go_at_call 34; ((with_reducible refine C1.out.mono ?_); rintro e w3 ⟨rfl, k3⟩))
          generalize hX : World.alloc _ _ = X
          have kx : Below w3.heap.size w3 X := by rw [← hX]; exact (Below.refl _ _).alloc (Nat.le_refl _) _
          have e0 : X.cell? ⟨w3.heap.size, 0, none⟩ = some (.string xk) := by rw [← hX]; simp
          have e1 : X.cell? ⟨w3.heap.size, 1, none⟩ = some (.string xv) := by rw [← hX]; simp
          have e2 : X.cell? ⟨w3.heap.size, 2, none⟩ = some (.int .u32 x2) := by rw [← hX]; simp
          have e3 : X.cell? ⟨w3.heap.size, 3, none⟩ = some (.int .u64 x3) := by rw [← hX]; simp
          have e4 : X.cell? ⟨w3.heap.size, 4, none⟩ = some (.int .i64 x4) := by rw [← hX]; simp
          have e5 : X.cell? ⟨w3.heap.size, 5, none⟩ = some (.int .i64 x5) := by rw [← hX]; simp
          have kX := below_then k3 kx
          obtain ⟨g0, g1, g2, g3, g4, g5, gN⟩ := LN.out _ (HB.out.trans (kX.mono HSZ.out))
          have j0 : (0 : Int) ≤ (k : Int) := by omega
          have j1 : (k : Int) < (l0 : Int) := by omega
          have KX := Lib.hid kX
          clear hX kx kX k3 C1
          go_quiet (fail)
          clear e0 e1 e2 e3 e4 e5 g0 g1 g2 g3 g4 g5
          go_wp2_with fail
          go_roundw
          case rel => exact ⟨k + 1, by omega, by go_num, HR2.out.new (belowNi KX.out nq) HSZ.out⟩
          case measure => simp [intOf]; omega
        · obtain rfl : l0 = k := by omega
          have HR2 := Lib.hid hR2
          clear hR2
          go_wp2_with fail
          go_loopw [15] (fun i w2 => ∃ k : Nat, k ≤ m ∧ i = .int .i64 k ∧ StRel N w L M l0 m w2) (fun i _ => m - (intOf i).toNat)
          case atStart => exact ⟨0, Nat.zero_le _, rfl, HR2.out⟩
          case round =>
            obtain ⟨k, hk3, rfl, hR2⟩ := hrel
            by_cases hlt3 : k < m
            · have hh1 : k < l1 := by have := HMM.out; omega
              have hh0 : k < l0 := by have := HMM.out; omega
              have hml : m ≤ 40 := by have := HMM.out; omega
              obtain ⟨hlc, rfl⟩ := HA1.out (by omega)
              obtain ⟨x, hx⟩ : ∃ x, M[k]? = some x := ⟨_, List.getElem?_eq_getElem (by have := HM.out; omega)⟩
              obtain ⟨xk, xv, x2, x3, x4, x5⟩ := x
              have hbel : Below N w wr := by obtain ⟨S, T, _, _, _, _, _, hb⟩ := hR2; exact hb
              have hsz : N ≤ wr.heap.size := by have := hbel.size; rw [← HN.out] at this; exact this
              have C1 := Lib.hid (hR2.atB hlt3 (by omega) hx)
              have LN := Lib.hid (fun (X : World) (hb : Below N w X) => LY1.out.now HN.out hb hx)
              have hkc : k < c1 := by omega
              have y1 : IntKind.i64.wrap ((k : Int) + 1) = (k : Int) + 1 := IntWalk.i64_in _ (by omega)
              have HB := Lib.hid hbel
              have HSZ := Lib.hid hsz
              have HR2 := Lib.hid hR2
              clear hx hR2 hbel hsz
              go_wp2_with (go_at_call 34; ((with_reducible refine C1.out.mono ?_); rintro e w3 ⟨rfl, k3⟩))
              generalize hX : World.alloc _ _ = X
              have kx : Below w3.heap.size w3 X := by rw [← hX]; exact (Below.refl _ _).alloc (Nat.le_refl _) _
              have e0 : X.cell? ⟨w3.heap.size, 0, none⟩ = some (.string xk) := by rw [← hX]; simp
              have e1 : X.cell? ⟨w3.heap.size, 1, none⟩ = some (.string xv) := by rw [← hX]; simp
              have e2 : X.cell? ⟨w3.heap.size, 2, none⟩ = some (.int .u32 x2) := by rw [← hX]; simp
              have e3 : X.cell? ⟨w3.heap.size, 3, none⟩ = some (.int .u64 x3) := by rw [← hX]; simp
              have e4 : X.cell? ⟨w3.heap.size, 4, none⟩ = some (.int .i64 x4) := by rw [← hX]; simp
              have e5 : X.cell? ⟨w3.heap.size, 5, none⟩ = some (.int .i64 x5) := by rw [← hX]; simp
              have kX := below_then k3 kx
              obtain ⟨g0, g1, g2, g3, g4, g5, gN⟩ := LN.out _ (HB.out.trans (kX.mono HSZ.out))
              have j0 : (0 : Int) ≤ (k : Int) := by omega
              have j1 : (k : Int) < (l1 : Int) := by omega
              have KX := Lib.hid kX
              clear hX kx kX k3 C1
              go_quiet (fail)
              clear e0 e1 e2 e3 e4 e5 g0 g1 g2 g3 g4 g5
              go_wp2_with fail
              go_roundw
              case rel => exact ⟨k + 1, by omega, by go_num, HR2.out.new (belowNi KX.out nq) HSZ.out⟩
              case measure => simp [intOf]; omega
            · obtain rfl : m = k := by omega
              have hcA : Hid (Calls Try.prog 32 #[.pointer (some ⟨N, 0, none⟩)] wr fun e w' => e = .returned (.int .i64 l0) ∧ wr = w') := Lib.hid (by
                obtain ⟨S, T, h1, h2, h3, h4, h5, h6⟩ := hR2
                exact icount_any h1 (by rw [List.length_take]; have := HL.out; omega))
              have hcB : Hid (Calls Try.prog 32 #[.pointer (some ⟨N + 1, 0, none⟩)] wr fun e w' => e = .returned (.int .i64 m) ∧ wr = w') := Lib.hid (by
                obtain ⟨S, T, h1, h2, h3, h4, h5, h6⟩ := hR2
                exact icount_any h2 (by rw [List.length_take]; have := HM.out; have := HMM.out; omega))
              have hbel : Below N w wr := by obtain ⟨S, T, _, _, _, _, _, hb⟩ := hR2; exact hb
              have HB := Lib.hid hbel
              clear hbel hR2
              rcases Nat.lt_or_ge l0 l1 with hh | hh
              · obtain rfl : m = l0 := by have := HMM.out; omega
                have t1 : decide ((m : Int) < (l1 : Int)) = true := decide_eq_true (by omega)
                have t2 : decide ((m : Int) ≤ (l1 : Int)) = true := decide_eq_true (by omega)
                have t3 : decide (m < l1) = true := decide_eq_true hh
                have t4 : decide (m ≤ l1) = true := decide_eq_true (by omega)
                have t5 : min (m : Int) (l1 : Int) = (m : Int) := by omega
                go_wp2_with (first
                  | (go_at_call 32; first | ((with_reducible refine hcA.out.mono ?_); rintro e w3 ⟨rfl, rfl⟩) | ((with_reducible refine hcB.out.mono ?_); rintro e w3 ⟨rfl, rfl⟩))
                  | (go_at_call 28; refine (lives06 _).mono ?_; rintro e w' ⟨rfl, hk⟩))
                go_ret
                have hbb := HB.out
                rw [HN.out] at hbb
                exact ⟨rfl, below_then hbb hk⟩
              · obtain rfl : m = l1 := by have := HMM.out; omega
                have t1 : decide ((m : Int) < (m : Int)) = false := decide_eq_false (by omega)
                have t3 : decide (m < m) = false := decide_eq_false (by omega)
                have t5 : min (l0 : Int) (m : Int) = (m : Int) := by omega
                have t6 : decide ((m : Int) ≤ (l0 : Int)) = true := decide_eq_true (by omega)
                have t7 : decide (m ≤ l0) = true := decide_eq_true (by omega)
                by_cases hq : l0 ≤ m
                · obtain rfl : l0 = m := by omega
                  have t8 : decide (l0 ≤ l0) = true := decide_eq_true (by omega)
                  go_wp2_with (first
                    | (go_at_call 32; first | ((with_reducible refine hcA.out.mono ?_); rintro e w3 ⟨rfl, rfl⟩) | ((with_reducible refine hcB.out.mono ?_); rintro e w3 ⟨rfl, rfl⟩))
                    | (go_at_call 28; refine (lives06 _).mono ?_; rintro e w' ⟨rfl, hk⟩))
                  go_ret
                  have hbb := HB.out
                  rw [HN.out] at hbb
                  exact ⟨rfl, below_then hbb hk⟩
                · have t8 : decide ((l0 : Int) ≤ (m : Int)) = false := decide_eq_false (by omega)
                  have t9 : decide (l0 ≤ m) = false := decide_eq_false (by omega)
                  go_wp2_with (first
                    | (go_at_call 32; first | ((with_reducible refine hcA.out.mono ?_); rintro e w3 ⟨rfl, rfl⟩) | ((with_reducible refine hcB.out.mono ?_); rintro e w3 ⟨rfl, rfl⟩))
                    | (go_at_call 28; refine (lives06 _).mono ?_; rintro e w' ⟨rfl, hk⟩))
                  go_ret
                  have hbb := HB.out
                  rw [HN.out] at hbb
                  exact ⟨rfl, below_then hbb hk⟩
end Go.Proofs.Yteofbgbjibbdaab
