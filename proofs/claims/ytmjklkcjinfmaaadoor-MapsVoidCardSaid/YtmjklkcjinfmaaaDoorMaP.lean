/- Maps: runs of calls. -/
import Derived.Test.YtmjklkcjinfmaaaDoorMaJ
import Derived.Test.YtmjklkcjinfmaaaDoorOpen
import Derived.Deep.Cut
namespace Go.Proofs.YtmjklkcjinfmaaaDoor
open Go.RowKit Go.Maps
set_option linter.unusedVariables false
structure Stp where
  c : Cal
  t : Int
def stpC (x : Stp) : List Value := [.int .u8 x.c.verb, .string x.c.key, .string x.c.val, .int .u32 x.c.fl, .int .i64 x.c.exp, .int .u64 x.c.id, .int .u64 x.c.by_, .int .u8 x.t]
def StpOk (x : Stp) : Prop := CalOk x.c ∧ 0 ≤ x.t ∧ x.t ≤ 255
/-- Steps that can be read. -/
def RdS (W : World) (a : Option Addr) (L : List Stp) : Prop := L = [] ∨ ∃ b off, a = some ⟨b, off, none⟩ ∧ b < W.heap.size ∧ ∀ i x, L[i]? = some x → ∀ j v, (stpC x)[j]? = some v → W.cell? ⟨b, off + (i * 8 + j), none⟩ = some v
theorem RdS.below {W W' : World} {a : Option Addr} {L : List Stp} {B : Nat} (h : RdS W a L) (hb : Below B W W') (hB : W.heap.size ≤ B) : RdS W' a L := by
  rcases h with h | ⟨b, off, e, hl, hc⟩
  · exact .inl h
  · exact .inr ⟨b, off, e, Nat.lt_of_lt_of_le hl hb.size, fun i x hi j v hj => (hb.cell (p := ⟨b, off + (i * 8 + j), none⟩) (Nat.lt_of_lt_of_le hl hB)).trans (hc i x hi j v hj)⟩
theorem list_of {α : Type} {P : Nat → α → Prop} : ∀ n : Nat, (∀ i, i < n → ∃ x, P i x) → ∃ L : List α, L.length = n ∧ ∀ (i : Nat) (x : α), L[i]? = some x → P i x
  | 0, _ => ⟨[], rfl, fun i x h => by simp at h⟩
  | n + 1, h => by
    obtain ⟨L, hl, hL⟩ := list_of n fun i hi => h i (by omega)
    obtain ⟨x, hx⟩ := h n (by omega)
    refine ⟨L ++ [x], by simp [hl], fun i y hi => ?_⟩
    by_cases e : i < n
    · rw [List.getElem?_append_left (by omega)] at hi
      exact hL i y hi
    · rw [List.getElem?_append_right (by omega)] at hi
      have : i - L.length = 0 := by
        rcases Nat.eq_zero_or_pos (i - L.length) with h | h
        · exact h
        · rw [List.getElem?_eq_none (by show 1 ≤ _; omega)] at hi; cases hi
      rw [this] at hi
      simp at hi
      subst hi
      have : i = n := by omega
      rw [this]
      exact hx
theorem stp_leaves : leaves Tryd.prog 9 64 = some [.inl .u8, .inr (.inl true), .inr (.inl true), .inl .u32, .inl .i64, .inl .u64, .inl .u64, .inl .u8] := by kernel_rfl
theorem stp_cells : Tryd.prog.cellsOf 64 = 8 := by kernel_rfl
theorem open_steps {w : World} {a : Option Addr} {n c : Nat} (h : Reads Tryd.prog w 61 (.slice a n c)) :
    ∃ L : List Stp, L.length = n ∧ n ≤ c ∧ c ≤ maxLen ∧ RdS w a L ∧ ∀ x ∈ L, StpOk x := by
  rcases Reads.slice Tryd.underlying61 stp_leaves h with ⟨rfl, rfl, rfl⟩ | ⟨b, off, sp, rfl, h1, h2, h3, h4⟩
  · exact ⟨[], rfl, Nat.le_refl _, by simp [maxLen], .inl rfl, fun x h => by simp at h⟩
  · obtain ⟨L, hl, hL⟩ := list_of (P := fun i (x : Stp) => StpOk x ∧ ∀ j v, (stpC x)[j]? = some v → w.cell? ⟨b, off + (i * 8 + j), none⟩ = some v) n (by
      intro i hi
      obtain ⟨l, hl, hll, hx⟩ := h4 i (by omega)
      rw [stp_cells] at hx
      obtain ⟨v0, l0, rfl, ⟨m0, rfl, w0⟩, t0⟩ := all2_cons hl
      obtain ⟨v1, l1, rfl, ⟨m1, rfl, w1⟩, t1⟩ := all2_cons t0
      obtain ⟨v2, l2, rfl, ⟨m2, rfl, w2⟩, t2⟩ := all2_cons t1
      obtain ⟨v3, l3, rfl, ⟨m3, rfl, w3⟩, t3⟩ := all2_cons t2
      obtain ⟨v4, l4, rfl, ⟨m4, rfl, w4⟩, t4⟩ := all2_cons t3
      obtain ⟨v5, l5, rfl, ⟨m5, rfl, w5⟩, t5⟩ := all2_cons t4
      obtain ⟨v6, l6, rfl, ⟨m6, rfl, w6⟩, t6⟩ := all2_cons t5
      obtain ⟨v7, l7, rfl, ⟨m7, rfl, w7⟩, t7⟩ := all2_cons t6
      have b0 := bounds_u8 w0
      have b3 := bounds_u32 w3
      have b5 := bounds_u64 w5
      refine ⟨⟨⟨m0, m1, m2, m3, m4, m5, m6⟩, m7⟩, ⟨⟨by show 0 ≤ m0 ∧ m0 < 256; omega, w1, w2, by show 0 ≤ m3 ∧ m3 < 4294967296; omega, bounds_i64 w4, by show 0 ≤ m5 ∧ m5 < 18446744073709551616; omega, bounds_u64 w6⟩, bounds_u8 w7⟩, fun j v hj => ?_⟩
      refine hx j v ?_
      match j, hj with
      | 0, hj => exact hj
      | 1, hj => exact hj
      | 2, hj => exact hj
      | 3, hj => exact hj
      | 4, hj => exact hj
      | 5, hj => exact hj
      | 6, hj => exact hj
      | 7, hj => exact hj
      | j + 8, hj => simp [stpC] at hj)
    refine ⟨L, hl, h1, h2, ?_, fun x hx => ?_⟩
    · by_cases hn : n = 0
      · left; exact List.eq_nil_of_length_eq_zero (by omega)
      · right
        have hsp : sp = none := h3 (by omega) (by rw [stp_cells]; decide)
        subst hsp
        refine ⟨b, off, rfl, ?_, fun i x hi => (hL i x hi).2⟩
        obtain ⟨x, hx⟩ : ∃ x, L[0]? = some x := ⟨L[0]'(by omega), List.getElem?_eq_getElem (by omega)⟩
        exact World.block_lt_of_cell? w _ ((hL 0 x hx).2 0 _ rfl)
    · obtain ⟨i, hi, rfl⟩ := List.getElem_of_mem hx
      exact (hL i _ (List.getElem?_eq_getElem hi)).1
/-- The cells of a step. -/
theorem RdS.at {W : World} {a : Option Addr} {L : List Stp} (h : RdS W a L) {i : Nat} (hi : i < L.length) : ∃ b off x, a = some ⟨b, off, none⟩ ∧ b < W.heap.size ∧ L[i]? = some x ∧ ∀ j v, (stpC x)[j]? = some v → W.cell? ⟨b, off + i * 8 + j, none⟩ = some v := by
  rcases h with h | ⟨b, off, e, hl, hc⟩
  · subst h; simp at hi
  · exact ⟨b, off, L[i], e, hl, List.getElem?_eq_getElem hi, fun j v hj => by rw [Nat.add_assoc]; exact hc i _ (List.getElem?_eq_getElem hi) j v hj⟩
theorem belowNm {B : Nat} {a w : World} (h : Below B a w) (n : Nat) : Below B a (w.drewN n) := by
  induction n with
  | zero => exact h
  | succ n ih => exact ih.drew
def wtS (x : Stp) : Int := (if 9000 < (x.c.key.size : Int) then 9000 else (x.c.key.size : Int)) + (if 9000 < (x.c.val.size : Int) then 9000 else (x.c.val.size : Int))
def zS (L : List Stp) (k : Nat) : Int := ((L.take k).map wtS).sum
theorem zS_next {L : List Stp} {k : Nat} {x : Stp} (h : L[k]? = some x) : zS L (k + 1) = zS L k + wtS x := by
  unfold zS
  rw [List.take_add_one, h]
  simp
/-- Are there more steps than are gone through? -/
def longB (L : List Stp) : Bool := decide (9000 < zS L (min L.length 130)) || decide (100 < L.length)
theorem longB_no {L : List Stp} (h : longB L = false) : L.length ≤ 100 := by
  unfold longB at h
  simp at h
  omega
def LgP (w : World) (L : List Stp) (e : Ending) (w' : World) : Prop := e = .returned (.bool (longB L)) ∧ Below w.heap.size w w'
set_option maxHeartbeats 4000000 in
set_option maxRecDepth 100000 in
theorem longw (a : Option Addr) (n c : Nat) (L : List Stp) (w : World) (hl : L.length = n) (hn : n ≤ c) (hc : c ≤ maxLen) (h : RdS w a L) (hk : ∀ x ∈ L, StpOk x) :
    Calls Tryd.prog 25 #[.slice a n c] w (LgP w L) := by
  unfold maxLen at hc
  have HR := Lib.hid h
  have HL := Lib.hid hl
  have HK := Lib.hid hk
  clear h hl hk
  go_enter Tryd.func25, Tryd.ntmps25
  go_wp2_with fail
  go_loopw [3, 4] (fun s i wr => ∃ (k : Nat) (z : Int), k ≤ n ∧ k ≤ 130 ∧ 0 ≤ z ∧ z ≤ 18000 * k ∧ zS L k = z ∧ s = .int .i64 z ∧ i = .int .i64 k ∧ Below w.heap.size w wr) (fun _ i _ => 130 - (intOf i).toNat)
  case atStart => exact ⟨0, 0, by omega, by omega, by omega, by omega, rfl, rfl, rfl, Below.refl _ _⟩
  case round =>
    obtain ⟨k, z, hk, hk2, hz0, hz1, hzs, rfl, rfl, hnx⟩ := hrel
    have HZS := Lib.hid hzs
    clear hzs
    by_cases hlt : k < n
    · by_cases h130 : k < 130
      · obtain ⟨b, off, x, rfl, hb, hx, hcell⟩ := (HR.out.below hnx (Nat.le_refl _)).at (i := k) (by rw [HL.out]; exact hlt)
        have x1 := hcell 1 _ rfl
        have x2 := hcell 2 _ rfl
        have ok := (HK.out x (List.mem_of_getElem? hx)).1
        have s1 := ok.key
        have s2 := ok.val
        unfold maxLen at s1 s2
        obtain ⟨ks, hks⟩ : ∃ ks : Nat, x.c.key.size = ks := ⟨_, rfl⟩
        obtain ⟨vs, hvs⟩ : ∃ vs : Nat, x.c.val.size = vs := ⟨_, rfl⟩
        rw [hks] at s1
        rw [hvs] at s2
        have hzn := zS_next hx
        unfold wtS at hzn
        rw [hks, hvs, HZS.out] at hzn
        have HZN := Lib.hid hzn
        clear hcell ok hx hzn
        have hc4 : (9000 < (ks : Int) ∨ ¬ 9000 < (ks : Int)) ∧ (9000 < (vs : Int) ∨ ¬ 9000 < (vs : Int)) := ⟨Decidable.em _, Decidable.em _⟩
        obtain ⟨m1 | m1, m2 | m2⟩ := hc4
        all_goals
          go_wp2_with fail
          go_quiet (fail)
          go_wp2_with fail
          go_roundw
          case rel => exact ⟨k + 1, _, by omega, by omega, by omega, by omega, by rw [HZN.out]; (repeat' split) <;> omega, rfl, by go_num, belowNm hnx _⟩
          case measure => simp [intOf]; omega
      · have hd : decide (k < 130) = false := decide_eq_false h130
        have hd2 : decide (100 < (n : Int)) = true := decide_eq_true (by omega)
        have hB : longB L = true := by unfold longB; rw [HL.out]; simp; omega
        by_cases hz : 9000 < z
        · go_wp2_with fail
          go_ret
          exact ⟨by rw [hB]; rfl, hnx⟩
        · go_wp2_with fail
          go_ret
          exact ⟨by rw [hB]; rfl, hnx⟩
    · have hd : decide (k < n) = false := decide_eq_false hlt
      have hkn : k = n := by omega
      have hB : longB L = (decide (9000 < z) || decide (100 < n)) := by
        unfold longB
        rw [HL.out, show min n 130 = k by omega, HZS.out]
      clear hkn
      by_cases hz : 9000 < z
      · go_wp2_with fail
        go_ret
        exact ⟨by rw [hB, decide_eq_true hz]; rfl, hnx⟩
      · by_cases h100 : 100 < (n : Int)
        · go_wp2_with fail
          go_ret
          exact ⟨by rw [hB, decide_eq_false (show ¬ 9000 < z by omega), decide_eq_true (show 100 < n by omega)]; rfl, hnx⟩
        · go_wp2_with fail
          go_ret
          exact ⟨by rw [hB, decide_eq_false (show ¬ 9000 < z by omega), decide_eq_false (show ¬ 100 < n by omega)]; rfl, hnx⟩
/-- What a run leaves. -/
def RnP (w : World) (m : Nat) (n : Nat) (e : Ending) (w' : World) : Prop := ∃ mv S x, e = .returned (.int .u64 x) ∧ Lv w w' m mv S n ∧ Rn S x
theorem Rn.range' {S : Mst} {x : Int} (h : Rn S x) : 0 ≤ x ∧ x ≤ 18446744073709551615 := by have := h.range; omega
set_option maxHeartbeats 8000000 in
set_option maxRecDepth 100000 in
theorem runw (a : Option Addr) (n c : Nat) (L : List Stp) (w W : World) (m : Nat) (hl : L.length = n) (hn : n ≤ c) (hc : c ≤ maxLen) (h : RdS w a L) (hk : ∀ x ∈ L, StpOk x) (h100 : n ≤ 1000) (hV : Lv w W m none Mst.new 0) (htab : Lib.TabIs Tryd.prog w "internal/strconv.uint64pow10" .u64 Lib.pow10Tab) :
    Calls Tryd.prog 26 #[.pointer (some ⟨m, 0, none⟩), .slice a n c, .int .u64 0] W (RnP w m n) := by
  unfold maxLen at hc
  have HR := Lib.hid h
  have HL := Lib.hid hl
  have HK := Lib.hid hk
  have HV := Lib.hid hV
  have HT := Lib.hid htab
  clear h hl hk hV htab
  go_enter Tryd.func26, Tryd.ntmps26
  go_wp2_with fail
  go_loopw [2, 7] (fun x i wr => ∃ (k : Nat) (z : Int) (mv : Option Nat) (S : Mst), k ≤ n ∧ x = .int .u64 z ∧ i = .int .i64 k ∧ Lv w wr m mv S k ∧ Rn S z) (fun _ i _ => n - (intOf i).toNat)
  case atStart => exact ⟨0, 0, none, Mst.new, by omega, rfl, rfl, HV.out, Rn.new⟩
  case round =>
    obtain ⟨k, z, mv, S, hk, rfl, rfl, hlv, hrn⟩ := hrel
    by_cases hlt : k < n
    · obtain ⟨b, off, y, rfl, hb, hx, hcell⟩ := (HR.out.below hlv.below (Nat.le_refl _)).at (i := k) (by rw [HL.out]; exact hlt)
      have x7 := hcell 7 _ rfl
      have ok := HK.out y (List.mem_of_getElem? hx)
      have HLV := Lib.hid hlv
      have HRN := Lib.hid hrn
      have HC := Lib.hid hcell
      have HY := Lib.hid ok
      have HLT := Lib.hid hb
      obtain ⟨t, ht⟩ : ∃ t, y.t = t := ⟨_, rfl⟩
      have t0 := ok.2.1
      have t1 := ok.2.2
      rw [ht] at t0 t1 x7
      obtain ⟨r, hr⟩ : ∃ r : Nat, t % 5 = r := ⟨(t % 5).toNat, by omega⟩
      have hr4 : r ≤ 4 := by omega
      have hrem : IntKind.u8.wrap (Int.tmod t 5) = r := by
        rw [Int.tmod_eq_emod_of_nonneg t0, hr]
        simp [IntKind.wrap, IntKind.bits, IntKind.signed]
        omega
      clear hlv hrn hcell ok hx hb hk
      go_wp2_with fail
      go_loopw [2, 8] (fun x i wr2 => ∃ j : Nat, j ≤ r ∧ x = .int .u64 (tickN j z) ∧ i = .int .i64 j ∧ Below wr.heap.size wr wr2) (fun _ i _ => r - (intOf i).toNat)
      case atStart => exact ⟨0, by omega, rfl, rfl, Below.refl _ _⟩
      case round =>
        obtain ⟨j, hj, rfl, rfl, hnx⟩ := hrel
        have y7 := (hnx.cell (p := ⟨b, off + k * 8 + 7, none⟩) HLT.out).trans x7
        have hz := tickN_range HRN.out.range j
        by_cases hjr : j < r
        · clear x7
          go_wp2_with (go_at_call 29; refine (tickw _ _ hz.1 hz.2).mono ?_; rintro e W5 ⟨rfl, b5⟩)
          go_roundw
          case rel => exact ⟨j + 1, by omega, rfl, by go_num, fr_new hnx b5⟩
          case measure => simp [intOf]; omega
        · have hjd : decide ((j : Int) < r) = false := decide_eq_false (by omega)
          obtain rfl : j = r := by omega
          have HZ := Lib.hid hz
          have HNX := Lib.hid hnx
          have HL2 := Lib.hid (HLV.out.new hnx)
          have hrg : wr.rangeAt b (off + k * 8) (calC y.c) := fun i v hv => by
            have hi := (List.getElem?_eq_some_iff.1 hv).1
            refine (hnx.cell (p := ⟨b, off + k * 8 + i, none⟩) HLT.out).trans (HC.out i v ?_)
            rw [← hv]
            match i, hi with
            | 0, _ => rfl
            | 1, _ => rfl
            | 2, _ => rfl
            | 3, _ => rfl
            | 4, _ => rfl
            | 5, _ => rfl
            | 6, _ => rfl
          have HRG := Lib.hid hrg
          obtain ⟨x, hx⟩ : ∃ x, tickN j z = x := ⟨_, rfl⟩
          have HX := Lib.hid hx
          rw [hx] at HZ ⊢
          clear hz hnx x7 hrg hx hj
          obtain ⟨D, hD⟩ : ∃ D, S.does y.c x = D := ⟨_, rfl⟩
          obtain ⟨an, T⟩ := D
          have HD := Lib.hid hD
          have hRN := (HRN.out.ticks j).does (c := y.c) HY.out.1
          rw [HX.out, hD] at hRN
          have HRT := Lib.hid hRN
          have hfa : ∀ W, (Instr.field 40 (.agg (ansC an).toArray) 0).run Tryd.prog W = .ok (.int .u8 an.kind) W := fun W => by kernel_rfl
          clear hD hRN
          cases hq : (an.kind == 10) with
          | true =>
            go_wp2_with (first
              | ((with_reducible refine at_wp ?_); refine wpList_load_mid rfl 35 (.tmp 32) rfl b (off + k * 8) rfl (calC y.c) _ HRG.out Tryd.underlying35 rfl info_ca ?_)
              | (go_at_call 28; refine (HL2.out.does (c := y.c) (x := x) HY.out.1 HZ.out HT.out (by omega)).mono ?_; rintro e W6 ⟨rfl, mv', l6, -⟩; rw [HD.out] at l6 ⊢; have L6 := Lib.hid l6; clear l6)
              | (go_at_call 23; refine (Epochw L6.out.mp).mono ?_; rintro e W7 ⟨rfl, rfl⟩))
            go_roundw
            case rel =>
              have hr := HRT.out
              have e10 : an.kind = 10 := by simpa using hq
              simp only [e10, if_true] at hr
              exact ⟨k + 1, T.e, mv', T, by omega, rfl, by go_num, L6.out, hr⟩
            case measure => simp [intOf]; omega
          | false =>
            go_wp2_with (first
              | ((with_reducible refine at_wp ?_); refine wpList_load_mid rfl 35 (.tmp 32) rfl b (off + k * 8) rfl (calC y.c) _ HRG.out Tryd.underlying35 rfl info_ca ?_)
              | (go_at_call 28; refine (HL2.out.does (c := y.c) (x := x) HY.out.1 HZ.out HT.out (by omega)).mono ?_; rintro e W6 ⟨rfl, mv', l6, -⟩; rw [HD.out] at l6 ⊢; have L6 := Lib.hid l6; clear l6))
            go_roundw
            case rel =>
              have hr := HRT.out
              have e10 : ¬ an.kind = 10 := by simpa using hq
              simp only [e10, if_false] at hr
              exact ⟨k + 1, x, mv', T, by omega, rfl, by go_num, L6.out, hr⟩
            case measure => simp [intOf]; omega
    · have hd : decide (k < n) = false := decide_eq_false hlt
      go_wp2_with fail
      go_ret
      have e : k = n := by omega
      subst e
      exact ⟨mv, S, z, rfl, hlv, hrn⟩
end Go.Proofs.YtmjklkcjinfmaaaDoor
