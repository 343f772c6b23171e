/- BoundsCut: bytes behind two commands; more bytes behind them. -/
import Derived.Test.YteoeelhljimibaaBc
import Derived.Test.YteoeelhljimibaaByO
import Derived.BigRegion
import Derived.Deep.RegionHeld
namespace Go.Proofs.Yteoeelhljimibaa
open Go.RowKit Go.Maps Go.Shelf
set_option linter.unusedVariables false

def headL : List UInt8 := [103, 101, 116, 32, 111, 110, 101, 13, 10, 115, 101, 116, 32, 116, 119, 111, 32, 49, 32, 48, 32, 51, 13, 10, 13, 10, 53, 13, 10]
def headC : List Cl := [⟨1, [111, 110, 101], [], 0, 0, 0, 0⟩, ⟨3, [116, 119, 111], [13, 10, 53], 1, 0, 0, 0⟩]
theorem head_state : (feedF Fst.new headL).1 = Fst.new := by kernel_rfl
theorem head_calls : callsL (feedF Fst.new headL).2 = headC := by kernel_rfl
theorem all_calls (b : List UInt8) : callsL (feedF Fst.new (headL ++ b)).2 = headC ++ callsL (feedF Fst.new b).2 := by
  rw [feedF_append, head_state]
  show callsL ((feedF Fst.new headL).2 ++ (feedF Fst.new b).2) = _
  rw [callsL_app, head_calls]
theorem far_calls (b m : List UInt8) : ∃ R, callsL (feedF Fst.new (b ++ m)).2 = callsL (feedF Fst.new b).2 ++ R := by
  rw [feedF_append]
  exact ⟨_, callsL_app _ _⟩
theorem info_u8c : (Try.prog.info? 5).map (fun i => (i.zero, i.size, i.bytes)) = some (some (.int .u8 0), 1, 1) := by kernel_rfl
theorem rd_lit {W : World} {C : Array Value} {T : TypeId} {fr : Nat × Nat} {L : List UInt8} (hC : C = (byv L).toArray) : Rd (W.alloc (.cells C T fr)) (W.heap.size + 1) (some ⟨W.heap.size, 0, none⟩) L := by
  subst hC
  refine fun _ => ⟨_, _, rfl, by omega, fun j hj => ?_⟩
  rw [Nat.zero_add, World.cell?_alloc_mark, List.getElem?_toArray]
  exact byv_at hj
set_option maxHeartbeats 8000000 in
set_option maxRecDepth 100000 in
theorem walk_BoundsCut (a0 : Option Addr) (l0 c0 : Nat) (a1 : Option Addr) (l1 c1 : Nat) (w : World) (w0 : Reads Try.prog w 24 (.slice a0 l0 c0)) (w1 : Reads Try.prog w 24 (.slice a1 l1 c1)) :
    Calls Try.prog 6 #[.slice a0 l0 c0, .slice a1 l1 c1] w fun e w' => e = .returned (.bool true) ∧ Below w.heap.size w w' := by
  obtain ⟨L, rfl, hLc, hLm, hA0, hrL⟩ := open_by (P := Try.prog) Try.underlying24 (by kernel_rfl) (by kernel_rfl) w0
  obtain ⟨M, rfl, hMc, hMm, hA1, hrM⟩ := open_by (P := Try.prog) Try.underlying24 (by kernel_rfl) (by kernel_rfl) w1
  have HL := Lib.hid (And.intro hLm (And.intro hA0 hrL))
  have HM := Lib.hid (And.intro hMm (And.intro hA1 hrM))
  unfold maxLen at hLm hMm
  clear w0 w1 hA0 hrL hA1 hrM
  by_cases h4 : 4000 < L.length
  · have d4 : decide (4000 < (L.length : Int)) = true := decide_eq_true (by omega)
    go_enter Try.func6, Try.ntmps6
    go_wp2_with fail
    refine (lives40 _).mono ?_
    rintro e wz ⟨rfl, hbz⟩
    go_wp2_with fail
    go_ret
    exact ⟨rfl, hbz⟩
  have d4 : decide (4000 < (L.length : Int)) = false := decide_eq_false (by omega)
  by_cases h5 : 4000 < M.length
  · have d5 : decide (4000 < (M.length : Int)) = true := decide_eq_true (by omega)
    go_enter Try.func6, Try.ntmps6
    go_wp2_with fail
    refine (lives40 _).mono ?_
    rintro e wz ⟨rfl, hbz⟩
    go_wp2_with fail
    go_ret
    exact ⟨rfl, hbz⟩
  have d5 : decide (4000 < (M.length : Int)) = false := decide_eq_false (by omega)
  have kc := fun (w : World) (C : Array Value) (n c : Nat) => Lib.run_convert_bytes_const (P := Try.prog) w 24 5 C n c Try.underlying24 Try.underlying5
  have hbi := info_u8c
  go_enter Try.func6, Try.ntmps6
  go_upto_region 4 with (fail)
  generalize hW0 : World.alloc w _ = W0
  have HRH := Lib.hid (show Rd W0 (w.heap.size + 1) (some ⟨w.heap.size, 0, none⟩) headL by rw [← hW0]; exact rd_lit (by kernel_rfl))
  have HB0 := Lib.hid (show Below w.heap.size w W0 by rw [← hW0]; exact (Below.refl _ _).alloc (Nat.le_refl _) _)
  have HS0 := Lib.hid (show w.heap.size + 1 ≤ W0.heap.size by rw [← hW0]; simp)
  clear hW0 kc
  obtain ⟨p, hp⟩ : ∃ p, w.heap.size = p := ⟨_, rfl⟩
  have HP := Lib.hid hp
  rw [hp] at HRH HS0 ⊢
  clear hp
  obtain ⟨l1, hl1⟩ : ∃ l1, l1 = callsL (feedF Fst.new L).2 := ⟨_, rfl⟩
  have HL1 := Lib.hid hl1
  have HOK := Lib.hid (show ∀ c ∈ l1, ClOk c by rw [hl1]; exact calls_ok L)
  have HLEN := Lib.hid (show l1.length ≤ 256000 by rw [hl1]; have h1 := callsL_len (feedF Fst.new L).2 (feed_keys L _ FOk.new); have h2 := feedF_count Fst.new L; omega)
  have HC1 := Lib.hid (callsB a0 c0 L W0 hLc HL.out.1 (by omega) ((HL.out.2.2.below HB0.out (Nat.le_refl _)).mono HB0.out.size))
  rw [← hl1] at HC1
  clear hl1
  go_wp2_with fail
  refine HC1.out.mono ?_
  rintro e W1 ⟨a6, rfl, -, hR1, hb1⟩
  have HR1 := Lib.hid hR1
  have HB1 := Lib.hid (HB0.out.trans (hb1.mono HB0.out.size))
  have hrh1 : Rd W1 W1.heap.size (some ⟨p, 0, none⟩) headL := (HRH.out.below hb1 HS0.out).mono (Nat.le_trans HS0.out hb1.size)
  have HRH1 := Lib.hid hrh1
  have hrl1 : Rd W1 W1.heap.size a0 L := (HL.out.2.2.below HB1.out (Nat.le_refl _)).mono HB1.out.size
  have HRL1 := Lib.hid hrl1
  obtain ⟨N, hN⟩ : ∃ N, N = l1.length := ⟨_, rfl⟩
  rw [← hN] at HR1 HLEN ⊢
  have HN := Lib.hid hN
  clear hR1 hb1 hrh1 hrl1 HC1 HB0 HRH HS0 hN
  go_wp2_with (first
    | (at_builtin; refine wpList_append_by W1 rfl (.const (.slice none 0 0)) (.tmp 24) 24 rfl W1.heap.size 5 Try.underlying24 hbi (.slice none 0 0) [] rfl (World.ownsRow_nil _ _ _ _) W1.heap.size (some ⟨p, 0, none⟩) headL 29 rfl HRH1.out (fun h => by simp at h) (by decide) (Nat.le_refl _) ?_; intro v25 W2 hown25 hg25 hn25; have hb25 : Below W1.heap.size W1 W2 := (Below.refl _ _).grown hg25 (Nat.le_refl _) (by simp [Value.ownBlock]); rw [List.nil_append] at hown25; have HO25 := Lib.hid (And.intro hown25 hb25); clear hown25 hb25 hg25 hn25)
    | (at_builtin; refine wpList_append_by W2 rfl (.tmp 25) (.tmp 26) 24 rfl W1.heap.size 5 Try.underlying24 hbi v25 headL rfl HO25.out.1 W1.heap.size a0 L c0 rfl (HRL1.out.below HO25.out.2 (Nat.le_refl _)) HL.out.2.1 (by show 29 + L.length ≤ _; omega) HO25.out.2.size ?_; intro v27 W3 hown27 hg27 hn27; have hb27 : Below W1.heap.size W1 W3 := HO25.out.2.grown hg27 HO25.out.2.size (fun k hk => (HO25.out.1.lt k hk).1); obtain ⟨a27, c27, rfl, r1, r2, -⟩ := row_slice hown27; have HO27 := Lib.hid (And.intro hown27 hb27); clear hown27 hb27 hg27 hn27))
  have hb3 : Below w.heap.size w W3 := HB1.out.trans (HO27.out.2.mono HB1.out.size)
  have hcB := callsB a27 c27 (headL ++ L) W3 r1 r2 (by rw [List.length_append]; show 29 + L.length ≤ _; omega) (rd_row HO27.out.1)
  rw [List.length_append, all_calls, ← HL1.out] at hcB
  refine hcB.mono ?_
  clear hcB
  rintro e W4 ⟨a7, rfl, -, hR7, hb4⟩
  have hlen7 : (headC ++ l1).length = N + 2 := by rw [List.length_append, HN.out]; show 2 + _ = _; omega
  rw [hlen7] at hR7 ⊢
  have hB34 : Below W1.heap.size W1 W4 := HO27.out.2.trans (hb4.mono HO27.out.2.size)
  have HR7 := Lib.hid (And.intro (HR1.out.on hB34) hR7)
  have HB4 := Lib.hid (HB1.out.trans (hB34.mono HB1.out.size))
  obtain ⟨g7, rfl, hg7, q0⟩ := cl_cells (k := 0) hR7 rfl
  obtain ⟨g', e', -, q1⟩ := cl_cells (k := 1) hR7 rfl
  injection e' with e'; injection e' with e' _; subst e'
  have k1 := q0 1 _ rfl
  have k2 := q1 2 _ rfl
  simp only [Nat.zero_mul, Nat.one_mul, Nat.zero_add, Nat.reduceAdd] at k1 k2
  have hN6 := HLEN.out
  clear hb3 hR7 hb4 hB34 q0 q1 hlen7 HR1 HB1 HRH1 HRL1 HO25 HO27 r1 r2
  go_wp2_with fail
  go_loopw [8] (fun i wr => ∃ k : Nat, k ≤ N ∧ i = .int .i64 k ∧ Hid (Below W4.heap.size W4 wr)) (fun i _ => N - (intOf i).toNat)
  case atStart => exact ⟨0, by omega, rfl, Below.refl _ _⟩
  case round =>
    obtain ⟨k, hk, rfl, hnx⟩ := hrel
    by_cases hlt : k < N
    · obtain ⟨x, hx⟩ : ∃ x, l1[k]? = some x := ⟨_, List.getElem?_eq_getElem (by have := HN.out; omega)⟩
      have hx2 : (headC ++ l1)[k + 2]? = some x := by rw [List.getElem?_append_right (by show 2 ≤ _; omega)]; exact hx
      obtain ⟨g6, e6, hg6, cl6⟩ := cl_cells (HR7.out.1.on hnx.out) hx
      obtain ⟨g', e', -, cl7⟩ := cl_cells (HR7.out.2.on hnx.out) hx2
      injection e' with e'; injection e' with e' _; subst e' e6
      obtain ⟨o1, o2, o3⟩ := HOK.out x (List.mem_of_getElem? hx)
      obtain ⟨vb, ky, vl, fl, ex, id, by_⟩ := x
      simp only at o1 o2 o3
      have r0 := cl6 0 _ rfl; have r1 := cl6 1 _ rfl; have r2 := cl6 2 _ rfl; have r3 := cl6 3 _ rfl; have r4 := cl6 4 _ rfl; have r5 := cl6 5 _ rfl; have r6 := cl6 6 _ rfl
      have s0 := cl7 0 _ rfl; have s1 := cl7 1 _ rfl; have s2 := cl7 2 _ rfl; have s3 := cl7 3 _ rfl; have s4 := cl7 4 _ rfl; have s5 := cl7 5 _ rfl; have s6 := cl7 6 _ rfl
      simp only [Nat.add_zero] at r0 s0
      have dv : decide (1024 < (vl.length : Int)) = false := decide_eq_false (by omega)
      have dk : decide (250 < (ky.length : Int)) = false := decide_eq_false (by omega)
      have hN2 : N ≤ 9223372036854775807 := by omega
      clear cl6 cl7 hx hx2
      by_cases hv : vb = 11
      · have hky := o3.2 hv
        subst hv hky
        go_wp2_with fail
        go_quiet (fail)
        clear r0 r1 r2 r3 r4 r5 r6 s0 s1 s2 s3 s4 s5 s6
        go_wp2
        go_roundw
        case rel => exact ⟨k + 1, by omega, by go_num, belowNf hnx.out _⟩
        case measure => simp [intOf]; omega
      · have hky : ky ≠ [] := fun e => hv (o3.1 e)
        have dvb : ((vb : Int) == 11) = false := beq_eq_false_iff_ne.mpr (by omega)
        have dky : ky.isEmpty = false := by cases ky with | nil => exact absurd rfl hky | cons a l => rfl
        go_wp2_with fail
        go_quiet (fail)
        clear r0 r1 r2 r3 r4 r5 r6 s0 s1 s2 s3 s4 s5 s6
        go_wp2
        go_roundw
        case rel => exact ⟨k + 1, by omega, by go_num, belowNf hnx.out _⟩
        case measure => simp [intOf]; omega
    · have hd : decide (k < N) = false := decide_eq_false hlt
      have hB5 : Below w.heap.size w wr := HB4.out.trans (hnx.out.mono HB4.out.size)
      have HB5 := Lib.hid hB5
      have HR5 := Lib.hid (HR7.out.1.on hnx.out)
      have HRL5 := Lib.hid (show Rd wr wr.heap.size a0 L from (HL.out.2.2.below hB5 (Nat.le_refl _)).mono hB5.size)
      have HRM5 := Lib.hid (show Rd wr wr.heap.size a1 M from (HM.out.2.2.below hB5 (Nat.le_refl _)).mono hB5.size)
      clear hB5 hnx HR7 HB4 hg7 k1 k2
      go_wp2_with (first
        | (at_builtin; refine wpList_append_by wr rfl (.const (.slice none 0 0)) (.tmp 98) 24 rfl wr.heap.size 5 Try.underlying24 hbi (.slice none 0 0) [] rfl (World.ownsRow_nil _ _ _ _) wr.heap.size a0 L c0 rfl HRL5.out HL.out.2.1 (by simp; omega) (Nat.le_refl _) ?_; intro v25 W2 hown25 hg25 hn25; have hb25 : Below wr.heap.size wr W2 := (Below.refl _ _).grown hg25 (Nat.le_refl _) (by simp [Value.ownBlock]); rw [List.nil_append] at hown25; have HO25 := Lib.hid (And.intro hown25 hb25); clear hown25 hb25 hg25 hn25)
        | (at_builtin; refine wpList_append_by W2 rfl (.tmp 99) (.tmp 100) 24 rfl wr.heap.size 5 Try.underlying24 hbi v25 L rfl HO25.out.1 wr.heap.size a1 M c1 rfl (HRM5.out.below HO25.out.2 (Nat.le_refl _)) HM.out.2.1 (by omega) HO25.out.2.size ?_; intro v27 W3 hown27 hg27 hn27; have hb27 : Below wr.heap.size wr W3 := HO25.out.2.grown hg27 HO25.out.2.size (fun k hk => (HO25.out.1.lt k hk).1); obtain ⟨a27, c27, rfl, r1, r2, -⟩ := row_slice hown27; have HO27 := Lib.hid (And.intro hown27 hb27); clear hown27 hb27 hg27 hn27))
      obtain ⟨R, hR⟩ := far_calls L M
      have hcB := callsB a27 c27 (L ++ M) W3 r1 r2 (by rw [List.length_append]; omega) (rd_row HO27.out.1)
      rw [List.length_append, hR, ← HL1.out] at hcB
      refine hcB.mono ?_
      clear hcB
      rintro e W6 ⟨a9, rfl, -, hR9, hb6⟩
      have hB36 : Below wr.heap.size wr W6 := HO27.out.2.trans (hb6.mono HO27.out.2.size)
      obtain ⟨N2, hN2⟩ : ∃ N2, (l1 ++ R).length = N2 := ⟨_, rfl⟩
      have hNN : N ≤ N2 := by rw [← hN2, List.length_append, HN.out]; omega
      rw [hN2] at hR9 ⊢
      have hN2m : N2 ≤ 9223372036854775807 := by
        obtain ⟨A', c', e1, h1, h2, -⟩ := hR9.form
        injection e1 with _ e2 e3
        unfold maxLen at h2
        omega
      have HR9 := Lib.hid (And.intro (HR5.out.on hB36) hR9)
      have HB6 := Lib.hid (HB5.out.trans (hB36.mono HB5.out.size))
      have dnn : decide (N2 < N) = false := decide_eq_false (by omega)
      clear hR9 hb6 hB36 HO25 HO27 r1 r2 HR5 HB5 HRL5 HRM5 hR
      go_wp2_with fail
      go_loopw [10] (fun i wr => ∃ k : Nat, k ≤ N ∧ i = .int .i64 k ∧ Hid (Below W6.heap.size W6 wr)) (fun i _ => N - (intOf i).toNat)
      case atStart => exact ⟨0, by omega, rfl, Below.refl _ _⟩
      case round =>
        obtain ⟨j, hj, rfl, hnx⟩ := hrel
        by_cases hlt2 : j < N
        · obtain ⟨x, hx⟩ : ∃ x, l1[j]? = some x := ⟨_, List.getElem?_eq_getElem (by have := HN.out; omega)⟩
          have hx2 : (l1 ++ R)[j]? = some x := by rw [List.getElem?_append_left (by have := HN.out; omega)]; exact hx
          obtain ⟨g6, e6, hg6, cl6⟩ := cl_cells (HR9.out.1.on hnx.out) hx
          obtain ⟨g9, e9, hg9, cl9⟩ := cl_cells (HR9.out.2.on hnx.out) hx2
          subst e6 e9
          obtain ⟨vb, ky, vl, fl, ex, id, by_⟩ := x
          have r0 := cl6 0 _ rfl; have r1 := cl6 1 _ rfl; have r2 := cl6 2 _ rfl; have r3 := cl6 3 _ rfl; have r4 := cl6 4 _ rfl; have r5 := cl6 5 _ rfl; have r6 := cl6 6 _ rfl
          have s0 := cl9 0 _ rfl; have s1 := cl9 1 _ rfl; have s2 := cl9 2 _ rfl; have s3 := cl9 3 _ rfl; have s4 := cl9 4 _ rfl; have s5 := cl9 5 _ rfl; have s6 := cl9 6 _ rfl
          simp only [Nat.add_zero] at r0 s0
          have hj2 : (j : Int) < (N2 : Int) := by omega
          clear cl6 cl9 hx hx2
          go_wp2_with fail
          go_quiet (fail)
          clear r0 r1 r2 r3 r4 r5 r6 s0 s1 s2 s3 s4 s5 s6
          go_wp2
          go_roundw
          case rel => exact ⟨j + 1, by omega, by go_num, belowNf hnx.out _⟩
          case measure => simp [intOf]; omega
        · have hd2 : decide (j < N) = false := decide_eq_false hlt2
          go_wp2_with fail
          refine (lives40 _).mono ?_
          rintro e wz ⟨rfl, hbz⟩
          go_wp2_with fail
          go_ret
          have h1 := HB6.out.trans (hnx.out.mono HB6.out.size)
          exact ⟨rfl, h1.trans (hbz.mono h1.size)⟩
end Go.Proofs.Yteoeelhljimibaa
