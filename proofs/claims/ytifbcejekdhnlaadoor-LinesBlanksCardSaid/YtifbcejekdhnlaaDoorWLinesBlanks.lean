/- LinesBlanks: the walk. Printed by tools/genlnb.py. -/
import Derived.Test.YtifbcejekdhnlaaDoorLi9
import Derived.BigRegion
import Derived.Deep.RegionHeld
namespace Go.Proofs.YtifbcejekdhnlaaDoor
open Go.RowKit Go.Maps
set_option linter.unusedVariables false

set_option maxHeartbeats 8000000 in
set_option maxRecDepth 100000 in
theorem walk_LinesBlanks (a0 : ByteArray) (a1 : Option Addr) (l1 c1 : Nat) (w : World) (w0 : a0.size ≤ maxLen) (w1 : Reads Tryd.prog w 46 (.slice a1 l1 c1)) :
    Calls Tryd.prog 6 #[.string a0, .slice a1 l1 c1] w fun e w' => e = .returned (.bool true) ∧ Below w.heap.size w w' := by
  obtain ⟨m1, b1, o1, p1, q1⟩ := kj_bytes (e := 5) Tryd.underlying46 (by kernel_rfl) (by kernel_rfl) w1
  clear w1
  have w0' := w0
  unfold maxLen at w0' m1
  by_cases hbig : 2500 < a0.size ∨ 40 < l1
  · have hl := lives29 w
    rcases hbig with hb | hb
    · have hd : decide (2500 < (a0.size : Int)) = true := decide_eq_true (by omega)
      go_enter Tryd.func6, Tryd.ntmps6
      go_wp2_with (go_at_call 9; refine hl.mono ?_; rintro e w' ⟨rfl, hb⟩)
      go_ret
      exact ⟨rfl, hb⟩
    · have hd : decide (40 < (l1 : Int)) = true := decide_eq_true (by omega)
      by_cases hb2 : 2500 < a0.size
      all_goals
        first
          | have hd2 : decide (2500 < (a0.size : Int)) = true := decide_eq_true (by omega)
          | have hd2 : decide (2500 < (a0.size : Int)) = false := decide_eq_false (by omega)
        go_enter Tryd.func6, Tryd.ntmps6
        go_wp2_with (go_at_call 9; refine hl.mono ?_; rintro e w' ⟨rfl, hb⟩)
        go_ret
        exact ⟨rfl, hb⟩
  have hd : decide (2500 < (a0.size : Int)) = false := decide_eq_false (by omega)
  have hd2 : decide (40 < (l1 : Int)) = false := decide_eq_false (by omega)
  have hp : ∀ W, Calls Tryd.prog 10 #[.string a0] W (IsPar W (parseC a0.data.toList)) := fun W => parsel a0 W w0
  have hwd : ∀ W, Calls Tryd.prog 18 #[.string a0] W (IsLst W 1 (wordsF a0.data.toList).length (strs (wordsF a0.data.toList))) := fun W => wordsw a0 W (by omega)
  have hlong : 2048 < a0.size → parseC a0.data.toList = (Cmd.none, 3) := fun h => parseC_long h
  have hshort : ¬ 2048 < a0.size → parseC a0.data.toList = parseN (wordsF a0.data.toList) := fun h => parseC_short h
  have hwn : (wordsF a0.data.toList).length ≤ 2500 := by
    have := wordsG_count a0.data.toList []
    unfold wordsF
    simp at this ⊢
    omega
  have hwl : ∀ x ∈ wordsF a0.data.toList, x.length ≤ 2500 := fun x hx => by
    have := wordsG_len a0.data.toList [] x hx
    simp at this
    omega
  have hwe : ∀ x ∈ wordsF a0.data.toList, x ≠ [] ∧ ∀ c ∈ x, c ≠ 32 := fun x hx => words_each hx
  generalize parseC a0.data.toList = pc at hp hlong hshort
  generalize wordsF a0.data.toList = ws at hwd hshort hwn hwl hwe
  obtain ⟨pc1, t1⟩ := pc
  have HP1 := Lib.hid hp
  have HWD := Lib.hid hwd
  have HLO := Lib.hid (And.intro hlong hshort)
  have HWL := Lib.hid (And.intro hwl hwe)
  have HGP := Lib.hid (And.intro p1 q1)
  clear hp hwd hlong hshort hwl hwe p1 q1
  obtain ⟨vb1, ks1, cv1, ky1, vl1, fl1, ex1, id1, by_1, bt1, qt1⟩ := pc1
  go_enter Tryd.func6, Tryd.ntmps6
  go_upto_region 4 with (go_at_call 10; refine (HP1.out w).mono ?_; rintro e X1 ⟨kv, he, hk1, hb1⟩; obtain ⟨A1, cc1, rfl, -⟩ := (KyS.of_lst (U := fun _ => False) hk1 (fun _ _ _ e => e)).rd.form; have hf : e = .returned (.tuple #[.agg #[.int .u8 vb1, .slice A1 ks1.length cc1, .int .u8 cv1, .string ⟨ky1.toArray⟩, .string ⟨vl1.toArray⟩, .int .u32 fl1, .int .i64 ex1, .int .u64 id1, .int .u64 by_1, .int .i64 bt1, .bool qt1], .int .u8 t1]) := he; subst hf; clear he)
  have ha1 : Below X1.heap.size X1 (X1.alloc (.cells #[.int .u8 vb1, .slice A1 ks1.length cc1, .int .u8 cv1, .string ⟨ky1.toArray⟩, .string ⟨vl1.toArray⟩, .int .u32 fl1, .int .i64 ex1, .int .u64 id1, .int .u64 by_1, .int .i64 bt1, .bool qt1] 30)) := (Below.refl _ _).alloc (Nat.le_refl _) _
  have hq1 : Cb (X1.alloc (.cells #[.int .u8 vb1, .slice A1 ks1.length cc1, .int .u8 cv1, .string ⟨ky1.toArray⟩, .string ⟨vl1.toArray⟩, .int .u32 fl1, .int .i64 ex1, .int .u64 id1, .int .u64 by_1, .int .i64 bt1, .bool qt1] 30)) X1.heap.size (cmdC ⟨vb1, ks1, cv1, ky1, vl1, fl1, ex1, id1, by_1, bt1, qt1⟩ (.slice A1 ks1.length cc1)) := cb_new rfl
  have hs1 : (X1.alloc (.cells #[.int .u8 vb1, .slice A1 ks1.length cc1, .int .u8 cv1, .string ⟨ky1.toArray⟩, .string ⟨vl1.toArray⟩, .int .u32 fl1, .int .i64 ex1, .int .u64 id1, .int .u64 by_1, .int .i64 bt1, .bool qt1] 30)).heap.size = X1.heap.size + 1 := by simp
  generalize X1.alloc _ = Y1 at *
  have hky1 : KyR Y1 (.slice A1 ks1.length cc1) ks1 := (KyS.of_lst (U := fun _ => False) hk1 (fun _ _ _ e => e)).rd.on ha1
  have HB1 := Lib.hid (hb1.trans (ha1.mono hb1.size))
  have HQ1 := Lib.hid (And.intro hq1 hky1)
  have hz1 := hb1.size
  clear hq1 hky1 hk1 hb1 ha1
  go_upto_region 6 with (go_at_call 18; refine (HWD.out Y1).mono ?_; rintro e Z ⟨v, rfl, hlst, hbz⟩)
  have HLS := Lib.hid (KyS.of_lst (U := fun _ => False) hlst (fun _ _ _ e => e)).rd
  have BZ := Lib.hid (HB1.out.trans (hbz.mono HB1.out.size))
  have Q1 := Lib.hid (And.intro (HQ1.out.1.new hbz) (HQ1.out.2.on hbz))
  clear hlst HB1 HQ1 hbz HWD
  obtain ⟨Ag, cg, rfl, hng, hmg, hkg⟩ := HLS.out.form
  have HKG := Lib.hid hkg
  clear HLS hkg
  unfold maxLen at hmg
  obtain ⟨n, hn0⟩ : ∃ n, ws.length = n := ⟨_, rfl⟩
  rw [hn0] at hng hwn ⊢
  have HN := Lib.hid hn0
  clear hn0
  go_wp2_with fail
  go_loopw [8, 9, 10] (fun tv iv _ wr => ∃ (k : Nat) (T : ByteArray), k ≤ n ∧ iv = .int .i64 k ∧ tv = .string T ∧ T.size ≤ k * 2600 ∧ Hid (Txt T.data.toList (ws.take k)) ∧ Hid (Below Z.heap.size Z wr)) (fun tv iv _ _ => n - (intOf iv).toNat)
  case atStart => exact ⟨0, ⟨#[]⟩, by omega, rfl, rfl, Nat.le_refl 0, Lib.hid Txt.nil, Lib.hid (Below.refl _ _)⟩
  case round =>
    obtain ⟨k, T, hk, rfl, rfl, hTs, hT, hnx⟩ := hrel
    by_cases hlt : k < n
    · obtain ⟨x, hx⟩ : ∃ x, ws[k]? = some x := ⟨_, List.getElem?_eq_getElem (by have := HN.out; omega)⟩
      have hxm : x ∈ ws := List.mem_of_getElem? hx
      obtain ⟨g, rfl, hgl, hgc⟩ := HKG.out k x hx
      have hxl := HWL.out.1 x hxm
      have hxe := HWL.out.2 x hxm
      have hcx : wr.cell? ⟨g, k, none⟩ = some (.string ⟨x.toArray⟩) := (hnx.out.cell (p := ⟨g, k, none⟩) hgl).trans hgc
      have hnx' : Below w.heap.size w wr := BZ.out.trans (hnx.out.mono BZ.out.size)
      obtain ⟨XB, hX⟩ : ∃ XB : ByteArray, XB = ⟨x.toArray⟩ := ⟨_, rfl⟩
      rw [← hX] at hcx
      have hXs : XB.size ≤ 2500 := by rw [hX]; show x.toArray.size ≤ _; simpa using hxl
      have hstep : ∀ m : Nat, 0 < m → m ≤ 4 → Hid (Txt ((T ++ (⟨(Lib.repeatL [32] m).toArray⟩ : ByteArray)) ++ XB).data.toList (ws.take (k + 1))) ∧ ((T ++ (⟨(Lib.repeatL [32] m).toArray⟩ : ByteArray)) ++ XB).size ≤ (k + 1) * 2600 := fun m h0 h4 => by
        rw [hX]
        refine ⟨Lib.hid ?_, ?_⟩
        · have := kj_word (R := ⟨x.toArray⟩) hT.out m (fun _ => h0) (by simpa using hxe.1) (by simpa using hxe.2)
          have e : ws.take (k + 1) = ws.take k ++ [(⟨x.toArray⟩ : ByteArray).data.toList] := by
            rw [List.take_add_one, hx]; rfl
          rw [e]; exact this
        · rw [ByteArray.size_append, ByteArray.size_append, rep32_size]
          have : (⟨x.toArray⟩ : ByteArray).size = x.length := by show x.toArray.size = _; simp
          omega
      clear hT hgc hxe
      by_cases hg : k < l1
      · have hg' : decide ((k : Int) < (l1 : Int)) = true := decide_eq_true (by omega)
        obtain ⟨⟨hlc1, rfl⟩, z, z0, z1, hcz⟩ := And.intro (HGP.out.1 (by omega)) (HGP.out.2 k hg)
        have cz := kj_on hcz hnx'
        clear hcz
        have hkc1 : k < c1 := by omega
        obtain ⟨m, hmz⟩ : ∃ m : Nat, z % 4 = m := ⟨(z % 4).toNat, by omega⟩
        have hm3 : m ≤ 3 := by omega
        have hg5 : IntKind.u8.wrap (m : Int) = m := by simp [IntKind.wrap, IntKind.bits, IntKind.signed]; omega
        have hg6 : IntKind.i64.wrap (m : Int) = m := IntWalk.i64_in _ (by omega)
        have hg7 : IntKind.i64.wrap (1 + (m : Int)) = ((m + 1 : Nat) : Int) := by rw [IntWalk.i64_in _ (by omega)]; omega
        go_upto_region 12 with fail
        obtain ⟨R, hR⟩ : ∃ R : ByteArray, R = ⟨(Lib.repeatL [32] (m + 1)).toArray⟩ := ⟨_, rfl⟩
        have hRs : R.size = (m + 1) := by rw [hR]; exact rep32_size _
        obtain ⟨TR, hTR⟩ : ∃ TR : ByteArray, TR = T ++ R := ⟨_, rfl⟩
        obtain ⟨TT, hTT⟩ : ∃ TT : ByteArray, TT = TR ++ XB := ⟨_, rfl⟩
        have r1 : ∀ w : World, (Op.stringOp .add T R).run Tryd.prog w = .ok (.string TR) w := fun w => by rw [hTR]; exact run_string_add_sum w T R (by omega)
        have r2 : ∀ w : World, (Op.stringOp .add TR XB).run Tryd.prog w = .ok (.string TT) w := fun w => by rw [hTT]; exact run_string_add_sum w TR XB (by rw [hTR, ByteArray.size_append]; omega)
        clear hRs
        have hrep : ∀ W, Calls Tryd.prog 19 #[.string ⟨#[32]⟩, .int .i64 ((m : Int) + 1)] W fun e w' => e = .returned (.string R) ∧ Below W.heap.size W w' := fun W => by rw [hR]; exact Tryd.strings_Repeat ⟨#[32]⟩ (m + 1) W (by omega) (by rw [show (⟨#[32]⟩ : ByteArray).size = 1 from rfl]; omega)
        replace hR := Lib.hid hR
        replace hX := Lib.hid hX
        replace hTR := Lib.hid hTR
        replace hTT := Lib.hid hTT
        have hbd : Below wr.heap.size wr wr.drew := (Below.refl _ _).drew
        have hcd : wr.drew.cell? ⟨g, k, none⟩ = some (.string XB) := hcx
        have hgw : g < wr.heap.size := Nat.lt_of_lt_of_le hgl hnx.out.size
        go_region_held3 (fun X => X.cell? ⟨g, k, none⟩ = some (.string XB))
          (first | exact hcd | exact hce)
          (first | (go_at_call 19; refine (hrep _).mono ?_; rintro e w3 ⟨rfl, hb3⟩; have hb3' := hbd.trans (hb3.mono hbd.size); have hce := (hb3'.cell (p := ⟨g, k, none⟩) hgw).trans hcx))
        all_goals
          obtain ⟨hT2, hT3⟩ := hstep (m + 1) (by omega) (by omega)
          have HN3 := Lib.hid (hnx.out.trans (hb3'.mono hnx.out.size))
          rw [← hR.out, ← hTR.out, ← hTT.out] at hT2 hT3
          clear hstep hrep r1 r2 hcx hcd hce hbd hb3 hb3' hnx'
          go_wp2_with fail
          go_roundw
          case rel => exact ⟨k + 1, TT, by omega, by go_num, rfl, hT3, hT2, HN3⟩
          case measure => simp [intOf]; omega
      · have hg' : decide ((k : Int) < (l1 : Int)) = false := decide_eq_false (by omega)
        go_upto_region 12 with fail
        obtain ⟨R, hR⟩ : ∃ R : ByteArray, R = ⟨(Lib.repeatL [32] 1).toArray⟩ := ⟨_, rfl⟩
        have hRs : R.size = 1 := by rw [hR]; exact rep32_size _
        obtain ⟨TR, hTR⟩ : ∃ TR : ByteArray, TR = T ++ R := ⟨_, rfl⟩
        obtain ⟨TT, hTT⟩ : ∃ TT : ByteArray, TT = TR ++ XB := ⟨_, rfl⟩
        have r1 : ∀ w : World, (Op.stringOp .add T R).run Tryd.prog w = .ok (.string TR) w := fun w => by rw [hTR]; exact run_string_add_sum w T R (by omega)
        have r2 : ∀ w : World, (Op.stringOp .add TR XB).run Tryd.prog w = .ok (.string TT) w := fun w => by rw [hTT]; exact run_string_add_sum w TR XB (by rw [hTR, ByteArray.size_append]; omega)
        clear hRs
        have hrep : ∀ W, Calls Tryd.prog 19 #[.string ⟨#[32]⟩, .int .i64 1] W fun e w' => e = .returned (.string R) ∧ Below W.heap.size W w' := fun W => by rw [hR]; exact Tryd.strings_Repeat ⟨#[32]⟩ 1 W (by omega) (by rw [show (⟨#[32]⟩ : ByteArray).size = 1 from rfl]; omega)
        replace hR := Lib.hid hR
        replace hX := Lib.hid hX
        replace hTR := Lib.hid hTR
        replace hTT := Lib.hid hTT
        have hbd : Below wr.heap.size wr wr.drew := (Below.refl _ _).drew
        have hcd : wr.drew.cell? ⟨g, k, none⟩ = some (.string XB) := hcx
        have hgw : g < wr.heap.size := Nat.lt_of_lt_of_le hgl hnx.out.size
        go_region_held3 (fun X => X.cell? ⟨g, k, none⟩ = some (.string XB))
          (first | exact hcd | exact hce)
          (first | (go_at_call 19; refine (hrep _).mono ?_; rintro e w3 ⟨rfl, hb3⟩; have hb3' := hbd.trans (hb3.mono hbd.size); have hce := (hb3'.cell (p := ⟨g, k, none⟩) hgw).trans hcx))
        all_goals
          obtain ⟨hT2, hT3⟩ := hstep 1 (by omega) (by omega)
          have HN3 := Lib.hid (hnx.out.trans (hb3'.mono hnx.out.size))
          rw [← hR.out, ← hTR.out, ← hTT.out] at hT2 hT3
          clear hstep hrep r1 r2 hcx hcd hce hbd hb3 hb3' hnx'
          go_wp2_with fail
          go_roundw
          case rel => exact ⟨k + 1, TT, by omega, by go_num, rfl, hT3, hT2, HN3⟩
          case measure => simp [intOf]; omega
    · obtain rfl : k = n := by omega
      have hTw : Txt T.data.toList ws := by have := hT.out; rwa [← HN.out, List.take_length] at this
      have HTW := Lib.hid hTw
      have hTs' : T.size ≤ 6500000 := by omega
      clear hT hTw hTs
      by_cases hg : 0 < l1
      · have hg' : decide (0 < (l1 : Int)) = true := decide_eq_true (by omega)
        obtain ⟨⟨hlc1, rfl⟩, z, z0, z1, hcz⟩ := And.intro (HGP.out.1 (by omega)) (HGP.out.2 0 hg)
        have cz : wr.cell? ⟨b1, o1, none⟩ = some (.int .u8 z) := by have := kj_on hcz (BZ.out.trans (hnx.out.mono BZ.out.size)); simpa using this
        clear hcz
        have hkc1 : 0 < c1 := by omega
        obtain ⟨m, hmz⟩ : ∃ m : Nat, z % 5 = m := ⟨(z % 5).toNat, by omega⟩
        have hm3 : m ≤ 4 := by omega
        have hg5 : IntKind.u8.wrap (m : Int) = m := by simp [IntKind.wrap, IntKind.bits, IntKind.signed]; omega
        have hg6 : IntKind.i64.wrap (m : Int) = m := IntWalk.i64_in _ (by omega)
        obtain ⟨R, hR⟩ : ∃ R : ByteArray, R = ⟨(Lib.repeatL [32] m).toArray⟩ := ⟨_, rfl⟩
        have hRs : R.size = m := by rw [hR]; exact rep32_size _
        have hc1 : ¬ (9223372036854775807 < T.size + R.size) := by omega
        clear hRs
        have hrep : ∀ W, Calls Tryd.prog 19 #[.string ⟨#[32]⟩, .int .i64 m] W fun e w' => e = .returned (.string R) ∧ Below W.heap.size W w' := fun W => by rw [hR]; exact Tryd.strings_Repeat ⟨#[32]⟩ m W (by omega) (by rw [show (⟨#[32]⟩ : ByteArray).size = 1 from rfl]; omega)
        have hTw2 : Txt (T ++ R).data.toList ws := by rw [hR]; exact kj_gap HTW.out m
        have HTT := Lib.hid hTw2
        have HTS := Lib.hid (show (T ++ R).size ≤ 7000000 by rw [ByteArray.size_append, hR, rep32_size]; omega)
        clear hTw2 hR HTW
        go_upto_region 15 with (go_at_call 19; refine (hrep _).mono ?_; rintro e w3 ⟨rfl, hb3⟩)
        have HNX := Lib.hid (hnx.out.trans (hb3.mono hnx.out.size))
        clear hb3 hrep hnx cz hc1
        generalize T ++ R = TT at *
        have hp2 : ∀ W, Calls Tryd.prog 10 #[.string TT] W (IsPar W (parseC TT.data.toList)) := fun W => parsel TT W (by have := HTS.out; unfold maxLen; omega)
        have hl2 : 2048 < TT.size → parseC TT.data.toList = (Cmd.none, 3) := fun h => parseC_long h
        have hs2 : ¬ 2048 < TT.size → parseC TT.data.toList = parseN ws := fun h => by rw [parseC_short h, HTT.out.words]
        generalize parseC TT.data.toList = pc2 at hp2 hl2 hs2
        obtain ⟨pc2, t2⟩ := pc2
        have HP2 := Lib.hid hp2
        have HL2 := Lib.hid (And.intro hl2 hs2)
        clear hp2 hl2 hs2 HTT HP1
        obtain ⟨vb2, ks2, cv2, ky2, vl2, fl2, ex2, id2, by_2, bt2, qt2⟩ := pc2
        go_upto_region 16 with (go_at_call 10; refine (HP2.out _).mono ?_; rintro e X2 ⟨kv, he, hk2, hb2⟩; obtain ⟨A2, cc2, rfl, -⟩ := (KyS.of_lst (U := fun _ => False) hk2 (fun _ _ _ e => e)).rd.form; have hf : e = .returned (.tuple #[.agg #[.int .u8 vb2, .slice A2 ks2.length cc2, .int .u8 cv2, .string ⟨ky2.toArray⟩, .string ⟨vl2.toArray⟩, .int .u32 fl2, .int .i64 ex2, .int .u64 id2, .int .u64 by_2, .int .i64 bt2, .bool qt2], .int .u8 t2]) := he; subst hf; clear he)
        have ha2 : Below X2.heap.size X2 (X2.alloc (.cells #[.int .u8 vb2, .slice A2 ks2.length cc2, .int .u8 cv2, .string ⟨ky2.toArray⟩, .string ⟨vl2.toArray⟩, .int .u32 fl2, .int .i64 ex2, .int .u64 id2, .int .u64 by_2, .int .i64 bt2, .bool qt2] 30)) := (Below.refl _ _).alloc (Nat.le_refl _) _
        have hq2 : Cb (X2.alloc (.cells #[.int .u8 vb2, .slice A2 ks2.length cc2, .int .u8 cv2, .string ⟨ky2.toArray⟩, .string ⟨vl2.toArray⟩, .int .u32 fl2, .int .i64 ex2, .int .u64 id2, .int .u64 by_2, .int .i64 bt2, .bool qt2] 30)) X2.heap.size (cmdC ⟨vb2, ks2, cv2, ky2, vl2, fl2, ex2, id2, by_2, bt2, qt2⟩ (.slice A2 ks2.length cc2)) := cb_new rfl
        have hs2 : (X2.alloc (.cells #[.int .u8 vb2, .slice A2 ks2.length cc2, .int .u8 cv2, .string ⟨ky2.toArray⟩, .string ⟨vl2.toArray⟩, .int .u32 fl2, .int .i64 ex2, .int .u64 id2, .int .u64 by_2, .int .i64 bt2, .bool qt2] 30)).heap.size = X2.heap.size + 1 := by simp
        generalize X2.alloc _ = Y2 at *
        have hky2 : KyR Y2 (.slice A2 ks2.length cc2) ks2 := (KyS.of_lst (U := fun _ => False) hk2 (fun _ _ _ e => e)).rd.on ha2
        have Q2 := Lib.hid (And.intro hq2 hky2)
        have Q1' := Lib.hid (And.intro (((Q1.out.1.new HNX.out).new hb2).new ha2) (((Q1.out.2.on HNX.out).on hb2).on ha2))
        have BB := Lib.hid (BZ.out.trans (((HNX.out.trans (hb2.mono HNX.out.size)).trans (ha2.mono (Nat.le_trans HNX.out.size hb2.size))).mono BZ.out.size))
        clear hky2 hq2 hb2 ha2 hk2 Q1 BZ HNX HKG HP2
        by_cases h1 : 2048 < a0.size
        · have e1 := HLO.out.1 h1
          simp only [Cmd.none, Prod.mk.injEq, Cmd.mk.injEq] at e1
          obtain ⟨-, rfl⟩ := e1
          have d1 : decide (2048 < (a0.size : Int)) = true := decide_eq_true (by omega)
          by_cases h2 : 2048 < TT.size
          · have e2 := HL2.out.1 h2
            simp only [Cmd.none, Prod.mk.injEq, Cmd.mk.injEq] at e2
            obtain ⟨-, rfl⟩ := e2
            have d2 : decide (2048 < (TT.size : Int)) = true := decide_eq_true (by omega)
            go_wp2_with (go_at_call 9; refine (lives29 _).mono ?_; rintro e Z5 ⟨rfl, hb5⟩)
            refine bodyPost_ret (v := .bool true) (by simp [results, Tryd.results6, go_sem]) rfl ?_
            exact ⟨rfl, BB.out.trans (hb5.mono BB.out.size)⟩
          · have e2 := HL2.out.2 h2
            have hn3 := parseN_told ws
            rw [← e2] at hn3
            simp only at hn3
            have d2 : decide (2048 < (TT.size : Int)) = false := decide_eq_false (by omega)
            have d3 : ((t2 : Int) == 3) = false := beq_eq_false_iff_ne.mpr (by omega)
            go_wp2_with (go_at_call 9; refine (lives29 _).mono ?_; rintro e Z5 ⟨rfl, hb5⟩)
            refine bodyPost_ret (v := .bool true) (by simp [results, Tryd.results6, go_sem]) rfl ?_
            exact ⟨rfl, BB.out.trans (hb5.mono BB.out.size)⟩
        · have e1 := HLO.out.2 h1
          have hn1 := parseN_told ws
          rw [← e1] at hn1
          simp only at hn1
          have d1 : decide (2048 < (a0.size : Int)) = false := decide_eq_false (by omega)
          have d4 : ((t1 : Int) == 3) = false := beq_eq_false_iff_ne.mpr (by omega)
          by_cases h2 : 2048 < TT.size
          · have e2 := HL2.out.1 h2
            simp only [Cmd.none, Prod.mk.injEq, Cmd.mk.injEq] at e2
            obtain ⟨-, rfl⟩ := e2
            have d2 : decide (2048 < (TT.size : Int)) = true := decide_eq_true (by omega)
            go_wp2_with (go_at_call 9; refine (lives29 _).mono ?_; rintro e Z5 ⟨rfl, hb5⟩)
            refine bodyPost_ret (v := .bool true) (by simp [results, Tryd.results6, go_sem]) rfl ?_
            exact ⟨rfl, BB.out.trans (hb5.mono BB.out.size)⟩
          · have e2 := (HL2.out.2 h2).trans e1.symm
            simp only [Prod.mk.injEq, Cmd.mk.injEq] at e2
            obtain ⟨⟨rfl, rfl, rfl, rfl, rfl, rfl, rfl, rfl, rfl, rfl, rfl⟩, rfl⟩ := e2
            have d2 : decide (2048 < (TT.size : Int)) = false := decide_eq_false (by omega)
            have hsm : Calls Tryd.prog 16 #[.agg #[.int .u8 vb2, .slice A1 ks2.length cc1, .int .u8 cv2, .string ⟨ky2.toArray⟩, .string ⟨vl2.toArray⟩, .int .u32 fl2, .int .i64 ex2, .int .u64 id2, .int .u64 by_2, .int .i64 bt2, .bool qt2], .agg #[.int .u8 vb2, .slice A2 ks2.length cc2, .int .u8 cv2, .string ⟨ky2.toArray⟩, .string ⟨vl2.toArray⟩, .int .u32 fl2, .int .i64 ex2, .int .u64 id2, .int .u64 by_2, .int .i64 bt2, .bool qt2]] Y2 fun r w' => r = .returned (.bool true) ∧ Below Y2.heap.size Y2 w' := lawsame29 ⟨vb2, ks2, cv2, ky2, vl2, fl2, ex2, id2, by_2, bt2, qt2⟩ _ _ Y2 Q1'.out.2 Q2.out.2
            have HSM := Lib.hid hsm
            obtain ⟨x0, x1, x2, x3, x4, x5, x6, x7, x8, x9, x10⟩ := cb_cells Q1'.out.1
            obtain ⟨y0, y1, y2, y3, y4, y5, y6, y7, y8, y9, y10⟩ := cb_cells Q2.out.1
            simp only at x0 x1 x2 x3 x4 x5 x6 x7 x8 x9 x10 y0 y1 y2 y3 y4 y5 y6 y7 y8 y9 y10
            clear hsm
            go_wp2_with (first
              | (go_at_call 16; refine HSM.out.mono ?_; rintro e Z4 ⟨rfl, hb4⟩)
              | (go_at_call 9; refine (lives29 _).mono ?_; rintro e Z5 ⟨rfl, hb5⟩))
            refine bodyPost_ret (v := .bool true) (by simp [results, Tryd.results6, go_sem]) rfl ?_
            exact ⟨rfl, BB.out.trans ((hb4.trans (hb5.mono hb4.size)).mono BB.out.size)⟩
      · have hg' : decide (0 < (l1 : Int)) = false := decide_eq_false (by omega)
        have HTT := HTW
        have HTS := Lib.hid (show T.size ≤ 7000000 by omega)
        go_upto_region 15 with fail
        have HNX := hnx
        clear hnx HTW
        generalize T = TT at *
        have hp2 : ∀ W, Calls Tryd.prog 10 #[.string TT] W (IsPar W (parseC TT.data.toList)) := fun W => parsel TT W (by have := HTS.out; unfold maxLen; omega)
        have hl2 : 2048 < TT.size → parseC TT.data.toList = (Cmd.none, 3) := fun h => parseC_long h
        have hs2 : ¬ 2048 < TT.size → parseC TT.data.toList = parseN ws := fun h => by rw [parseC_short h, HTT.out.words]
        generalize parseC TT.data.toList = pc2 at hp2 hl2 hs2
        obtain ⟨pc2, t2⟩ := pc2
        have HP2 := Lib.hid hp2
        have HL2 := Lib.hid (And.intro hl2 hs2)
        clear hp2 hl2 hs2 HTT HP1
        obtain ⟨vb2, ks2, cv2, ky2, vl2, fl2, ex2, id2, by_2, bt2, qt2⟩ := pc2
        go_upto_region 16 with (go_at_call 10; refine (HP2.out _).mono ?_; rintro e X2 ⟨kv, he, hk2, hb2⟩; obtain ⟨A2, cc2, rfl, -⟩ := (KyS.of_lst (U := fun _ => False) hk2 (fun _ _ _ e => e)).rd.form; have hf : e = .returned (.tuple #[.agg #[.int .u8 vb2, .slice A2 ks2.length cc2, .int .u8 cv2, .string ⟨ky2.toArray⟩, .string ⟨vl2.toArray⟩, .int .u32 fl2, .int .i64 ex2, .int .u64 id2, .int .u64 by_2, .int .i64 bt2, .bool qt2], .int .u8 t2]) := he; subst hf; clear he)
        have ha2 : Below X2.heap.size X2 (X2.alloc (.cells #[.int .u8 vb2, .slice A2 ks2.length cc2, .int .u8 cv2, .string ⟨ky2.toArray⟩, .string ⟨vl2.toArray⟩, .int .u32 fl2, .int .i64 ex2, .int .u64 id2, .int .u64 by_2, .int .i64 bt2, .bool qt2] 30)) := (Below.refl _ _).alloc (Nat.le_refl _) _
        have hq2 : Cb (X2.alloc (.cells #[.int .u8 vb2, .slice A2 ks2.length cc2, .int .u8 cv2, .string ⟨ky2.toArray⟩, .string ⟨vl2.toArray⟩, .int .u32 fl2, .int .i64 ex2, .int .u64 id2, .int .u64 by_2, .int .i64 bt2, .bool qt2] 30)) X2.heap.size (cmdC ⟨vb2, ks2, cv2, ky2, vl2, fl2, ex2, id2, by_2, bt2, qt2⟩ (.slice A2 ks2.length cc2)) := cb_new rfl
        have hs2 : (X2.alloc (.cells #[.int .u8 vb2, .slice A2 ks2.length cc2, .int .u8 cv2, .string ⟨ky2.toArray⟩, .string ⟨vl2.toArray⟩, .int .u32 fl2, .int .i64 ex2, .int .u64 id2, .int .u64 by_2, .int .i64 bt2, .bool qt2] 30)).heap.size = X2.heap.size + 1 := by simp
        generalize X2.alloc _ = Y2 at *
        have hky2 : KyR Y2 (.slice A2 ks2.length cc2) ks2 := (KyS.of_lst (U := fun _ => False) hk2 (fun _ _ _ e => e)).rd.on ha2
        have Q2 := Lib.hid (And.intro hq2 hky2)
        have Q1' := Lib.hid (And.intro (((Q1.out.1.new HNX.out).new hb2).new ha2) (((Q1.out.2.on HNX.out).on hb2).on ha2))
        have BB := Lib.hid (BZ.out.trans (((HNX.out.trans (hb2.mono HNX.out.size)).trans (ha2.mono (Nat.le_trans HNX.out.size hb2.size))).mono BZ.out.size))
        clear hky2 hq2 hb2 ha2 hk2 Q1 BZ HNX HKG HP2
        by_cases h1 : 2048 < a0.size
        · have e1 := HLO.out.1 h1
          simp only [Cmd.none, Prod.mk.injEq, Cmd.mk.injEq] at e1
          obtain ⟨-, rfl⟩ := e1
          have d1 : decide (2048 < (a0.size : Int)) = true := decide_eq_true (by omega)
          by_cases h2 : 2048 < TT.size
          · have e2 := HL2.out.1 h2
            simp only [Cmd.none, Prod.mk.injEq, Cmd.mk.injEq] at e2
            obtain ⟨-, rfl⟩ := e2
            have d2 : decide (2048 < (TT.size : Int)) = true := decide_eq_true (by omega)
            go_wp2_with (go_at_call 9; refine (lives29 _).mono ?_; rintro e Z5 ⟨rfl, hb5⟩)
            refine bodyPost_ret (v := .bool true) (by simp [results, Tryd.results6, go_sem]) rfl ?_
            exact ⟨rfl, BB.out.trans (hb5.mono BB.out.size)⟩
          · have e2 := HL2.out.2 h2
            have hn3 := parseN_told ws
            rw [← e2] at hn3
            simp only at hn3
            have d2 : decide (2048 < (TT.size : Int)) = false := decide_eq_false (by omega)
            have d3 : ((t2 : Int) == 3) = false := beq_eq_false_iff_ne.mpr (by omega)
            go_wp2_with (go_at_call 9; refine (lives29 _).mono ?_; rintro e Z5 ⟨rfl, hb5⟩)
            refine bodyPost_ret (v := .bool true) (by simp [results, Tryd.results6, go_sem]) rfl ?_
            exact ⟨rfl, BB.out.trans (hb5.mono BB.out.size)⟩
        · have e1 := HLO.out.2 h1
          have hn1 := parseN_told ws
          rw [← e1] at hn1
          simp only at hn1
          have d1 : decide (2048 < (a0.size : Int)) = false := decide_eq_false (by omega)
          have d4 : ((t1 : Int) == 3) = false := beq_eq_false_iff_ne.mpr (by omega)
          by_cases h2 : 2048 < TT.size
          · have e2 := HL2.out.1 h2
            simp only [Cmd.none, Prod.mk.injEq, Cmd.mk.injEq] at e2
            obtain ⟨-, rfl⟩ := e2
            have d2 : decide (2048 < (TT.size : Int)) = true := decide_eq_true (by omega)
            go_wp2_with (go_at_call 9; refine (lives29 _).mono ?_; rintro e Z5 ⟨rfl, hb5⟩)
            refine bodyPost_ret (v := .bool true) (by simp [results, Tryd.results6, go_sem]) rfl ?_
            exact ⟨rfl, BB.out.trans (hb5.mono BB.out.size)⟩
          · have e2 := (HL2.out.2 h2).trans e1.symm
            simp only [Prod.mk.injEq, Cmd.mk.injEq] at e2
            obtain ⟨⟨rfl, rfl, rfl, rfl, rfl, rfl, rfl, rfl, rfl, rfl, rfl⟩, rfl⟩ := e2
            have d2 : decide (2048 < (TT.size : Int)) = false := decide_eq_false (by omega)
            have hsm : Calls Tryd.prog 16 #[.agg #[.int .u8 vb2, .slice A1 ks2.length cc1, .int .u8 cv2, .string ⟨ky2.toArray⟩, .string ⟨vl2.toArray⟩, .int .u32 fl2, .int .i64 ex2, .int .u64 id2, .int .u64 by_2, .int .i64 bt2, .bool qt2], .agg #[.int .u8 vb2, .slice A2 ks2.length cc2, .int .u8 cv2, .string ⟨ky2.toArray⟩, .string ⟨vl2.toArray⟩, .int .u32 fl2, .int .i64 ex2, .int .u64 id2, .int .u64 by_2, .int .i64 bt2, .bool qt2]] Y2 fun r w' => r = .returned (.bool true) ∧ Below Y2.heap.size Y2 w' := lawsame29 ⟨vb2, ks2, cv2, ky2, vl2, fl2, ex2, id2, by_2, bt2, qt2⟩ _ _ Y2 Q1'.out.2 Q2.out.2
            have HSM := Lib.hid hsm
            obtain ⟨x0, x1, x2, x3, x4, x5, x6, x7, x8, x9, x10⟩ := cb_cells Q1'.out.1
            obtain ⟨y0, y1, y2, y3, y4, y5, y6, y7, y8, y9, y10⟩ := cb_cells Q2.out.1
            simp only at x0 x1 x2 x3 x4 x5 x6 x7 x8 x9 x10 y0 y1 y2 y3 y4 y5 y6 y7 y8 y9 y10
            clear hsm
            go_wp2_with (first
              | (go_at_call 16; refine HSM.out.mono ?_; rintro e Z4 ⟨rfl, hb4⟩)
              | (go_at_call 9; refine (lives29 _).mono ?_; rintro e Z5 ⟨rfl, hb5⟩))
            refine bodyPost_ret (v := .bool true) (by simp [results, Tryd.results6, go_sem]) rfl ?_
            exact ⟨rfl, BB.out.trans ((hb4.trans (hb5.mono hb4.size)).mono BB.out.size)⟩
end Go.Proofs.YtifbcejekdhnlaaDoor
