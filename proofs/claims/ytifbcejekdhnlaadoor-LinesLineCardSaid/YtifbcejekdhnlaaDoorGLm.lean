/- Lines: the chapter's words of a command, written. Printed by tools/genll10.py. -/
import Derived.Test.YtifbcejekdhnlaaDoorGLl
import Derived.Test.YtifbcejekdhnlaaDoorGLr
import Derived.BigRegion
import Derived.Deep.RegionHeld
import Derived.Deep.Cut
import Derived.Deep.CutBlock
namespace Go.Proofs.YtifbcejekdhnlaaDoor
open Go.RowKit Go.Maps
set_option linter.unusedVariables false

/-- What the chapter writes of a command. -/
def wrC (c : Cmd) : List UInt8 := match formAt c.verb with | none => [] | some x => Lib.join (wordsC x.1 x.2 c) [32]
theorem at_none : ∀ v : Nat, v < 1 ∨ 13 < v → formAt v = none := by
  intro v h
  unfold formAt
  rw [List.find?_eq_none]
  intro x hx
  have hv : ∀ x ∈ tbF, 1 ≤ x.2.verb ∧ x.2.verb ≤ 13 := by decide
  have := hv x hx
  simp; omega
theorem at_some : ∀ v : Fin 13, ∃ x, formAt (v.val + 1) = some x ∧ namesL[v.val]? = some x.1 ∧ x ∈ tbF := by
  intro v
  have h : ∀ v : Fin 13, (formAt (v.val + 1)).isSome ∧ (formAt (v.val + 1)).map (·.1) = namesL[v.val]? := by decide +kernel
  obtain ⟨h1, h2⟩ := h v
  cases hf : formAt (v.val + 1) with
  | none => rw [hf] at h1; simp at h1
  | some x =>
    rw [hf] at h2
    exact ⟨x, rfl, by rw [← h2]; rfl, (formAt_in hf).1⟩
/-- Of which fields a form is that may be spared. -/
theorem form_spare : ∀ x ∈ tbF, (x.2.verb = 11 ↔ x.2.spare ≠ 0) ∧ ∀ y ∈ x.2.fields, y ≠ 2 → x.2.spare = 0 := by decide +kernel
theorem app_list (T X : ByteArray) : (T ++ X).data.toList = T.data.toList ++ X.data.toList := by simp
theorem ll_join (n : List UInt8) (r : List (List UInt8)) : Lib.join (n :: r) [32] = n ++ Lib.joinTail [32] r := Lib.join_cons _ _ _
theorem tail_snoc (r : List (List UInt8)) (x : List UInt8) : Lib.joinTail [32] (r ++ [x]) = Lib.joinTail [32] r ++ 32 :: x := by
  simp [Lib.joinTail]
theorem tot_take (l : List (List UInt8)) (k : Nat) : tot (l.take k) ≤ tot l := by
  have := tot_app (l.take k) (l.drop k)
  rw [List.take_append_drop] at this
  omega
/-- A text under way, one word more. -/
theorem text_word {T X : ByteArray} {nm : List UInt8} {r : List (List UInt8)} {x : List UInt8} (h : T.data.toList = nm ++ Lib.joinTail [32] r) (hx : X.data.toList = x) : ((T ++ (⟨#[32]⟩ : ByteArray)) ++ X).data.toList = nm ++ Lib.joinTail [32] (r ++ [x]) := by
  rw [app_list, app_list, h, hx, tail_snoc]
  simp
theorem text_size {T : ByteArray} {nm : List UInt8} {r : List (List UInt8)} (h : T.data.toList = nm ++ Lib.joinTail [32] r) : T.size = nm.length + tot r := by
  rw [← size_list, h, List.length_append, tail_tot]
set_option maxHeartbeats 8000000 in
set_option maxRecDepth 100000 in
theorem rwritten (c : Cmd) (A : Option Addr) (n cap : Nat) (w : World) (hvb : c.verb ≤ 255) (hr : CmR c) (hk : KyG w A n cap c.keys) (hn : n ≤ 1000) (hT : tot c.keys ≤ 1000000) :
    Calls Tryd.prog 46 #[.agg (cmdC c (.slice A n cap)).toArray] w fun e w' => e = .returned (.string ⟨(wrC c).toArray⟩) ∧ Below w.heap.size w w' := by
  obtain ⟨vb, ks, cv, ky, vl, fl, ex, id, by_, bt, qt⟩ := c
  simp only at hk hT hvb
  simp only [cmdC]
  obtain ⟨X1, hX1⟩ : ∃ W1, W1 = w.alloc (.cells #[.int .u8 vb, .slice A n cap, .int .u8 cv, .string ⟨ky.toArray⟩, .string ⟨vl.toArray⟩, .int .u32 fl, .int .i64 ex, .int .u64 id, .int .u64 by_, .int .i64 bt, .bool qt] 34) := ⟨_, rfl⟩
  have HC1 := Lib.hid (show Cb X1 w.heap.size (cmdC ⟨vb, ks, cv, ky, vl, fl, ex, id, by_, bt, qt⟩ (.slice A n cap)) from by rw [hX1]; exact cb_new rfl)
  have HB1 := Lib.hid (show Below w.heap.size w X1 from by rw [hX1]; exact (Below.refl _ _).alloc (Nat.le_refl _) _)
  obtain ⟨x0, x1, x2, x3, x4, x5, x6, x7, x8, x9, x10⟩ := cb_cells HC1.out
  simp only at x0 x1 x2 x3 x4 x5 x6 x7 x8 x9 x10
  have HK1 := Lib.hid (hk.on HB1.out)
  have hkl := hk.len
  have HR := Lib.hid hr
  clear hk hr
  by_cases hv0 : vb < 1
  · have HV := Lib.hid hv0
    have hd0 : decide ((vb : Int) < 1) = true := decide_eq_true (by omega)
    clear hv0
    go_enter Tryd.func46, Tryd.ntmps46
    go_upto_region 1 with fail
    rw [← hX1]
    clear hX1
    go_quiet (fail)
    go_wp2_with fail
    go_ret
    exact ⟨by unfold wrC; rw [at_none _ (.inl HV.out)]; rfl, belowNf HB1.out _⟩
  have hd0 : decide ((vb : Int) < 1) = false := decide_eq_false (by omega)
  have hS : ∀ X, Below X1.heap.size X1 X → X.cell? ⟨w.heap.size, 0, none⟩ = some (.int .u8 vb) := fun X hX => (HC1.out.new hX).at_ 0 _ rfl
  have HS := Lib.hid hS
  clear hS
  have hw0 : IntKind.i64.wrap (vb : Int) = (vb : Int) := IntWalk.i64_in _ (by omega)
  have hbd : Below X1.heap.size X1 X1.drew := (Below.refl _ _).drew
  have hd := HS.out _ hbd
  by_cases hv13 : 13 < vb
  · have hd1 : decide (13 < (vb : Int)) = true := decide_eq_true (by omega)
    go_enter Tryd.func46, Tryd.ntmps46
    go_upto_region 1 with fail
    rw [← hX1]
    clear hX1
    go_region_held3 (fun X => X.cell? ⟨w.heap.size, 0, none⟩ = some (.int .u8 vb))
      (first | exact hd | exact he)
      (first | (go_at_call 66; refine (rnames _).mono ?_; rintro e W2 ⟨rfl, -, hb2⟩; have hb12 := hbd.trans (hb2.mono hbd.size); have he := HS.out _ hb12))
    all_goals
      go_wp2_with fail
      go_ret
      exact ⟨by unfold wrC; rw [at_none _ (.inr hv13)]; rfl, HB1.out.trans (hb12.mono HB1.out.size)⟩
  · have hd1 : decide (13 < (vb : Int)) = false := decide_eq_false (by omega)
    obtain ⟨v, hvv⟩ : ∃ v : Nat, vb = v + 1 := ⟨vb - 1, by omega⟩
    have hvl : v < 13 := by omega
    obtain ⟨⟨nm, f⟩, hfa, hnn, hin⟩ := at_some ⟨v, hvl⟩
    simp only at hfa hnn
    rw [← hvv] at hfa
    have HFA := Lib.hid (And.intro hfa hin)
    have HNN := Lib.hid hnn
    clear hfa hnn hin
    have hi1 : IntKind.i64.wrap ((vb : Int) - 1) = (v : Int) := by rw [IntWalk.i64_in _ (by omega)]; omega
    have y1 : (0 : Int) ≤ (v : Int) := by omega
    have y2 : (v : Int) < 13 := by omega
    have HVV := Lib.hid hvv
    clear hvv
    go_enter Tryd.func46, Tryd.ntmps46
    go_upto_region 1 with fail
    rw [← hX1]
    clear hX1
    go_region_held3 (fun X => X.cell? ⟨w.heap.size, 0, none⟩ = some (.int .u8 vb))
      (first | exact hd | exact he)
      (first | (go_at_call 66; refine (rnames _).mono ?_; rintro e W2 ⟨rfl, -, hb2⟩; have hb12 := hbd.trans (hb2.mono hbd.size); have he := HS.out _ hb12))
    have HB2 := Lib.hid hb12
    clear hd he hbd hb2 hb12
    go_upto_region 3 with fail
    go_cut [3] from 7 (fun s3 wx => s3 = .string ⟨nm.toArray⟩ ∧ Hid (Below X1.heap.size X1 wx))
    case first =>
      have hbd3 : Below X1.heap.size X1 W2.drew := HB2.out.trans (((Below.refl _ _).drew).mono HB2.out.size)
      have hd3 := HS.out _ hbd3
      go_region_with (first | (go_at_call 66; refine (rnames _).mono ?_; rintro e W3 ⟨rfl, htx, hb3⟩; have hb13 := hbd3.trans (hb3.mono hbd3.size); have he := HS.out _ hb13; have hcn : W3.cell? ⟨W2.heap.size, v, none⟩ = some (.string ⟨nm.toArray⟩) := (by have h9 := htx v nm HNN.out; rw [Nat.zero_add] at h9; exact h9)))
      all_goals
        go_wp2_with fail
        go_meet
        case rel => exact ⟨rfl, Lib.hid hb13⟩
    obtain ⟨rfl, HB3⟩ := hcut
    all_goals
      have hnm9 : nm.length ≤ 9 := names_short _ HFA.out.2
      clear hi1 y1 y2
      obtain ⟨g, o, hA, hcells⟩ := HK1.out.at_
      have HCL := Lib.hid hcells
      have HA := Lib.hid (And.intro hA HK1.out.cap)
      have HN := Lib.hid hkl
      clear hA hcells x0 x1 x2 x3 x4 x5 x6 x7 x8 x9 x10
      go_upto_region 5 with fail
      go_loopw [3, 4] (fun s i wr => ∃ (k : Nat) (T : ByteArray), k ≤ n ∧ i = .int .i64 k ∧ s = .string T ∧ Hid (T.data.toList = nm ++ Lib.joinTail [32] (ks.take k)) ∧ Hid (Below X1.heap.size X1 wr)) (fun _ i _ => n - (intOf i).toNat)
      case atStart => exact ⟨0, _, by omega, rfl, rfl, Lib.hid (by simp [Lib.joinTail]), HB3⟩
      case round =>
        obtain ⟨k, T, hk, rfl, rfl, hTL, hnx⟩ := hrel
        have hTs : T.size ≤ 1000100 := by
          have h1 := text_size hTL.out
          have h2 := tot_take ks k
          omega
        have q1 : wr.cell? ⟨w.heap.size, 1, none⟩ = some (.slice A n cap) := (HC1.out.new hnx.out).at_ 1 _ rfl
        by_cases hlt : k < n
        · obtain ⟨x, hx⟩ : ∃ x, ks[k]? = some x := ⟨_, List.getElem?_eq_getElem (by have := HN.out; omega)⟩
          obtain ⟨hgl, hgc⟩ := HCL.out k x hx
          have hcx : wr.cell? ⟨g, o + k, none⟩ = some (.string ⟨x.toArray⟩) := (hnx.out.cell (p := ⟨g, o + k, none⟩) hgl).trans hgc
          obtain rfl := HA.out.1 (by omega)
          have hnc := HA.out.2 (by omega)
          obtain ⟨XB, hXB⟩ : ∃ XB : ByteArray, XB = ⟨x.toArray⟩ := ⟨_, rfl⟩
          rw [← hXB] at hcx
          have hXs : XB.size ≤ 1000000 := by
            have h2 := tot_take ks (k + 1)
            rw [take_next hx, tot_app] at h2
            simp only [tot] at h2
            rw [hXB]; show x.toArray.size ≤ _; simp; omega
          have HXL := Lib.hid (show XB.data.toList = x by rw [hXB])
          replace hXB := Lib.hid hXB
          obtain ⟨T1, hT1⟩ : ∃ T1 : ByteArray, T1 = T ++ ⟨#[32]⟩ := ⟨_, rfl⟩
          obtain ⟨T2, hT2⟩ : ∃ T2 : ByteArray, T2 = T1 ++ XB := ⟨_, rfl⟩
          have r1 : ∀ w : World, (Op.stringOp .add T ⟨#[32]⟩).run Tryd.prog w = .ok (.string T1) w := fun w => by rw [hT1]; exact run_string_add_sum w T _ (by show T.size + 1 ≤ _; omega)
          have r2 : ∀ w : World, (Op.stringOp .add T1 XB).run Tryd.prog w = .ok (.string T2) w := fun w => by rw [hT2]; exact run_string_add_sum w T1 XB (by rw [hT1, ByteArray.size_append, show (⟨#[32]⟩ : ByteArray).size = 1 from rfl]; omega)
          have HT2 := Lib.hid (show T2.data.toList = nm ++ Lib.joinTail [32] (ks.take (k + 1)) from by rw [hT2, hT1, take_next hx]; exact text_word hTL.out HXL.out)
          replace hT1 := Lib.hid hT1
          replace hT2 := Lib.hid hT2
          have hd2 : decide ((k : Int) < (n : Int)) = true := decide_eq_true (by omega)
          clear hgc hgl hx hTs hXs
          go_wp2_with fail
          go_roundw
          case rel => exact ⟨k + 1, T2, by omega, by go_num, rfl, HT2, hnx⟩
          case measure => simp [intOf]; omega
        · have hd2 : decide ((k : Int) < (n : Int)) = false := decide_eq_false (by omega)
          have hkn : k = n := by omega
          have q0 : wr.cell? ⟨w.heap.size, 0, none⟩ = some (.int .u8 vb) := HS.out _ hnx.out
          have HTA := Lib.hid (show T.data.toList = nm ++ Lib.joinTail [32] (ks ++ took f ⟨vb, ks, cv, ky, vl, fl, ex, id, by_, bt, qt⟩ 0) from by rw [hTL.out, took_zero, List.append_nil, List.take_of_length_le (by have := HN.out; omega)])
          have hvf : f.verb = vb := (formAt_in HFA.out.1).2
          have hfm : f ∈ tbF.map (·.2) := List.mem_map.mpr ⟨_, HFA.out.2, rfl⟩
          have hre := fun W => rrest f hfm W
          rw [hvf] at hre
          obtain ⟨r, hr⟩ : ∃ r : ByteArray, r = ⟨(letters f).toArray⟩ := ⟨_, rfl⟩
          rw [← hr] at hre
          have hrs : r.size = f.fields.length := by rw [hr]; show (letters f).toArray.size = _; simp [letters]
          have hrb : ∀ k (h : k < r.size), r[k].toNat = (lett (f.fld k)).toNat := by subst hr; intro k h; exact lett_at h
          have HRE := Lib.hid hre
          have HRB := Lib.hid hrb
          have HVF := Lib.hid hvf
          obtain ⟨m, hm⟩ : ∃ m, r.size = m := ⟨_, rfl⟩
          have HM := Lib.hid (show f.fields.length = m from hrs.symm.trans hm)
          have hm4 : m ≤ 4 := by rw [← HM.out]; exact (tbF_ok _ HFA.out.2).len
          clear hre hrb hvf hfm hr hrs hTL
          go_upto_region 10 with (go_at_call 41; go_loud ((with_reducible refine (HRE.out _).mono ?_); rintro e w5 ⟨rfl, rfl⟩))
          by_cases h11 : vb = 11
          · have n11 : ((vb : Int) != 11) = false := bne_eq_false_iff_eq.mpr (by omega)
            have H11 := Lib.hid h11
            clear h11
            go_loopw [3, 6, 49, 62, 85, 96, 108] (fun s i _ _ _ _ _ wz => ∃ (j : Nat) (T : ByteArray), j ≤ m ∧ i = .int .i64 j ∧ s = .string T ∧ Hid (T.data.toList = nm ++ Lib.joinTail [32] (ks ++ took f ⟨vb, ks, cv, ky, vl, fl, ex, id, by_, bt, qt⟩ j)) ∧ wz = wr) (fun _ i _ _ _ _ _ _ => m - (intOf i).toNat)
            case atStart => exact ⟨0, T, by omega, rfl, rfl, HTA, rfl⟩
            case round =>
              obtain ⟨j, T, hj, rfl, rfl, hTL, rfl⟩ := hrel
              have htk := tot_map HR.out
              have hTs : T.size ≤ 1000300 := by
                have h1 := text_size hTL.out
                rw [tot_app] at h1
                have h3 : tot (took f ⟨vb, ks, cv, ky, vl, fl, ex, id, by_, bt, qt⟩ j) ≤ 88 := by
                  unfold took
                  split
                  · have h4 := tot_map HR.out (f.fields.take j)
                    rw [List.length_take] at h4
                    have h5 : min j f.fields.length ≤ 4 := by have := HM.out; omega
                    have h6 := Nat.mul_le_mul_right 22 h5
                    omega
                  · simp [tot]
                omega
              clear htk
              obtain ⟨q0, q1, q2, q3, q4, q5, q6, q7, q8, q9, q10⟩ := cb_cells (HC1.out.new hnx.out)
              simp only at q0 q1 q2 q3 q4 q5 q6 q7 q8 q9 q10
              by_cases hlj : j < m
              · have hyp := getD_pos (tbF_ok _ HFA.out.2) (k := j) (by rw [HM.out]; exact hlj)
                simp only at hyp
                have hjr : j < r.size := by rw [hm]; exact hlj
                have hrk := HRB.out j hjr
                have hd3 : decide ((j : Int) < (m : Int)) = true := decide_eq_true (by omega)
                have hmore : (f.spare = 0 ∨ ex ≠ 0) → took f ⟨vb, ks, cv, ky, vl, fl, ex, id, by_, bt, qt⟩ (j + 1) = took f ⟨vb, ks, cv, ky, vl, fl, ex, id, by_, bt, qt⟩ j ++ [textF (f.fld j) ⟨vb, ks, cv, ky, vl, fl, ex, id, by_, bt, qt⟩] := fun h => took_more (by rw [HM.out]; exact hlj) h
                have hsp := form_spare _ HFA.out.2
                simp only at hsp
                have hmem : f.fld j ∈ f.fields := by
                  unfold Form.fld
                  rw [List.getD_eq_getElem?_getD, List.getElem?_eq_getElem (by rw [HM.out]; exact hlj)]
                  exact List.getElem_mem _
                have hs0 : f.fld j ≠ 2 → f.spare = 0 := fun h => hsp.2 _ hmem h
                have hs11 : vb = 11 ↔ f.spare ≠ 0 := by rw [← HVF.out]; exact hsp.1
                have hMORE := Lib.hid hmore
                have hS0 := Lib.hid (And.intro hs0 hs11)
                have hts := text_short HR.out (f.fld j)
                obtain ⟨y, hy⟩ : ∃ y, f.fld j = y := ⟨_, rfl⟩
                rw [hy] at hyp hrk hMORE hS0 hts
                clear hmore hs0 hs11 hsp hmem hy
                obtain ⟨TX, hTX⟩ : ∃ T : ByteArray, T = ⟨(textF y ⟨vb, ks, cv, ky, vl, fl, ex, id, by_, bt, qt⟩).toArray⟩ := ⟨_, rfl⟩
                have hTXs : TX.size ≤ 21 := by rw [hTX]; show (textF y ⟨vb, ks, cv, ky, vl, fl, ex, id, by_, bt, qt⟩).toArray.size ≤ 21; simpa using hts
                have HTXL := Lib.hid (show TX.data.toList = textF y ⟨vb, ks, cv, ky, vl, fl, ex, id, by_, bt, qt⟩ by rw [hTX])
                obtain ⟨T1, hT1⟩ : ∃ T1 : ByteArray, T1 = T ++ ⟨#[32]⟩ := ⟨_, rfl⟩
                obtain ⟨T2, hT2⟩ : ∃ T2 : ByteArray, T2 = T1 ++ TX := ⟨_, rfl⟩
                have r1 : ∀ w : World, (Op.stringOp .add T ⟨#[32]⟩).run Tryd.prog w = .ok (.string T1) w := fun w => by rw [hT1]; exact run_string_add_sum w T _ (by show T.size + 1 ≤ _; omega)
                have r2 : ∀ w : World, (Op.stringOp .add T1 TX).run Tryd.prog w = .ok (.string T2) w := fun w => by rw [hT2]; exact run_string_add_sum w T1 TX (by rw [hT1, ByteArray.size_append, show (⟨#[32]⟩ : ByteArray).size = 1 from rfl]; omega)
                have HT2 := Lib.hid (fun (h : f.spare = 0 ∨ ex ≠ 0) => show T2.data.toList = nm ++ Lib.joinTail [32] (ks ++ took f ⟨vb, ks, cv, ky, vl, fl, ex, id, by_, bt, qt⟩ (j + 1)) from by rw [hT2, hT1, hMORE.out h, ← List.append_assoc]; exact text_word hTL.out HTXL.out)
                replace hT1 := Lib.hid hT1
                replace hT2 := Lib.hid hT2
                have HTX := Lib.hid hTX
                clear hTX
                have hix : ∀ W : World, (Instr.index 9 (.string r) (.int .i64 j)).run Tryd.prog W = .ok (.int .u8 ((lett y).toNat : Int)) W := by
                  intro W
                  rw [run_index_string W 9 r .i64 j (by rfl), dif_pos ⟨by omega, by omega⟩, ← hrk]
                  rfl
                clear hrk hTs hTXs hts hjr
                obtain ⟨⟨a1, a2⟩, ⟨a3, a4⟩, ⟨a5, a6⟩, ⟨a7, a8⟩, a9, a10⟩ := HR.out
                have hwf : IntKind.u64.wrap fl = fl := by simp [IntKind.wrap, IntKind.bits, IntKind.signed]; simp only at a1 a2; omega
                obtain rfl | rfl | rfl | rfl | rfl : y = 1 ∨ y = 2 ∨ y = 3 ∨ y = 4 ∨ y = 5 := by omega
                · skip
                  have hct : ∀ W, Calls Tryd.prog 73 #[.int .u64 fl] W fun e w' => e = .returned (.string TX) ∧ W = w' := fun W => by rw [HTX.out]; exact rtextn fl a1 (by simp only at a2; omega) W
                  have HCT := Lib.hid hct
                  clear hct a1 a2 a3 a4 a5 a6 a7 a8 a9 a10
                  go_wp2_with (go_at_call 73; go_loud ((with_reducible refine (HCT.out _).mono ?_); rintro e w6 ⟨rfl, rfl⟩))
                  go_roundw
                  case rel => exact ⟨j + 1, T2, by omega, by go_num, rfl, Lib.hid (HT2.out (.inl (hS0.out.1 (by decide)))), trivial⟩
                  case measure => simp [intOf]; omega
                · skip
                  have hct : ∀ W, Calls Tryd.prog 74 #[.int .i64 ex] W fun e w' => e = .returned (.string TX) ∧ W = w' := fun W => by rw [HTX.out]; exact rlsgnw ex a3 a4 W
                  have HCT := Lib.hid hct
                  clear hct a1 a2 a3 a4 a5 a6 a7 a8 a9 a10
                  by_cases he0 : ex = 0
                  · have nex : (ex != 0) = false := bne_eq_false_iff_eq.mpr he0
                    have hns : ¬ (f.spare = 0 ∨ ex ≠ 0) := by have := hS0.out.2.mp H11.out; omega
                    have HTN := Lib.hid (show took f ⟨vb, ks, cv, ky, vl, fl, ex, id, by_, bt, qt⟩ (j + 1) = took f ⟨vb, ks, cv, ky, vl, fl, ex, id, by_, bt, qt⟩ j from (took_not (f := f) (c := ⟨vb, ks, cv, ky, vl, fl, ex, id, by_, bt, qt⟩) (k := j + 1) hns).trans (took_not (f := f) (c := ⟨vb, ks, cv, ky, vl, fl, ex, id, by_, bt, qt⟩) (k := j) hns).symm)
                    clear he0 hns
                    go_wp2_with fail
                    go_roundw
                    case rel => exact ⟨j + 1, T, by omega, by go_num, rfl, Lib.hid (by rw [HTN.out]; exact hTL.out), trivial⟩
                    case measure => simp [intOf]; omega
                  · have nex : (ex != 0) = true := bne_iff_ne.mpr he0
                    have HEX := Lib.hid he0
                    clear he0
                    go_wp2_with (go_at_call 74; go_loud ((with_reducible refine (HCT.out _).mono ?_); rintro e w6 ⟨rfl, rfl⟩))
                    all_goals
                      go_roundw
                      case rel => exact ⟨j + 1, T2, by omega, by go_num, rfl, Lib.hid (HT2.out (.inr HEX.out)), trivial⟩
                      case measure => simp [intOf]; omega
                · skip
                  have hct : ∀ W, Calls Tryd.prog 74 #[.int .i64 bt] W fun e w' => e = .returned (.string TX) ∧ W = w' := fun W => by rw [HTX.out]; exact rlsgnw bt a5 a6 W
                  have HCT := Lib.hid hct
                  clear hct a1 a2 a3 a4 a5 a6 a7 a8 a9 a10
                  go_wp2_with (go_at_call 74; go_loud ((with_reducible refine (HCT.out _).mono ?_); rintro e w6 ⟨rfl, rfl⟩))
                  go_roundw
                  case rel => exact ⟨j + 1, T2, by omega, by go_num, rfl, Lib.hid (HT2.out (.inl (hS0.out.1 (by decide)))), trivial⟩
                  case measure => simp [intOf]; omega
                · skip
                  have hct : ∀ W, Calls Tryd.prog 73 #[.int .u64 id] W fun e w' => e = .returned (.string TX) ∧ W = w' := fun W => by rw [HTX.out]; exact rtextn id a7 a8 W
                  have HCT := Lib.hid hct
                  clear hct a1 a2 a3 a4 a5 a6 a7 a8 a9 a10
                  go_wp2_with (go_at_call 73; go_loud ((with_reducible refine (HCT.out _).mono ?_); rintro e w6 ⟨rfl, rfl⟩))
                  go_roundw
                  case rel => exact ⟨j + 1, T2, by omega, by go_num, rfl, Lib.hid (HT2.out (.inl (hS0.out.1 (by decide)))), trivial⟩
                  case measure => simp [intOf]; omega
                · skip
                  have hct : ∀ W, Calls Tryd.prog 73 #[.int .u64 by_] W fun e w' => e = .returned (.string TX) ∧ W = w' := fun W => by rw [HTX.out]; exact rtextn by_ a9 a10 W
                  have HCT := Lib.hid hct
                  clear hct a1 a2 a3 a4 a5 a6 a7 a8 a9 a10
                  go_wp2_with (go_at_call 73; go_loud ((with_reducible refine (HCT.out _).mono ?_); rintro e w6 ⟨rfl, rfl⟩))
                  go_roundw
                  case rel => exact ⟨j + 1, T2, by omega, by go_num, rfl, Lib.hid (HT2.out (.inl (hS0.out.1 (by decide)))), trivial⟩
                  case measure => simp [intOf]; omega
              · have hd3 : decide ((j : Int) < (m : Int)) = false := decide_eq_false (by omega)
                have htk := took_all (f := f) (c := ⟨vb, ks, cv, ky, vl, fl, ex, id, by_, bt, qt⟩) (k := j) (by rw [HM.out]; omega)
                have hwr : wrC ⟨vb, ks, cv, ky, vl, fl, ex, id, by_, bt, qt⟩ = nm ++ Lib.joinTail [32] (ks ++ fieldsC f ⟨vb, ks, cv, ky, vl, fl, ex, id, by_, bt, qt⟩ ++ quietC ⟨vb, ks, cv, ky, vl, fl, ex, id, by_, bt, qt⟩) := by
                  unfold wrC
                  simp only [HFA.out.1]
                  show Lib.join (wordsC nm f ⟨vb, ks, cv, ky, vl, fl, ex, id, by_, bt, qt⟩) [32] = _
                  unfold wordsC
                  rw [ll_join]
                rw [htk] at hTL
                have HWR := Lib.hid hwr
                have hBE := HB1.out.trans (hnx.out.mono HB1.out.size)
                clear hwr htk
                cases qt with
                | false =>
                  go_wp2_with fail
                  go_ret
                  refine ⟨?_, hBE⟩
                  refine congrArg (fun s => Ending.returned (Value.string s)) (of_list ?_)
                  rw [HWR.out, hTL.out]
                  simp [quietC]
                | true =>
                  obtain ⟨T3, hT3⟩ : ∃ T1 : ByteArray, T1 = T ++ ⟨#[32, 110, 111, 114, 101, 112, 108, 121]⟩ := ⟨_, rfl⟩
                  have r1 : ∀ w : World, (Op.stringOp .add T ⟨#[32, 110, 111, 114, 101, 112, 108, 121]⟩).run Tryd.prog w = .ok (.string T3) w := fun w => by rw [hT3]; exact run_string_add_sum w T _ (by show T.size + 8 ≤ _; omega)
                  have HT3 := Lib.hid hT3
                  clear hT3
                  go_wp2_with fail
                  go_ret
                  refine ⟨?_, hBE⟩
                  refine congrArg (fun s => Ending.returned (Value.string s)) (of_list ?_)
                  have hqc : quietC ⟨vb, ks, cv, ky, vl, fl, ex, id, by_, bt, true⟩ = [norep] := by simp [quietC]
                  rw [HT3.out, app_list, HWR.out, hTL.out, hqc, tail_snoc]
                  simp [norep]
          · have b11 : ((vb : Int) == 11) = false := beq_eq_false_iff_ne.mpr (by omega)
            have H11 := Lib.hid h11
            clear h11
            go_loopw [3, 6, 49, 62, 85, 96, 108] (fun s i _ _ _ _ _ wz => ∃ (j : Nat) (T : ByteArray), j ≤ m ∧ i = .int .i64 j ∧ s = .string T ∧ Hid (T.data.toList = nm ++ Lib.joinTail [32] (ks ++ took f ⟨vb, ks, cv, ky, vl, fl, ex, id, by_, bt, qt⟩ j)) ∧ wz = wr) (fun _ i _ _ _ _ _ _ => m - (intOf i).toNat)
            case atStart => exact ⟨0, T, by omega, rfl, rfl, HTA, rfl⟩
            case round =>
              obtain ⟨j, T, hj, rfl, rfl, hTL, rfl⟩ := hrel
              have htk := tot_map HR.out
              have hTs : T.size ≤ 1000300 := by
                have h1 := text_size hTL.out
                rw [tot_app] at h1
                have h3 : tot (took f ⟨vb, ks, cv, ky, vl, fl, ex, id, by_, bt, qt⟩ j) ≤ 88 := by
                  unfold took
                  split
                  · have h4 := tot_map HR.out (f.fields.take j)
                    rw [List.length_take] at h4
                    have h5 : min j f.fields.length ≤ 4 := by have := HM.out; omega
                    have h6 := Nat.mul_le_mul_right 22 h5
                    omega
                  · simp [tot]
                omega
              clear htk
              obtain ⟨q0, q1, q2, q3, q4, q5, q6, q7, q8, q9, q10⟩ := cb_cells (HC1.out.new hnx.out)
              simp only at q0 q1 q2 q3 q4 q5 q6 q7 q8 q9 q10
              by_cases hlj : j < m
              · have hyp := getD_pos (tbF_ok _ HFA.out.2) (k := j) (by rw [HM.out]; exact hlj)
                simp only at hyp
                have hjr : j < r.size := by rw [hm]; exact hlj
                have hrk := HRB.out j hjr
                have hd3 : decide ((j : Int) < (m : Int)) = true := decide_eq_true (by omega)
                have hmore : (f.spare = 0 ∨ ex ≠ 0) → took f ⟨vb, ks, cv, ky, vl, fl, ex, id, by_, bt, qt⟩ (j + 1) = took f ⟨vb, ks, cv, ky, vl, fl, ex, id, by_, bt, qt⟩ j ++ [textF (f.fld j) ⟨vb, ks, cv, ky, vl, fl, ex, id, by_, bt, qt⟩] := fun h => took_more (by rw [HM.out]; exact hlj) h
                have hsp := form_spare _ HFA.out.2
                simp only at hsp
                have hmem : f.fld j ∈ f.fields := by
                  unfold Form.fld
                  rw [List.getD_eq_getElem?_getD, List.getElem?_eq_getElem (by rw [HM.out]; exact hlj)]
                  exact List.getElem_mem _
                have hs0 : f.fld j ≠ 2 → f.spare = 0 := fun h => hsp.2 _ hmem h
                have hs11 : vb = 11 ↔ f.spare ≠ 0 := by rw [← HVF.out]; exact hsp.1
                have hMORE := Lib.hid hmore
                have hS0 := Lib.hid (And.intro hs0 hs11)
                have hts := text_short HR.out (f.fld j)
                obtain ⟨y, hy⟩ : ∃ y, f.fld j = y := ⟨_, rfl⟩
                rw [hy] at hyp hrk hMORE hS0 hts
                clear hmore hs0 hs11 hsp hmem hy
                obtain ⟨TX, hTX⟩ : ∃ T : ByteArray, T = ⟨(textF y ⟨vb, ks, cv, ky, vl, fl, ex, id, by_, bt, qt⟩).toArray⟩ := ⟨_, rfl⟩
                have hTXs : TX.size ≤ 21 := by rw [hTX]; show (textF y ⟨vb, ks, cv, ky, vl, fl, ex, id, by_, bt, qt⟩).toArray.size ≤ 21; simpa using hts
                have HTXL := Lib.hid (show TX.data.toList = textF y ⟨vb, ks, cv, ky, vl, fl, ex, id, by_, bt, qt⟩ by rw [hTX])
                obtain ⟨T1, hT1⟩ : ∃ T1 : ByteArray, T1 = T ++ ⟨#[32]⟩ := ⟨_, rfl⟩
                obtain ⟨T2, hT2⟩ : ∃ T2 : ByteArray, T2 = T1 ++ TX := ⟨_, rfl⟩
                have r1 : ∀ w : World, (Op.stringOp .add T ⟨#[32]⟩).run Tryd.prog w = .ok (.string T1) w := fun w => by rw [hT1]; exact run_string_add_sum w T _ (by show T.size + 1 ≤ _; omega)
                have r2 : ∀ w : World, (Op.stringOp .add T1 TX).run Tryd.prog w = .ok (.string T2) w := fun w => by rw [hT2]; exact run_string_add_sum w T1 TX (by rw [hT1, ByteArray.size_append, show (⟨#[32]⟩ : ByteArray).size = 1 from rfl]; omega)
                have HT2 := Lib.hid (fun (h : f.spare = 0 ∨ ex ≠ 0) => show T2.data.toList = nm ++ Lib.joinTail [32] (ks ++ took f ⟨vb, ks, cv, ky, vl, fl, ex, id, by_, bt, qt⟩ (j + 1)) from by rw [hT2, hT1, hMORE.out h, ← List.append_assoc]; exact text_word hTL.out HTXL.out)
                replace hT1 := Lib.hid hT1
                replace hT2 := Lib.hid hT2
                have HTX := Lib.hid hTX
                clear hTX
                have hix : ∀ W : World, (Instr.index 9 (.string r) (.int .i64 j)).run Tryd.prog W = .ok (.int .u8 ((lett y).toNat : Int)) W := by
                  intro W
                  rw [run_index_string W 9 r .i64 j (by rfl), dif_pos ⟨by omega, by omega⟩, ← hrk]
                  rfl
                clear hrk hTs hTXs hts hjr
                obtain ⟨⟨a1, a2⟩, ⟨a3, a4⟩, ⟨a5, a6⟩, ⟨a7, a8⟩, a9, a10⟩ := HR.out
                have hwf : IntKind.u64.wrap fl = fl := by simp [IntKind.wrap, IntKind.bits, IntKind.signed]; simp only at a1 a2; omega
                obtain rfl | rfl | rfl | rfl | rfl : y = 1 ∨ y = 2 ∨ y = 3 ∨ y = 4 ∨ y = 5 := by omega
                · skip
                  have hct : ∀ W, Calls Tryd.prog 73 #[.int .u64 fl] W fun e w' => e = .returned (.string TX) ∧ W = w' := fun W => by rw [HTX.out]; exact rtextn fl a1 (by simp only at a2; omega) W
                  have HCT := Lib.hid hct
                  clear hct a1 a2 a3 a4 a5 a6 a7 a8 a9 a10
                  go_wp2_with (go_at_call 73; go_loud ((with_reducible refine (HCT.out _).mono ?_); rintro e w6 ⟨rfl, rfl⟩))
                  go_roundw
                  case rel => exact ⟨j + 1, T2, by omega, by go_num, rfl, Lib.hid (HT2.out (.inl (hS0.out.1 (by decide)))), trivial⟩
                  case measure => simp [intOf]; omega
                · skip
                  have hct : ∀ W, Calls Tryd.prog 74 #[.int .i64 ex] W fun e w' => e = .returned (.string TX) ∧ W = w' := fun W => by rw [HTX.out]; exact rlsgnw ex a3 a4 W
                  have HCT := Lib.hid hct
                  clear hct a1 a2 a3 a4 a5 a6 a7 a8 a9 a10
                  go_wp2_with (go_at_call 74; go_loud ((with_reducible refine (HCT.out _).mono ?_); rintro e w6 ⟨rfl, rfl⟩))
                  go_roundw
                  case rel => exact ⟨j + 1, T2, by omega, by go_num, rfl, Lib.hid (HT2.out (.inl (Classical.byContradiction fun h => H11.out (hS0.out.2.mpr h)))), trivial⟩
                  case measure => simp [intOf]; omega
                · skip
                  have hct : ∀ W, Calls Tryd.prog 74 #[.int .i64 bt] W fun e w' => e = .returned (.string TX) ∧ W = w' := fun W => by rw [HTX.out]; exact rlsgnw bt a5 a6 W
                  have HCT := Lib.hid hct
                  clear hct a1 a2 a3 a4 a5 a6 a7 a8 a9 a10
                  go_wp2_with (go_at_call 74; go_loud ((with_reducible refine (HCT.out _).mono ?_); rintro e w6 ⟨rfl, rfl⟩))
                  go_roundw
                  case rel => exact ⟨j + 1, T2, by omega, by go_num, rfl, Lib.hid (HT2.out (.inl (hS0.out.1 (by decide)))), trivial⟩
                  case measure => simp [intOf]; omega
                · skip
                  have hct : ∀ W, Calls Tryd.prog 73 #[.int .u64 id] W fun e w' => e = .returned (.string TX) ∧ W = w' := fun W => by rw [HTX.out]; exact rtextn id a7 a8 W
                  have HCT := Lib.hid hct
                  clear hct a1 a2 a3 a4 a5 a6 a7 a8 a9 a10
                  go_wp2_with (go_at_call 73; go_loud ((with_reducible refine (HCT.out _).mono ?_); rintro e w6 ⟨rfl, rfl⟩))
                  go_roundw
                  case rel => exact ⟨j + 1, T2, by omega, by go_num, rfl, Lib.hid (HT2.out (.inl (hS0.out.1 (by decide)))), trivial⟩
                  case measure => simp [intOf]; omega
                · skip
                  have hct : ∀ W, Calls Tryd.prog 73 #[.int .u64 by_] W fun e w' => e = .returned (.string TX) ∧ W = w' := fun W => by rw [HTX.out]; exact rtextn by_ a9 a10 W
                  have HCT := Lib.hid hct
                  clear hct a1 a2 a3 a4 a5 a6 a7 a8 a9 a10
                  go_wp2_with (go_at_call 73; go_loud ((with_reducible refine (HCT.out _).mono ?_); rintro e w6 ⟨rfl, rfl⟩))
                  go_roundw
                  case rel => exact ⟨j + 1, T2, by omega, by go_num, rfl, Lib.hid (HT2.out (.inl (hS0.out.1 (by decide)))), trivial⟩
                  case measure => simp [intOf]; omega
              · have hd3 : decide ((j : Int) < (m : Int)) = false := decide_eq_false (by omega)
                have htk := took_all (f := f) (c := ⟨vb, ks, cv, ky, vl, fl, ex, id, by_, bt, qt⟩) (k := j) (by rw [HM.out]; omega)
                have hwr : wrC ⟨vb, ks, cv, ky, vl, fl, ex, id, by_, bt, qt⟩ = nm ++ Lib.joinTail [32] (ks ++ fieldsC f ⟨vb, ks, cv, ky, vl, fl, ex, id, by_, bt, qt⟩ ++ quietC ⟨vb, ks, cv, ky, vl, fl, ex, id, by_, bt, qt⟩) := by
                  unfold wrC
                  simp only [HFA.out.1]
                  show Lib.join (wordsC nm f ⟨vb, ks, cv, ky, vl, fl, ex, id, by_, bt, qt⟩) [32] = _
                  unfold wordsC
                  rw [ll_join]
                rw [htk] at hTL
                have HWR := Lib.hid hwr
                have hBE := HB1.out.trans (hnx.out.mono HB1.out.size)
                clear hwr htk
                cases qt with
                | false =>
                  go_wp2_with fail
                  go_ret
                  refine ⟨?_, hBE⟩
                  refine congrArg (fun s => Ending.returned (Value.string s)) (of_list ?_)
                  rw [HWR.out, hTL.out]
                  simp [quietC]
                | true =>
                  obtain ⟨T3, hT3⟩ : ∃ T1 : ByteArray, T1 = T ++ ⟨#[32, 110, 111, 114, 101, 112, 108, 121]⟩ := ⟨_, rfl⟩
                  have r1 : ∀ w : World, (Op.stringOp .add T ⟨#[32, 110, 111, 114, 101, 112, 108, 121]⟩).run Tryd.prog w = .ok (.string T3) w := fun w => by rw [hT3]; exact run_string_add_sum w T _ (by show T.size + 8 ≤ _; omega)
                  have HT3 := Lib.hid hT3
                  clear hT3
                  go_wp2_with fail
                  go_ret
                  refine ⟨?_, hBE⟩
                  refine congrArg (fun s => Ending.returned (Value.string s)) (of_list ?_)
                  have hqc : quietC ⟨vb, ks, cv, ky, vl, fl, ex, id, by_, bt, true⟩ = [norep] := by simp [quietC]
                  rw [HT3.out, app_list, HWR.out, hTL.out, hqc, tail_snoc]
                  simp [norep]
end Go.Proofs.YtifbcejekdhnlaaDoor
/- Next: Lines: the chapter's line of a command; commands as the document has them. Printed by tools/genll11.py. -/
namespace Go.Proofs.YtifbcejekdhnlaaDoor
open Go.RowKit Go.Maps
set_option linter.unusedVariables false

theorem parse_nil : parseC [] = (Cmd.none, 1) := by decide +kernel
theorem line_wr (c : Cmd) : lineO c = if parseC (wrC c) = (c, 0) then some (wrC c) else none := by
  unfold lineO wrC
  cases hf : formAt c.verb with
  | none =>
    simp only
    rw [parse_nil, if_neg (by intro e; injection e with _ e; omega)]; rfl
  | some x => rfl
theorem wr_short {c : Cmd} (hr : CmR c) (hT : tot c.keys ≤ 1000000) : (wrC c).length ≤ 2000000 := by
  unfold wrC
  cases hf : formAt c.verb with
  | none => simp
  | some x =>
    simp only
    have hin := (formAt_in hf).1
    have h1 := (words_short (n := x.1) (f := x.2) hr (tbF_ok _ hin).len (names_short _ hin)).1
    have h2 : wordsC x.1 x.2 c = x.1 :: (c.keys ++ fieldsC x.2 c ++ quietC c) := rfl
    have h3 := join_tot x.1 (c.keys ++ fieldsC x.2 c ++ quietC c)
    rw [← h2] at h3
    omega
set_option maxHeartbeats 8000000 in
set_option maxRecDepth 100000 in
theorem rlinew (c : Cmd) (A : Option Addr) (n cap : Nat) (w : World) (hvb : c.verb ≤ 255) (hr : CmR c) (hk : KyG w A n cap c.keys) (hn : n ≤ 1000) (hT : tot c.keys ≤ 1000000) :
    Calls Tryd.prog 14 #[.agg (cmdC c (.slice A n cap)).toArray] w (LinePost w c) := by
  have hws := wr_short hr hT
  have hlw := line_wr c
  obtain ⟨vb, ks, cv, ky, vl, fl, ex, id, by_, bt, qt⟩ := c
  simp only at hk hT hvb
  obtain ⟨X1, hX1⟩ : ∃ W1, W1 = w.alloc (.cells #[.int .u8 vb, .slice A n cap, .int .u8 cv, .string ⟨ky.toArray⟩, .string ⟨vl.toArray⟩, .int .u32 fl, .int .i64 ex, .int .u64 id, .int .u64 by_, .int .i64 bt, .bool qt] 34) := ⟨_, rfl⟩
  have HC1 := Lib.hid (show Cb X1 w.heap.size (cmdC ⟨vb, ks, cv, ky, vl, fl, ex, id, by_, bt, qt⟩ (.slice A n cap)) from by rw [hX1]; exact cb_new rfl)
  have HB1 := Lib.hid (show Below w.heap.size w X1 from by rw [hX1]; exact (Below.refl _ _).alloc (Nat.le_refl _) _)
  obtain ⟨x0, x1, x2, x3, x4, x5, x6, x7, x8, x9, x10⟩ := cb_cells HC1.out
  simp only at x0 x1 x2 x3 x4 x5 x6 x7 x8 x9 x10
  have HK1 := Lib.hid (hk.on HB1.out)
  have HW := Lib.hid (rwritten ⟨vb, ks, cv, ky, vl, fl, ex, id, by_, bt, qt⟩ A n cap X1 hvb hr HK1.out hn hT)
  have hml : n ≤ maxLen := by unfold maxLen; omega
  obtain ⟨S, hS⟩ : ∃ S, wrC ⟨vb, ks, cv, ky, vl, fl, ex, id, by_, bt, qt⟩ = S := ⟨_, rfl⟩
  rw [hS] at HW hws hlw
  have hpar : ∀ W, Calls Tryd.prog 11 #[.string ⟨S.toArray⟩] W (IsParR W (parseC S)) := fun W => by
    have q := rparsel ⟨S.toArray⟩ W (by show S.toArray.size ≤ maxLen; simp [maxLen]; omega)
    rwa [show (⟨S.toArray⟩ : ByteArray).data.toList = S by simp] at q
  clear hS hws hk hr hT hvb
  generalize parseC S = pr at hpar hlw
  obtain ⟨⟨vb6, ks6, cv6, ky6, vl6, fl6, ex6, id6, by6, bt6, qt6⟩, t6⟩ := pr
  have HPR := Lib.hid hpar
  have HLW := Lib.hid hlw
  clear hpar hlw
  simp only [cmdC] at HW ⊢
  go_enter Tryd.func14, Tryd.ntmps14
  go_upto_region 1 with fail
  rw [← hX1]
  clear hX1
  go_upto_region 2 with (go_at_call 46; go_loud ((with_reducible refine HW.out.mono ?_); rintro e X4 ⟨rfl, hb4⟩))
  go_upto_region 3 with (go_at_call 11; go_loud ((with_reducible refine (HPR.out _).mono ?_); rintro e X6 ⟨kv6, he6, hk6, hb6⟩; obtain ⟨A6, c6, rfl, -⟩ := (KyS.of_lst (U := fun _ => False) hk6 (fun _ _ _ e => e)).rd.form; have he7 : e = .returned (.tuple #[.agg #[.int .u8 vb6, .slice A6 ks6.length c6, .int .u8 cv6, .string ⟨ky6.toArray⟩, .string ⟨vl6.toArray⟩, .int .u32 fl6, .int .i64 ex6, .int .u64 id6, .int .u64 by6, .int .i64 bt6, .bool qt6], .int .i64 t6]) := he6; subst he7; clear he6))
  have hba : Below X6.heap.size X6 (X6.alloc (.cells #[.int .u8 vb6, .slice A6 ks6.length c6, .int .u8 cv6, .string ⟨ky6.toArray⟩, .string ⟨vl6.toArray⟩, .int .u32 fl6, .int .i64 ex6, .int .u64 id6, .int .u64 by6, .int .i64 bt6, .bool qt6] 34)) := (Below.refl _ _).alloc (Nat.le_refl _) _
  have hD7 : Cb (X6.alloc (.cells #[.int .u8 vb6, .slice A6 ks6.length c6, .int .u8 cv6, .string ⟨ky6.toArray⟩, .string ⟨vl6.toArray⟩, .int .u32 fl6, .int .i64 ex6, .int .u64 id6, .int .u64 by6, .int .i64 bt6, .bool qt6] 34)) X6.heap.size (cmdC ⟨vb6, ks6, cv6, ky6, vl6, fl6, ex6, id6, by6, bt6, qt6⟩ (.slice A6 ks6.length c6)) := cb_new rfl
  have hky6 : KyG X6 A6 ks6.length c6 ks6 := KyG.of (KyS.of_lst (U := fun _ => False) hk6 (fun _ _ _ e => e)).rd
  have hml6 : ks6.length ≤ maxLen := by
    obtain ⟨A', c', e', h1', h2', -⟩ := (KyS.of_lst (U := fun _ => False) hk6 (fun _ _ _ e => e)).rd.form
    exact Nat.le_trans h1' h2'
  have hb7 := (hb4.trans (hb6.mono hb4.size)).trans (hba.mono (Nat.le_trans hb4.size hb6.size))
  have HX7 := Lib.hid (HB1.out.trans (hb7.mono HB1.out.size))
  have hC7 := HC1.out.new hb7
  have HKD := Lib.hid (hky6.on hba)
  generalize X6.alloc _ = X7 at *
  obtain ⟨y0, y1, y2, y3, y4, y5, y6, y7, y8, y9, y10⟩ := cb_cells hC7
  obtain ⟨z0, z1, z2, z3, z4, z5, z6, z7, z8, z9, z10⟩ := cb_cells hD7
  simp only at y0 y1 y2 y3 y4 y5 y6 y7 y8 y9 y10 z0 z1 z2 z3 z4 z5 z6 z7 z8 z9 z10
  have HSM := Lib.hid (rsameG ⟨vb, ks, cv, ky, vl, fl, ex, id, by_, bt, qt⟩ ⟨vb6, ks6, cv6, ky6, vl6, fl6, ex6, id6, by6, bt6, qt6⟩ A A6 n ks6.length cap c6 X7 (HK1.out.on hb7) HKD.out hml hml6)
  simp only [cmdC] at HSM
  clear x0 x1 x2 x3 x4 x5 x6 x7 x8 x9 x10 hba hD7 hC7 hk6 hky6 hml6 hb4 hb6 hb7
  by_cases ht6 : t6 = 0
  · subst ht6
    by_cases hcd : (⟨vb, ks, cv, ky, vl, fl, ex, id, by_, bt, qt⟩ : Cmd) = ⟨vb6, ks6, cv6, ky6, vl6, fl6, ex6, id6, by6, bt6, qt6⟩
    · rw [decide_eq_true hcd] at HSM
      rw [if_pos (by rw [hcd])] at HLW
      go_wp2_with (go_at_call 43; go_loud ((with_reducible refine HSM.out.mono ?_); rintro e X8 ⟨rfl, hb8⟩))
      refine bodyPost_ret (v := .tuple #[.string ⟨S.toArray⟩, .bool true]) (by simp [results, Tryd.results14, go_sem]) rfl ?_
      exact line_is HLW.out (HX7.out.trans (hb8.mono HX7.out.size))
    · rw [decide_eq_false hcd] at HSM
      rw [if_neg (by intro e; injection e with e _; exact hcd e.symm)] at HLW
      go_wp2_with (go_at_call 43; go_loud ((with_reducible refine HSM.out.mono ?_); rintro e X8 ⟨rfl, hb8⟩))
      refine bodyPost_ret (v := .tuple #[.string ⟨#[]⟩, .bool false]) (by simp [results, Tryd.results14, go_sem]) rfl ?_
      exact line_none HLW.out (HX7.out.trans (hb8.mono HX7.out.size))
  · have hte : ((t6 : Int) == 0) = false := beq_eq_false_iff_ne.mpr (by omega)
    rw [if_neg (by intro e; injection e with _ e; exact ht6 e)] at HLW
    go_wp2_with fail
    refine bodyPost_ret (v := .tuple #[.string ⟨#[]⟩, .bool false]) (by simp [results, Tryd.results14, go_sem]) rfl ?_
    exact line_none HLW.out HX7.out
set_option maxHeartbeats 4000000 in
set_option maxRecDepth 100000 in
theorem otherG (c : Cmd) (A : Option Addr) (n cap : Nat) (w : World) :
    Calls Tryd.prog 15 #[.agg (cmdC c (.slice A n cap)).toArray] w fun r w' => r = .returned (.agg (cmdC c (.slice A n cap)).toArray) ∧ Below w.heap.size w w' := by
  obtain ⟨vb, ks, cv, ky, vl, fl, ex, id, by_, bt, qt⟩ := c
  simp only [cmdC]
  go_enter Tryd.func15, Tryd.ntmps15
  go_wp2_with fail
  refine bodyPost_ret (v := .agg #[.int .u8 vb, .slice A n cap, .int .u8 cv, .string ⟨ky.toArray⟩, .string ⟨vl.toArray⟩, .int .u32 fl, .int .i64 ex, .int .u64 id, .int .u64 by_, .int .i64 bt, .bool qt]) (by simp [results, Tryd.results15, go_sem]) rfl ?_
  exact ⟨rfl, ((Below.refl _ _).alloc (Nat.le_refl _) _).alloc (by simp) _⟩
set_option maxHeartbeats 4000000 in
set_option maxRecDepth 100000 in
/-- Equal commands are the same. -/
theorem lsame29G (c : Cmd) (A1 A2 : Option Addr) (n1 k1 k2 : Nat) (w : World) (h1 : KyG w A1 n1 k1 c.keys) (h2 : KyG w A2 n1 k2 c.keys) (hn : n1 ≤ maxLen) :
    Calls Tryd.prog 12 #[.agg (cmdC c (.slice A1 n1 k1)).toArray, .agg (cmdC c (.slice A2 n1 k2)).toArray] w fun r w' => r = .returned (.bool true) ∧ Below w.heap.size w w' := by
  obtain ⟨W2, hW2⟩ : ∃ W2, W2 = (w.alloc (.cells (cmdC c (.slice A1 n1 k1)).toArray 30)).alloc (.cells (cmdC c (.slice A2 n1 k2)).toArray 34) := ⟨_, rfl⟩
  have hb : Below w.heap.size w W2 := by rw [hW2]; exact ((Below.refl _ _).alloc (Nat.le_refl _) _).alloc (by simp) _
  have ho : ∀ W, Below W2.heap.size W2 W → Calls Tryd.prog 15 #[.agg (cmdC c (.slice A1 n1 k1)).toArray] W fun r w' => r = .returned (.agg (cmdC c (.slice A1 n1 k1)).toArray) ∧ Below W.heap.size W w' := fun W hW => otherG c _ _ _ W
  have hs : ∀ W, Below W2.heap.size W2 W → Calls Tryd.prog 43 #[.agg (cmdC c (.slice A1 n1 k1)).toArray, .agg (cmdC c (.slice A2 n1 k2)).toArray] W fun r w' => r = .returned (.bool true) ∧ Below W.heap.size W w' := fun W hW => by
    have q := rsameG c c A1 A2 n1 n1 k1 k2 W ((h1.on hb).on hW) ((h2.on hb).on hW) hn hn
    rwa [decide_eq_true rfl] at q
  have HB := Lib.hid hb
  have HO := Lib.hid ho
  have HS := Lib.hid hs
  have hC1 : Cb W2 w.heap.size (cmdC c (.slice A1 n1 k1)) := by rw [hW2]; exact (cb_new rfl).new ((Below.refl _ _).alloc (Nat.le_refl _) _)
  have hC2 : Cb W2 (w.heap.size + 1) (cmdC c (.slice A2 n1 k2)) := by rw [hW2]; have := cb_new (W := w.alloc (.cells (cmdC c (.slice A1 n1 k1)).toArray 30)) (C := (cmdC c (.slice A2 n1 k2)).toArray) (T := 34) (L := cmdC c (.slice A2 n1 k2)) rfl; rwa [World.size_alloc] at this
  obtain ⟨vb, ks, cv, ky, vl, fl, ex, id, by_, bt, qt⟩ := c
  simp only [cmdC] at hW2 HO HS ⊢
  have hcells : ∀ X, Below W2.heap.size W2 X → (X.cell? ⟨w.heap.size, 0, none⟩ = some (.int .u8 vb) ∧ X.cell? ⟨w.heap.size, 1, none⟩ = some (.slice A1 n1 k1) ∧ X.cell? ⟨w.heap.size, 2, none⟩ = some (.int .u8 cv) ∧ X.cell? ⟨w.heap.size, 3, none⟩ = some (.string ⟨ky.toArray⟩) ∧ X.cell? ⟨w.heap.size, 4, none⟩ = some (.string ⟨vl.toArray⟩) ∧ X.cell? ⟨w.heap.size, 5, none⟩ = some (.int .u32 fl) ∧ X.cell? ⟨w.heap.size, 6, none⟩ = some (.int .i64 ex) ∧ X.cell? ⟨w.heap.size, 7, none⟩ = some (.int .u64 id) ∧ X.cell? ⟨w.heap.size, 8, none⟩ = some (.int .u64 by_) ∧ X.cell? ⟨w.heap.size, 9, none⟩ = some (.int .i64 bt) ∧ X.cell? ⟨w.heap.size, 10, none⟩ = some (.bool qt) ∧ X.cell? ⟨w.heap.size + 1, 0, none⟩ = some (.int .u8 vb) ∧ X.cell? ⟨w.heap.size + 1, 1, none⟩ = some (.slice A2 n1 k2) ∧ X.cell? ⟨w.heap.size + 1, 2, none⟩ = some (.int .u8 cv) ∧ X.cell? ⟨w.heap.size + 1, 3, none⟩ = some (.string ⟨ky.toArray⟩) ∧ X.cell? ⟨w.heap.size + 1, 4, none⟩ = some (.string ⟨vl.toArray⟩) ∧ X.cell? ⟨w.heap.size + 1, 5, none⟩ = some (.int .u32 fl) ∧ X.cell? ⟨w.heap.size + 1, 6, none⟩ = some (.int .i64 ex) ∧ X.cell? ⟨w.heap.size + 1, 7, none⟩ = some (.int .u64 id) ∧ X.cell? ⟨w.heap.size + 1, 8, none⟩ = some (.int .u64 by_) ∧ X.cell? ⟨w.heap.size + 1, 9, none⟩ = some (.int .i64 bt) ∧ X.cell? ⟨w.heap.size + 1, 10, none⟩ = some (.bool qt)) := fun X hX => by
    obtain ⟨x0, x1, x2, x3, x4, x5, x6, x7, x8, x9, x10⟩ := cb_cells (hC1.new hX)
    obtain ⟨y0, y1, y2, y3, y4, y5, y6, y7, y8, y9, y10⟩ := cb_cells (hC2.new hX)
    exact ⟨x0, x1, x2, x3, x4, x5, x6, x7, x8, x9, x10, y0, y1, y2, y3, y4, y5, y6, y7, y8, y9, y10⟩
  have HCE := Lib.hid hcells
  clear ho hs hb h1 h2 hC1 hC2 hcells
  go_enter Tryd.func12, Tryd.ntmps12
  go_upto_region 1 with fail
  rw [← hW2]
  clear hW2
  have hb2 : Below W2.heap.size W2 W2.drew := (Below.refl _ _).drew
  have hd := HCE.out _ hb2
  go_region_held3 (fun X => X.cell? ⟨w.heap.size, 0, none⟩ = some (.int .u8 vb) ∧ X.cell? ⟨w.heap.size, 1, none⟩ = some (.slice A1 n1 k1) ∧ X.cell? ⟨w.heap.size, 2, none⟩ = some (.int .u8 cv) ∧ X.cell? ⟨w.heap.size, 3, none⟩ = some (.string ⟨ky.toArray⟩) ∧ X.cell? ⟨w.heap.size, 4, none⟩ = some (.string ⟨vl.toArray⟩) ∧ X.cell? ⟨w.heap.size, 5, none⟩ = some (.int .u32 fl) ∧ X.cell? ⟨w.heap.size, 6, none⟩ = some (.int .i64 ex) ∧ X.cell? ⟨w.heap.size, 7, none⟩ = some (.int .u64 id) ∧ X.cell? ⟨w.heap.size, 8, none⟩ = some (.int .u64 by_) ∧ X.cell? ⟨w.heap.size, 9, none⟩ = some (.int .i64 bt) ∧ X.cell? ⟨w.heap.size, 10, none⟩ = some (.bool qt) ∧ X.cell? ⟨w.heap.size + 1, 0, none⟩ = some (.int .u8 vb) ∧ X.cell? ⟨w.heap.size + 1, 1, none⟩ = some (.slice A2 n1 k2) ∧ X.cell? ⟨w.heap.size + 1, 2, none⟩ = some (.int .u8 cv) ∧ X.cell? ⟨w.heap.size + 1, 3, none⟩ = some (.string ⟨ky.toArray⟩) ∧ X.cell? ⟨w.heap.size + 1, 4, none⟩ = some (.string ⟨vl.toArray⟩) ∧ X.cell? ⟨w.heap.size + 1, 5, none⟩ = some (.int .u32 fl) ∧ X.cell? ⟨w.heap.size + 1, 6, none⟩ = some (.int .i64 ex) ∧ X.cell? ⟨w.heap.size + 1, 7, none⟩ = some (.int .u64 id) ∧ X.cell? ⟨w.heap.size + 1, 8, none⟩ = some (.int .u64 by_) ∧ X.cell? ⟨w.heap.size + 1, 9, none⟩ = some (.int .i64 bt) ∧ X.cell? ⟨w.heap.size + 1, 10, none⟩ = some (.bool qt))
    (first | exact hd | exact he)
    (first
      | (go_at_call 15; refine (HO.out _ hb2).mono ?_; rintro e W3 ⟨rfl, hb3⟩; have hb23 := hb2.trans (hb3.mono hb2.size); have he := HCE.out _ hb23)
      | (go_at_call 43; refine (HS.out _ hb23).mono ?_; rintro e W4 ⟨rfl, hb4⟩; have he := HCE.out _ (hb23.trans (hb4.mono hb23.size))))
  all_goals
    go_wp2_with fail
    refine bodyPost_ret (v := .bool true) (by simp [results, Tryd.results12, go_sem]) rfl ?_
    exact ⟨rfl, HB.out.trans ((hb23.trans (hb4.mono hb23.size)).mono HB.out.size)⟩
end Go.Proofs.YtifbcejekdhnlaaDoor
