/- The chapter's feeds: where a line ends; its command. -/
import Derived.Test.YteoeelhljimibaaGLr
import Derived.Test.YteoeelhljimibaaReM
import Derived.Test.YteoeelhljimibaaBy2
import Derived.Laws.Slices
import Derived.Test.YteoeelhljimibaaGFy
import Derived.Maps.AppendAt
import Derived.Deep.AppendLies
import Derived.Deep.RegionLaw
import Derived.StillTailTactics
namespace Go.Proofs.Yteoeelhljimibaa
open Go.RowKit Go.Maps
set_option linter.unusedVariables false

theorem wpList_cut_lh {P : Program} {ops : Array Oper} {rest : List Oper} {o : Oper} {a : Act} {w : World} {Q : Exit → Act → World → Prop} (hgd : o.guard = none) (t e : TypeId) (x y z : Operand) (ho : o.op = .slice t x (some y) (some z) none) (ht : P.underlying t = some (.slice e)) (hsz : (P.info? e).map (·.size) = some 1)
    (A : Option Addr) (m c n h : Nat) (hx : a.eval x = .slice A m c) (hy : a.eval y = .int .i64 n) (hz : a.eval z = .int .i64 h) (hn : n ≤ h) (hh : h ≤ c)
    (hK : wpList P ops Q rest (a.put o.dst (.slice (cutA A n c) (h - n) (c - n))) w) : wpList P ops Q (o :: rest) a w := by
  have hel : P.elem t = e := by simp [Program.elem, ht]
  refine wpList_plain hgd fun K hK' => ?_
  have hr : (Instr.sliceAt t (.slice A m c) (some (.int .i64 (n : Int))) (some (.int .i64 (h : Int))) none).run P w = .ok (.slice (cutA A n c) (h - n) (c - n)) w := by
    rw [run_sliceAt_slice w t _ _ _ _ (by rw [hel]; exact ht), run_slice_lh w t A m c (by rw [hel]; exact ht) .i64 .i64 (n : Int) (h : Int) (by omega) (by omega) (by omega), hel]
    simp only [run_size_one w hsz, Result.andThen, sliced, Int.toNat_natCast, Nat.mul_one, cutA]
  unfold Oper.wp execOp
  simp only [ho, Sem.run_bind, Sem.run_pure, Result.andThen_ok, Option.map_some, Option.map_none, hx, hy, hz, hr]
  exact hK' _ _ hK
theorem lead_drop {L : List UInt8} {k : Nat} {b : UInt8} (hk : k < L.length) (hb : L[k] = b) : leadF (L.drop k) = if b = 10 then 0 else leadF (L.drop (k + 1)) + 1 := by
  rw [List.drop_eq_getElem_cons hk, hb]
  rfl
set_option maxHeartbeats 1000000 in
theorem tow (A : Option Addr) (c : Nat) (L : List UInt8) (fr : Nat) (w : World) (hr : Rd w w.heap.size A L) (hc : L.length ≤ c) (hl : L.length ≤ 1048576) (hf : fr ≤ L.length) :
    Calls Try.prog 33 #[.slice A L.length c, .int .i64 fr] w fun e w' => e = .returned (.int .i64 (fr + leadF (L.drop fr) : Nat)) ∧ w = w' := by
  obtain ⟨m, hm⟩ : ∃ m, L.length = m := ⟨_, rfl⟩
  rw [hm] at hc hl hf ⊢
  have HM := Lib.hid hm
  have HR := Lib.hid hr
  obtain ⟨t, ht⟩ : ∃ t, t = fr + leadF (L.drop fr) := ⟨_, rfl⟩
  have HT := Lib.hid ht
  clear hm hr
  rw [← ht]
  clear ht
  go_enter Try.func33, Try.ntmps33
  go_wp2_with fail
  go_loopw [1] (fun i wr => ∃ k : Nat, k ≤ m ∧ i = .int .i64 k ∧ wr = w ∧ Hid (k + leadF (L.drop k) = t)) (fun i _ => m - (intOf i).toNat)
  case atStart => exact ⟨fr, hf, rfl, rfl, HT.out.symm⟩
  case round =>
    obtain ⟨k, hk, rfl, rfl, hK⟩ := hrel
    by_cases hlt : k < m
    · have hkL : k < L.length := by rw [HM.out]; exact hlt
      obtain ⟨g, off, rfl, hg, hcell⟩ := HR.out (by omega)
      have cx := hcell k hkL
      have hd : decide ((k : Int) < (m : Int)) = true := decide_eq_true (by omega)
      obtain ⟨b, hb⟩ : ∃ b, L[k] = b := ⟨_, rfl⟩
      rw [hb] at cx
      have hl2 := lead_drop hkL hb
      by_cases h10 : b = 10
      · have e : ((b.toNat : Int) != 10) = false := by rw [h10]; rfl
        rw [if_pos h10] at hl2
        have HE := Lib.hid (show t = k by rw [← hK.out, hl2]; rfl)
        clear hcell hb hl2 h10 hkL hK
        go_wp2_with fail
        go_ret
        exact ⟨by rw [HE.out]; rfl, rfl⟩
      · have e : ((b.toNat : Int) != 10) = true := bne_iff_ne.mpr (fun e => h10 (UInt8.toNat_inj.mp (by show b.toNat = 10; omega)))
        rw [if_neg h10] at hl2
        have HE := Lib.hid (show k + 1 + leadF (L.drop (k + 1)) = t by rw [← hK.out, hl2]; omega)
        clear hcell hb hl2 h10 hkL hK
        go_wp2_with fail
        go_roundw
        case rel => exact ⟨k + 1, by omega, by go_num, trivial, HE.out⟩
        case measure => simp [intOf]; omega
    · obtain rfl : k = m := by omega
      have hd : decide ((k : Int) < (k : Int)) = false := decide_eq_false (by omega)
      have HE := Lib.hid (show t = k by rw [← hK.out, List.drop_eq_nil_of_le (by rw [HM.out]; exact Nat.le_refl _)]; rfl)
      clear hK
      go_wp2_with fail
      go_ret
      exact ⟨by rw [HE.out]; rfl, rfl⟩
set_option maxHeartbeats 1000000 in
theorem rlinew (A : Option Addr) (c : Nat) (L : List UInt8) (fr : Nat) (w : World) (hr : Rd w w.heap.size A L) (hc : L.length ≤ c) (hl : L.length ≤ 1048576) (hf : fr ≤ L.length) :
    Calls Try.prog 31 #[.slice A L.length c, .int .i64 fr] w fun e w' => e = .returned (.tuple #[.int .i64 (fr + leadF (L.drop fr) + 1 : Nat), .bool (decide (2048 < leadF (L.drop fr))), .bool (decide (2048 < leadF (L.drop fr)) || decide (fr + leadF (L.drop fr) < L.length))]) ∧ w = w' := by
  have HT := Lib.hid (tow A c L fr w hr hc hl hf)
  have hle := leadF_le (L.drop fr)
  rw [List.length_drop] at hle
  obtain ⟨m, hm⟩ : ∃ m, L.length = m := ⟨_, rfl⟩
  rw [hm] at hc hl hf hle HT ⊢
  obtain ⟨k, hk⟩ : ∃ k, k = leadF (L.drop fr) := ⟨_, rfl⟩
  rw [← hk] at hle HT ⊢
  clear hr hm hk
  obtain ⟨t, ht⟩ : ∃ t, t = fr + k := ⟨_, rfl⟩
  rw [← ht] at HT ⊢
  have hw : IntKind.i64.wrap ((t : Int) - (fr : Int)) = (t : Int) - fr := IntWalk.i64_in _ (by omega)
  have hw2 : IntKind.i64.wrap ((t : Int) + 1) = (t : Int) + 1 := IntWalk.i64_in _ (by omega)
  have HTT := Lib.hid ht
  by_cases h : 2048 < k
  · have d : decide ((2048 : Int) < (t : Int) - fr) = true := decide_eq_true (by omega)
    have HD := Lib.hid (show decide (2048 < k) = true from decide_eq_true h)
    clear h ht
    go_enter Try.func31, Try.ntmps31
    go_wp2_with (go_at_call 33; refine HT.out.mono ?_; rintro e w1 ⟨rfl, rfl⟩)
    refine bodyPost_ret (v := .tuple #[.int .i64 (t + 1 : Nat), .bool true, .bool true]) (by simp [results, Try.results31, go_sem]) rfl ?_
    exact ⟨by rw [HD.out]; rfl, rfl⟩
  · have d : decide ((2048 : Int) < (t : Int) - fr) = false := decide_eq_false (by omega)
    have HD := Lib.hid (show decide (2048 < k) = false from decide_eq_false h)
    clear h ht
    go_enter Try.func31, Try.ntmps31
    go_wp2_with (go_at_call 33; refine HT.out.mono ?_; rintro e w1 ⟨rfl, rfl⟩)
    refine bodyPost_ret (v := .tuple #[.int .i64 (t + 1 : Nat), .bool false, .bool (decide (t < m))]) (by simp [results, Try.results31, go_sem]) rfl ?_
    exact ⟨by rw [HD.out]; rfl, rfl⟩
/-- Bytes, and their last one. -/
theorem cutCr_no {x : List UInt8} (h : ¬ x.getLast? = some 13) : cutCr x = x := by unfold cutCr; rw [if_neg h]
theorem cutCr_yes {x : List UInt8} (h : x.getLast? = some 13) : cutCr x = x.take (x.length - 1) := by unfold cutCr; rw [if_pos h, List.dropLast_eq_take]
theorem last_at {x : List UInt8} {k : Nat} (hx : x.length = k + 1) : ∃ y, x.getLast? = some y ∧ ∀ h : k < x.length, x[k] = y := by
  have hk : k < x.length := by omega
  refine ⟨x[k], ?_, fun _ => rfl⟩
  rw [List.getLast?_eq_getElem?, hx, Nat.add_sub_cancel, List.getElem?_eq_getElem hk]
/-- What a parse leaves, behind the result's block. -/
theorem isParR_over {w W W1 W2 : World} {p : Cmd × Nat} {kv : Value} (hb : Below w.heap.size w W) (hlt : w.heap.size < W.heap.size) (hL : KeysAt W1 W.heap.size kv p.1.keys) (hb1 : Below W.heap.size W W1) (hk : Keeps (fun k => k = w.heap.size) W1 W2) : IsParR w p (.returned (.tuple #[.agg (cmdC p.1 kv).toArray, .int .i64 (p.2 : Nat)])) W2 :=
  ⟨kv, rfl, (hL.keep hk (fun g hg e => by omega)).mono (by omega), par_below (hb.trans (hb1.mono hb.size)) hk⟩
theorem res_below (w : World) : Below w.heap.size w (w.alloc (.cells #[.int .u8 0, .slice none 0 0, .int .u8 0, .string ⟨#[]⟩, .string ⟨#[]⟩, .int .u32 0, .int .i64 0, .int .u64 0, .int .u64 0, .int .i64 0, .bool false] 54)) := (Below.refl _ _).alloc (Nat.le_refl _) _
set_option maxHeartbeats 2000000 in
set_option maxRecDepth 100000 in
theorem rparsedw (A : Option Addr) (c : Nat) (L : List UInt8) (fr k e : Nat) (w : World) (hr : Rd w w.heap.size A L) (hc : L.length ≤ c) (hl : L.length ≤ 1048576) (hf : fr + k ≤ L.length) (he : e = fr + k + 1) :
    Calls Try.prog 32 #[.slice A L.length c, .int .i64 fr, .int .i64 e] w (IsParR w (parseC (cutCr ((L.drop fr).take k)))) := by
  have hsz : (Try.prog.info? 5).map (·.size) = some 1 := by kernel_rfl
  obtain ⟨x, hx⟩ : ∃ x, x = (L.drop fr).take k := ⟨_, rfl⟩
  have hxl : x.length = k := by rw [hx, List.length_take, List.length_drop]; omega
  have hrx : Rd w w.heap.size (cutA A fr c) x := by rw [hx]; exact (hr.past fr c hc).cut k
  rw [← hx]
  obtain ⟨m, hm⟩ : ∃ m, L.length = m := ⟨_, rfl⟩
  rw [hm] at hc hl hf ⊢
  obtain ⟨W, hW⟩ : ∃ W, W = w.alloc (.cells #[.int .u8 0, .slice none 0 0, .int .u8 0, .string ⟨#[]⟩, .string ⟨#[]⟩, .int .u32 0, .int .i64 0, .int .u64 0, .int .u64 0, .int .i64 0, .bool false] 54) := ⟨_, rfl⟩
  have hbW : Below w.heap.size w W := by rw [hW]; exact res_below w
  have hres : Cb W w.heap.size (cmdC Cmd.none (.slice none 0 0)) := by rw [hW]; exact res_newR w
  have hltW : w.heap.size < W.heap.size := by rw [hW]; simp
  have hrW : Rd W W.heap.size (cutA A fr c) x := (hrx.below hbW (Nat.le_refl _)).mono hbW.size
  obtain ⟨n1, hn1⟩ : ∃ n1, n1 = fr + k := ⟨_, rfl⟩
  have hz : IntKind.i64.wrap ((e : Int) - 1) = (n1 : Int) := by rw [show (e : Int) - 1 = (n1 : Int) by omega]; exact IntWalk.i64_in _ (by omega)
  have hn1a : fr ≤ n1 := by omega
  have hn1c : n1 ≤ c := by omega
  have HW := Lib.hid hW
  have HBW := Lib.hid hbW
  have HRES := Lib.hid hres
  clear hm hx hr hrx hW hbW hres he
  obtain ⟨A1, hA1⟩ : ∃ A1, A1 = cutA A fr c := ⟨_, rfl⟩
  rw [← hA1] at hrW
  have HA1 := Lib.hid hA1
  have hcc : k ≤ c - fr := by omega
  obtain ⟨c1, hc1⟩ : ∃ c1, c1 = c - fr := ⟨_, rfl⟩
  rw [← hc1] at hcc
  have HC1 := Lib.hid hc1
  have hkf : n1 - fr = k := by omega
  have HKF := Lib.hid hkf
  clear hA1 hc1 hkf hn1
  cases k with
  | zero =>
    have hx0 : x = [] := List.eq_nil_of_length_eq_zero hxl
    have hcv := conv_by (P := Try.prog) W 24 9 5 (by kernel_rfl) (by kernel_rfl) (by kernel_rfl) c1 (Rd.nil W W.heap.size A1)
    have HP0 := rparsel ⟨#[]⟩ W (by simp [maxLen, ByteArray.size])
    obtain ⟨p, hp⟩ : ∃ p, p = parseC (cutCr x) := ⟨_, rfl⟩
    have HP : Hid (Calls Try.prog 36 #[.string ⟨#[]⟩] W (IsParR W p)) := by rw [hp, hx0]; exact HP0
    have HX := Lib.hid (show parseC (cutCr x) = p from hp.symm)
    clear hp HP0
    simp only [List.length_nil] at hcv
    clear hx0 hxl hrW
    go_enter Try.func32, Try.ntmps32
    go_upto_region 1 with (fail)
    generalize hWW : w.alloc _ = X'
    obtain rfl : X' = W := by rw [HW.out, ← hWW]
    clear hWW
    go_wp2_with (first
      | (refine wpList_cut_lh rfl 24 5 (.tmp 9) (.tmp 10) (.tmp 12) rfl Try.underlying24 hsz A m c fr n1 rfl rfl (by first | rfl | exact congrArg (Value.int .i64) hz) hn1a hn1c ?_; rw [HKF.out, ← HA1.out, ← HC1.out])
      | (go_at_call 36; refine HP.out.mono ?_; rintro e w1 ⟨kv, rfl, hL, hb1⟩; have HR1 := Lib.hid (HRES.out.new hb1); have h1v := lst_one hL; have HL := Lib.hid hL; have HB1 := Lib.hid hb1; clear hL hb1)
      | (refine wpList_cmdR rfl (.tmp 6) (.tmp 34) rfl w.heap.size Cmd.none (.slice none 0 0) p.1 kv HR1.out h1v rfl rfl ?_; intro W2 hC2 hK2; obtain ⟨r0, r1, r2, r3, r4, r5, r6, r7, r8, r9, r10⟩ := cb_cells hC2))
    refine bodyPost_ret (v := .tuple #[.agg (cmdC (p).1 kv).toArray, .int .i64 (p).2]) (by simp [results, Try.results32, go_sem, cmdC, r0, r1, r2, r3, r4, r5, r6, r7, r8, r9, r10]) rfl ?_
    rw [HX.out]
    exact isParR_over HBW.out hltW HL.out HB1.out hK2
  | succ k =>
    obtain ⟨y, hy, hyk⟩ := last_at hxl
    obtain ⟨g, off, rfl, hg, hcell⟩ := hrW (by omega)
    have cx := hcell k (by omega)
    rw [hyk] at cx
    have hz2 : IntKind.i64.wrap (((k + 1 : Nat) : Int) - 1) = (k : Int) := by rw [show ((k + 1 : Nat) : Int) - 1 = (k : Int) by omega]; exact IntWalk.i64_in _ (by omega)
    have hz3 : IntKind.i64.wrap ((k : Int) + 1 - 1) = (k : Int) := by rw [show (k : Int) + 1 - 1 = (k : Int) by omega]; exact IntWalk.i64_in _ (by omega)
    by_cases h13 : y = 13
    · have e1 : ((y.toNat : Int) == 13) = true := by rw [h13]; rfl
      have hcut : cutCr x = x.take k := by rw [cutCr_yes (by rw [hy, h13]), hxl]; rfl
      have hcv := conv_by (P := Try.prog) W 24 9 5 (by kernel_rfl) (by kernel_rfl) (by kernel_rfl) c1 (hrW.cut k)
      rw [List.length_take, hxl, show min k (k + 1) = k by omega, ← hcut] at hcv
      have HP0 := rparsel ⟨(cutCr x).toArray⟩ W (by rw [hcut]; simp [maxLen, ByteArray.size, List.length_take]; omega)
      obtain ⟨p, hp⟩ : ∃ p, p = parseC (cutCr x) := ⟨_, rfl⟩
      have HP : Hid (Calls Try.prog 36 #[.string ⟨(cutCr x).toArray⟩] W (IsParR W p)) := by rw [hp]; exact HP0
      have HX := Lib.hid (show parseC (cutCr x) = p from hp.symm)
      clear hp HP0 hcut h13 hcell hyk hy hrW hg hxl
      go_enter Try.func32, Try.ntmps32
      go_upto_region 1 with (fail)
      generalize hWW : w.alloc _ = X'
      obtain rfl : X' = W := by rw [HW.out, ← hWW]
      clear hWW
      go_wp2_with (first
        | (refine wpList_cut_lh rfl 24 5 (.tmp 9) (.tmp 10) (.tmp 12) rfl Try.underlying24 hsz A m c fr n1 rfl rfl (by first | rfl | exact congrArg (Value.int .i64) hz) hn1a hn1c ?_; rw [HKF.out, ← HA1.out, ← HC1.out])
        | (refine wpList_cut_hi rfl 24 5 (.tmp 26) (.tmp 29) rfl Try.underlying24 hsz A1 (k + 1) c1 k rfl (by first | rfl | exact congrArg (Value.int .i64) hz3) (by omega) ?_)
        | (go_at_call 36; refine HP.out.mono ?_; rintro e w1 ⟨kv, rfl, hL, hb1⟩; have HR1 := Lib.hid (HRES.out.new hb1); have h1v := lst_one hL; have HL := Lib.hid hL; have HB1 := Lib.hid hb1; clear hL hb1)
        | (refine wpList_cmdR rfl (.tmp 6) (.tmp 34) rfl w.heap.size Cmd.none (.slice none 0 0) p.1 kv HR1.out h1v rfl rfl ?_; intro W2 hC2 hK2; obtain ⟨r0, r1, r2, r3, r4, r5, r6, r7, r8, r9, r10⟩ := cb_cells hC2))
      refine bodyPost_ret (v := .tuple #[.agg (cmdC (p).1 kv).toArray, .int .i64 (p).2]) (by simp [results, Try.results32, go_sem, cmdC, r0, r1, r2, r3, r4, r5, r6, r7, r8, r9, r10]) rfl ?_
      rw [HX.out]
      exact isParR_over HBW.out hltW HL.out HB1.out hK2
    · have e1 : ((y.toNat : Int) == 13) = false := beq_eq_false_iff_ne.mpr (fun e => h13 (UInt8.toNat_inj.mp (by show y.toNat = 13; omega)))
      have hcut : cutCr x = x := cutCr_no (by rw [hy]; simpa using h13)
      have hcv := conv_by (P := Try.prog) W 24 9 5 (by kernel_rfl) (by kernel_rfl) (by kernel_rfl) c1 hrW
      rw [hxl, ← hcut] at hcv
      have HP0 := rparsel ⟨(cutCr x).toArray⟩ W (by rw [hcut]; simp [maxLen, ByteArray.size]; omega)
      obtain ⟨p, hp⟩ : ∃ p, p = parseC (cutCr x) := ⟨_, rfl⟩
      have HP : Hid (Calls Try.prog 36 #[.string ⟨(cutCr x).toArray⟩] W (IsParR W p)) := by rw [hp]; exact HP0
      have HX := Lib.hid (show parseC (cutCr x) = p from hp.symm)
      clear hp HP0 hcut h13 hcell hyk hy hrW hg hxl
      go_enter Try.func32, Try.ntmps32
      go_upto_region 1 with (fail)
      generalize hWW : w.alloc _ = X'
      obtain rfl : X' = W := by rw [HW.out, ← hWW]
      clear hWW
      go_wp2_with (first
        | (refine wpList_cut_lh rfl 24 5 (.tmp 9) (.tmp 10) (.tmp 12) rfl Try.underlying24 hsz A m c fr n1 rfl rfl (by first | rfl | exact congrArg (Value.int .i64) hz) hn1a hn1c ?_; rw [HKF.out, ← HA1.out, ← HC1.out])
        | (refine wpList_cut_hi rfl 24 5 (.tmp 26) (.tmp 29) rfl Try.underlying24 hsz A1 (k + 1) c1 k rfl (by first | rfl | exact congrArg (Value.int .i64) hz3) (by omega) ?_)
        | (go_at_call 36; refine HP.out.mono ?_; rintro e w1 ⟨kv, rfl, hL, hb1⟩; have HR1 := Lib.hid (HRES.out.new hb1); have h1v := lst_one hL; have HL := Lib.hid hL; have HB1 := Lib.hid hb1; clear hL hb1)
        | (refine wpList_cmdR rfl (.tmp 6) (.tmp 34) rfl w.heap.size Cmd.none (.slice none 0 0) p.1 kv HR1.out h1v rfl rfl ?_; intro W2 hC2 hK2; obtain ⟨r0, r1, r2, r3, r4, r5, r6, r7, r8, r9, r10⟩ := cb_cells hC2))
      refine bodyPost_ret (v := .tuple #[.agg (cmdC (p).1 kv).toArray, .int .i64 (p).2]) (by simp [results, Try.results32, go_sem, cmdC, r0, r1, r2, r3, r4, r5, r6, r7, r8, r9, r10]) rfl ?_
      rw [HX.out]
      exact isParR_over HBW.out hltW HL.out HB1.out hK2
end Go.Proofs.Yteoeelhljimibaa
/- Next: The chapter's feeds: how its events lie; an event more. -/
namespace Go.Proofs.Yteoeelhljimibaa
open Go.RowKit Go.Maps
set_option linter.unusedVariables false

/-- The chapter's event: thirteen cells. -/
def evCR (e : Ev) (kv : Value) : List Value := cmdC e.cmd kv ++ [.string ⟨e.data.toArray⟩, .int .i64 (e.told : Nat)]
theorem evCR_len (e : Ev) (kv : Value) : (evCR e kv).length = 13 := rfl
def rowsR : List (Ev × Value) → List Value
  | [] => []
  | p :: ps => evCR p.1 p.2 ++ rowsR ps
theorem rowsR_app : ∀ (ps qs : List (Ev × Value)), rowsR (ps ++ qs) = rowsR ps ++ rowsR qs
  | [], qs => rfl
  | p :: ps, qs => by
    show evCR p.1 p.2 ++ rowsR (ps ++ qs) = (evCR p.1 p.2 ++ rowsR ps) ++ rowsR qs
    rw [rowsR_app ps qs, List.append_assoc]
theorem rowsR_len : ∀ ps : List (Ev × Value), (rowsR ps).length = ps.length * 13
  | [] => rfl
  | p :: ps => by
    show (evCR p.1 p.2 ++ rowsR ps).length = _
    rw [List.length_append, rowsR_len ps, evCR_len, List.length_cons]; omega
theorem rowsR_at : ∀ (ps : List (Ev × Value)) (k j : Nat) (p : Ev × Value) (u : Value), ps[k]? = some p → (evCR p.1 p.2)[j]? = some u → (rowsR ps)[k * 13 + j]? = some u
  | [], k, j, p, u, h, hu => by simp at h
  | q :: ps, 0, j, p, u, h, hu => by
    simp only [List.getElem?_cons_zero, Option.some.injEq] at h
    subst h
    show (evCR q.1 q.2 ++ rowsR ps)[0 * 13 + j]? = some u
    rw [Nat.zero_mul, Nat.zero_add, List.getElem?_append_left]
    · exact hu
    · exact (List.getElem?_eq_some_iff.mp hu).1
  | q :: ps, k + 1, j, p, u, h, hu => by
    simp only [List.getElem?_cons_succ] at h
    show (evCR q.1 q.2 ++ rowsR ps)[(k + 1) * 13 + j]? = some u
    rw [List.getElem?_append_right (by rw [evCR_len]; omega), evCR_len, show (k + 1) * 13 + j - 13 = k * 13 + j by omega]
    exact rowsR_at ps k j p u h hu
theorem evCR_one {e : Ev} {kv : Value} (h2 : kv.oneCell' = true) : ∀ u ∈ evCR e kv, u.oneCell' = true := by
  intro v hv'
  simp only [evCR, cmdC, List.cons_append, List.nil_append, List.mem_cons, List.not_mem_nil, or_false] at hv'
  rcases hv' with rfl | rfl | rfl | rfl | rfl | rfl | rfl | rfl | rfl | rfl | rfl | rfl | rfl
  all_goals first | exact h2 | rfl
/-- Keys that can be read: blocks whose head is no text turn. -/
theorem KyR.other {W W' : World} {kv : Value} {l : List (List UInt8)} {T : Nat → Prop} (h : KyR W kv l) (hk : Keeps T W W') (hT : ∀ g, T g → ∀ x, W.cell? ⟨g, 0, none⟩ ≠ some (.string x)) : KyR W' kv l := by
  obtain ⟨A, c, e, h1, h2, h3⟩ := h.form
  refine ⟨A, c, e, h1, h2, fun k x hx => ?_⟩
  obtain ⟨g, e2, hg, hc⟩ := h3 k x hx
  obtain ⟨y, hy⟩ : ∃ y, l[0]? = some y := ⟨_, List.getElem?_eq_getElem (by have := (List.getElem?_eq_some_iff.mp hx).1; omega)⟩
  obtain ⟨g', e3, hg', hc'⟩ := h3 0 y hy
  rw [e2] at e3
  injection e3 with e3
  injection e3 with e3 _
  subst e3
  exact ⟨g, e2, Nat.lt_of_lt_of_le hg hk.size, hk.cell (p := ⟨g, k, none⟩) (fun t => hT g t _ hc') hc⟩
theorem KyR.nil (W : World) : KyR W (.slice none 0 0) [] := ⟨⟨none, 0, rfl, by simp, by simp [maxLen], fun k x h => by simp at h⟩⟩
theorem KyR.of_keys {W : World} {B : Nat} {kv : Value} {l : List (List UInt8)} (h : KeysAt W B kv l) : KyR W kv l := (KyS.of_lst (U := fun _ => False) h (fun _ _ _ e => e)).rd
theorem KyR.one {W : World} {kv : Value} {l : List (List UInt8)} (h : KyR W kv l) : kv.oneCell' = true := by
  obtain ⟨A, c, rfl, _⟩ := h.form
  rfl
/-- Events told so far, in a list of the call's own. -/
structure RvS (w W : World) (v : Value) (ps : List (Ev × Value)) : Prop where
  row : W.ownsRow w.heap.size 56 13 v ps.length (rowsR ps)
  keys : ∀ p ∈ ps, KyR W p.2 p.1.cmd.keys
  nil : ps = [] → v = .slice none 0 0
  base : Below w.heap.size w W
theorem RvS.new {w W W' : World} {v : Value} {ps : List (Ev × Value)} (h : RvS w W v ps) (hb : Below W.heap.size W W') : RvS w W' v ps :=
  ⟨Keeps.ownsRow h.row (Keeps.of_new (S := fun _ => False) hb) (fun _ _ e => e), fun p hp => (h.keys p hp).on hb, h.nil, h.base.trans (hb.mono h.base.size)⟩
theorem RvS.head {w W : World} {v : Value} {ps : List (Ev × Value)} (h : RvS w W v ps) : ∀ g, v.ownBlock = some g → w.heap.size ≤ g ∧ g < W.heap.size ∧ ∀ x, W.cell? ⟨g, 0, none⟩ ≠ some (.string x) := by
  intro g hg
  refine ⟨(h.row.lt g hg).1, (h.row.lt g hg).2, fun x e => ?_⟩
  cases ps with
  | nil =>
    have := h.nil rfl
    rw [this] at hg
    simp [Value.ownBlock] at hg
  | cons p ps =>
    rcases h.row.2 with ⟨he, h0⟩ | ⟨g', cap, cur, he, _⟩
    · simp at h0
    · subst he
      have : g' = g := by simpa [Value.ownBlock] using hg
      subst this
      have := h.row.cells (g := g') rfl 0 (.int .u8 p.1.cmd.verb) (by rfl)
      rw [Addr.add_lit] at this
      rw [e] at this
      simp at this
/-- A block that is none of the list's is written. -/
theorem RvS.apart {w W W' : World} {v : Value} {ps : List (Ev × Value)} {q : Nat} {c : Cmd} {kv : Value} (h : RvS w W v ps) (hq : Cb W q (cmdC c kv)) (hqn : v.ownBlock ≠ some q) (hqw : w.heap.size ≤ q) (hk : Keeps (fun k => k = q) W W') : RvS w W' v ps :=
  ⟨Keeps.ownsRow h.row hk (fun g e n => hqn (n ▸ e)), fun p hp => (h.keys p hp).other hk (fun g e x hx => by rw [e, hq.at_ 0 _ rfl] at hx; simp at hx), h.nil, h.base.trans (hk.to_below (fun k _ e => by omega) h.base.size)⟩
theorem info_evR : (Try.prog.info? 56).map (fun i => (i.zero, i.size, i.bytes)) = some (some (.agg #[.int .u8 0, .slice none 0 0, .int .u8 0, .string ⟨#[]⟩, .string ⟨#[]⟩, .int .u32 0, .int .i64 0, .int .u64 0, .int .u64 0, .int .i64 0, .bool false, .string ⟨#[]⟩, .int .i64 0]), 13, 144) := by kernel_rfl
theorem news13 {W : World} {e : Ev} {kv : Value} {t : TypeId} {j : Nat} {u : Value} (hj : (evCR e kv)[j]? = some u) : (W.alloc (.cells (evCR e kv).toArray t)).cell? ((⟨W.heap.size, 0, none⟩ : Addr).add j) = some u :=
  World.news_of_block (B := W.heap.size) (cs := (evCR e kv).toArray) (t := t) (fr := (0, 0)) (by show (W.heap.push _)[W.heap.size]? = _; simp) j u (by simpa using hj)
/-- An event more. -/
theorem RvS.push {w W W' : World} {v v' : Value} {ps : List (Ev × Value)} {e : Ev} {kv : Value} {o : Obj} (h : RvS w W v ps) (hky : KyR W kv e.cmd.keys) (hown : W'.ownsRow w.heap.size 56 13 v' (ps.length + 1) (rowsR ps ++ evCR e kv)) (hgr : (W.alloc o).grownBy W' v.ownBlock) : RvS w W' v' (ps ++ [(e, kv)]) ∧ Keeps (fun k => v.ownBlock = some k) W W' := by
  have hk : Keeps (fun k => v.ownBlock = some k) W W' := ((Keeps.refl (fun k => v.ownBlock = some k) W).alloc o).grown hgr fun k e => .inl e
  have hT := h.head
  refine ⟨⟨?_, fun p hp => ?_, fun e => by simp at e, h.base.trans (hk.to_below (fun k _ e => (hT k e).1) h.base.size)⟩, hk⟩
  · rw [List.length_append, rowsR_app]
    have : rowsR [(e, kv)] = evCR e kv := by simp [rowsR]
    rw [this]
    exact hown
  · rcases List.mem_append.mp hp with hp | hp
    · exact (h.keys p hp).other hk fun g t => (hT g t).2.2
    · simp at hp; subst hp
      exact hky.other hk fun g t => (hT g t).2.2
/-- 'append' of one event. -/
theorem wpList_append_evR {ops : Array Oper} {rest : List Oper} {o : Oper} {a : Act} {w : World} {Q : Exit → Act → World → Prop} (hgd : o.guard = none) (s x : Operand)
    (ho : o.op = .call { callee := .builtin .append, args := #[s, x], argTypes := #[49, 49] })
    (w0 W : World) (t : TypeId) (v : Value) (ps : List (Ev × Value)) (e : Ev) (kv : Value) (hw : w = W.alloc (.cells (evCR e kv).toArray t)) (hS : RvS w0 W v ps) (hs : a.eval s = v) (hx : a.eval x = .slice (some ⟨W.heap.size, 0, none⟩) 1 1) (hky : KyR W kv e.cmd.keys) (hlen : ps.length ≤ 1000000)
    (hK : ∀ v' w', RvS w0 w' v' (ps ++ [(e, kv)]) → Keeps (fun k => v.ownBlock = some k) W w' → wpList Try.prog ops Q rest (a.put o.dst v') w') : wpList Try.prog ops Q (o :: rest) a w := by
  subst hw
  obtain ⟨i0, hi, hz0, hz1, hz2⟩ := info_parts info_evR
  have hbase := hS.base.size
  refine wpList_append_own_at _ hgd s x 49 ho w0.heap.size 56 i0 _ 13 144 Try.underlying49 hi hz0 hz1 hz2 rfl (by decide) v ps.length (rowsR ps) hs (hS.row.alloc _) ⟨W.heap.size, 0, none⟩ 1 1 (evCR e kv) hx rfl (fun j u hj => news13 hj) (evCR_one hky.one) (by unfold maxLen; omega) (by omega) (by simp; omega) ?_
  intro v' w' h1 h2 h3 h4
  obtain ⟨h5, h6⟩ := hS.push hky h1 h2
  exact hK v' w' h5 h6
/-- The same, where an order is drawn. -/
theorem step_append_evR {ops : Array Oper} {o : Oper} {a : Act} {w : World} {K : Act → World → Prop} {Q : Exit → Act → World → Prop} {E : Prop} (hgd : o.guard = none) (s x : Operand)
    (ho : o.op = .call { callee := .builtin .append, args := #[s, x], argTypes := #[49, 49] })
    (w0 W : World) (t : TypeId) (v : Value) (ps : List (Ev × Value)) (e : Ev) (kv : Value) (hw : w = W.alloc (.cells (evCR e kv).toArray t)) (hS : RvS w0 W v ps) (hs : a.eval s = v) (hx : a.eval x = .slice (some ⟨W.heap.size, 0, none⟩) 1 1) (hky : KyR W kv e.cmd.keys) (hlen : ps.length ≤ 1000000)
    (hK : ∀ v' w', RvS w0 w' v' (ps ++ [(e, kv)]) → Keeps (fun k => v.ownBlock = some k) W w' → K (a.put o.dst v') w') : if Region.wanted o (yielded ops a.tmps) = true then Oper.wp Try.prog o a w K Q else E := by
  subst hw
  obtain ⟨i0, hi, hz0, hz1, hz2⟩ := info_parts info_evR
  have hbase := hS.base.size
  refine step_append_lies _ hgd s x 49 ho w0.heap.size 56 i0 _ 13 144 Try.underlying49 hi hz0 hz1 hz2 rfl (by decide) v ps.length (rowsR ps) hs (hS.row.alloc _) ⟨W.heap.size, 0, none⟩ 1 1 (evCR e kv) hx rfl (fun j u hj => news13 hj) (evCR_one hky.one) (by decide) (by unfold maxLen; omega) (by omega) (by simp; omega) _ rfl ?_
  intro g cap w' h1 h2 _ _
  obtain ⟨h5, h6⟩ := hS.push hky h1 h2
  exact hK _ w' h5 h6
end Go.Proofs.Yteoeelhljimibaa
/- Next: The chapter's feeds: Events of whatever bytes. -/
namespace Go.Proofs.Yteoeelhljimibaa
open Go.RowKit Go.Maps
set_option linter.unusedVariables false

/-- What Events hands back. -/
def EvsR (w : World) (r : List Ev × Nat) (e : Ending) (W : World) : Prop := ∃ v ps, e = .returned (.tuple #[v, .int .i64 (r.2 : Nat)]) ∧ ps.map Prod.fst = r.1 ∧ RvS w W v ps
/-- What is told, and what is still to come. -/
def Rst (T : List Ev × Nat) (ps : List (Ev × Value)) (s : Fst) (l : List UInt8) : Prop := T = (ps.map Prod.fst ++ (resF s l).1, (resF s l).2)
theorem Rst.ev {T : List Ev × Nat} {ps : List (Ev × Value)} {s s' : Fst} {l l' : List UInt8} {e : Ev} (kv : Value) (h : Rst T ps s l) (he : resF s l = addE (some e) (resF s' l')) : Rst T (ps ++ [(e, kv)]) s' l' := by
  unfold Rst at h ⊢
  rw [h, he]
  simp [addE]
theorem Rst.go {T : List Ev × Nat} {ps : List (Ev × Value)} {s s' : Fst} {l l' : List UInt8} (h : Rst T ps s l) (he : resF s l = resF s' l') : Rst T ps s' l' := by
  unfold Rst at h ⊢
  rw [h, he]
theorem Rst.end_ {T : List Ev × Nat} {ps : List (Ev × Value)} {s : Fst} {l : List UInt8} {n : Nat} (h : Rst T ps s l) (he : resF s l = ([], n)) : ps.map Prod.fst = T.1 ∧ n = T.2 := by
  unfold Rst at h
  rw [h, he]
  simp
theorem Rst.nil {T : List Ev × Nat} {ps : List (Ev × Value)} {l : List UInt8} (h : Rst T ps Fst.new l) (hl : l = []) : ps.map Prod.fst = T.1 ∧ 0 = T.2 := h.end_ (by rw [hl]; rfl)
theorem evs_done {w W : World} {T : List Ev × Nat} {v : Value} {ps : List (Ev × Value)} {n : Nat} (h : RvS w W v ps) (ht : ps.map Prod.fst = T.1 ∧ n = T.2) : EvsR w T (.returned (.tuple #[v, .int .i64 (n : Nat)])) W := ⟨v, ps, by rw [ht.2], ht.1, h⟩
theorem rv_cmd {w wr w1 W2 : World} {v kv : Value} {ps : List (Ev × Value)} {l : List (List UInt8)} {q : Nat} (hS : RvS w wr v ps) (hb1 : Below wr.heap.size wr w1) (hL : KeysAt w1 wr.heap.size kv l) (hq : q = w1.heap.size)
    (hK2 : Keeps (fun k => k = q) (w1.alloc (.cells #[.int .u8 0, .slice none 0 0, .int .u8 0, .string ⟨#[]⟩, .string ⟨#[]⟩, .int .u32 0, .int .i64 0, .int .u64 0, .int .u64 0, .int .i64 0, .bool false] 54)) W2) : RvS w W2 v ps ∧ KyR W2 kv l ∧ v.ownBlock ≠ some q ∧ Below w.heap.size w W2 := by
  have h1 := hS.new hb1
  have h2 := h1.new (res_below w1)
  have hr := res_newR w1
  rw [← hq] at hr
  have hne : v.ownBlock ≠ some q := fun e => by have := (h1.head q e).2.1; omega
  have hwq : w.heap.size ≤ q := by rw [hq]; exact h1.base.size
  have h3 := h2.apart hr hne hwq hK2
  exact ⟨h3, ((KyR.of_keys hL).on (res_below w1)).other hK2 (fun g e x hx => by rw [e, hr.at_ 0 _ rfl] at hx; simp at hx), hne, h3.base⟩
theorem bad_at {n : Nat} {r : List UInt8} (h : n < r.length) (hy : r[n] = 13) : badF n r = n + 1 := by unfold badF; rw [List.getElem?_eq_getElem h, hy, if_pos rfl]
theorem bad_no {n : Nat} {r : List UInt8} (h : ∀ h : n < r.length, r[n] ≠ 13) : badF n r = n := by
  unfold badF
  rw [if_neg]
  intro e
  obtain ⟨hl, e⟩ := List.getElem?_eq_some_iff.mp e
  exact h hl e
theorem u8_ne {b : UInt8} {n : Nat} (hn : n < 256) (h : b ≠ UInt8.ofNat n) : ¬ (b.toNat : Int) = n := fun e => h (UInt8.toNat_inj.mp (by rw [UInt8.toNat_ofNat']; omega))
set_option maxHeartbeats 8000000 in
set_option maxRecDepth 100000 in
theorem reventsw (A : Option Addr) (c : Nat) (L : List UInt8) (w : World) (hr : Rd w w.heap.size A L) (hc : L.length ≤ c) (hcm : c ≤ maxLen) (hl : L.length ≤ 100000) :
    Calls Try.prog 24 #[.slice A L.length c] w (EvsR w (resF Fst.new L)) := by
  unfold maxLen at hcm
  have hRd : ∀ W, Below w.heap.size w W → Rd W W.heap.size A L := fun W hb => (hr.below hb (Nat.le_refl _)).mono hb.size
  obtain ⟨m, hm⟩ : ∃ m, L.length = m := ⟨_, rfl⟩
  have hLI := fun a W (hb : Below w.heap.size w W) (ha : a ≤ L.length) => rlinew A c L a W (hRd W hb) hc (by omega) ha
  have hPA := fun a k e W (hb : Below w.heap.size w W) (ha : a + k ≤ L.length) (he : e = a + k + 1) => rparsedw A c L a k e W (hRd W hb) hc (by omega) ha he
  have hTO := fun a W (hb : Below w.heap.size w W) (ha : a ≤ L.length) => tow A c L a W (hRd W hb) hc (by omega) ha
  rw [hm] at hc hl hLI hPA hTO ⊢
  obtain ⟨T, hT⟩ : ∃ T, T = resF Fst.new L := ⟨_, rfl⟩
  have h0 : Rst T [] Fst.new L := by rw [hT]; rfl
  rw [← hT]
  have HRD := Lib.hid hRd
  have HLI := Lib.hid hLI
  have HPA := Lib.hid hPA
  have HTO := Lib.hid hTO
  have HM := Lib.hid hm
  have H0 := Lib.hid h0
  clear hr hRd hLI hPA hTO hm h0 hT
  go_enter Try.func24, Try.ntmps24
  go_wp2_with fail
  go_loopw [4, 5] (fun v i wr => ∃ (ps : List (Ev × Value)) (a : Nat), a ≤ m + 1 ∧ i = .int .i64 a ∧ Hid (RvS w wr v ps) ∧ Hid (Rst T ps Fst.new (L.drop a)) ∧ ps.length ≤ a) (fun _ i _ => m + 1 - (intOf i).toNat)
  case atStart => exact ⟨[], 0, by omega, rfl, ⟨World.ownsRow_nil _ _ _ _, fun p hp => by simp at hp, fun _ => rfl, Below.refl _ _⟩, H0.out, by simp⟩
  case round =>
    obtain ⟨ps, a, ha, rfl, hS, hR, hpl⟩ := hrel
    by_cases hlt : a < m
    · have hd : decide ((a : Int) < (m : Int)) = true := decide_eq_true (by omega)
      have hpl2 : ps.length ≤ 1000000 := by omega
      have hkl := leadF_le (L.drop a)
      rw [List.length_drop, HM.out] at hkl
      have HL1 := HLI.out a wr hS.out.base (by omega)
      have hrn := res_lead (L.drop a)
      rw [List.length_drop, List.drop_drop, HM.out] at hrn
      obtain ⟨k, hk⟩ : ∃ k, k = leadF (L.drop a) := ⟨_, rfl⟩
      rw [← hk] at hkl HL1 hrn
      have HK := Lib.hid hk
      clear hk
      by_cases h1 : 2048 < k
      · rw [if_pos h1] at hrn
        have HN := Lib.hid (hR.out.ev (.slice none 0 0) hrn)
        rw [show decide (2048 < k) = true from decide_eq_true h1, Bool.true_or] at HL1
        have HL := Lib.hid HL1
        clear hrn HL1 h1 hR
        go_wp2_with (first
          | (go_at_call 31; refine HL.out.mono ?_; rintro e w1 ⟨rfl, rfl⟩)
          | (at_builtin; refine wpList_append_evR rfl (.tmp 32) (.tmp 34) rfl w _ _ _ ps (Ev.fault 3) (.slice none 0 0) rfl hS.out rfl rfl (KyR.nil _) hpl2 ?_; intro v' w2 hS2 hK2; have HS2 := Lib.hid hS2; clear hS2 hK2))
        go_roundw
        case rel => exact ⟨_, a + k + 1, by omega, by go_num, HS2.out, HN.out, by simp; omega⟩
        case measure => simp [intOf]; omega
      have hd2 : decide (2048 < k) = false := decide_eq_false h1
      rw [if_neg h1] at hrn
      rw [hd2, Bool.false_or] at HL1
      clear hd2
      by_cases h2 : k = m - a
      · rw [if_pos h2] at hrn
        have HN := Lib.hid (hR.out.end_ hrn)
        rw [show decide (a + k < m) = false from decide_eq_false (by omega)] at HL1
        have HL := Lib.hid HL1
        have HE := Lib.hid (show (m : Int) - (a : Int) = ((m - a : Nat) : Int) by omega)
        clear hrn HL1 h1 hR h2
        go_wp2_with (go_at_call 31; refine HL.out.mono ?_; rintro e w1 ⟨rfl, rfl⟩)
        go_ret2
        have := evs_done hS.out HN.out
        first | exact this | (rw [HE.out]; exact this)
      rw [if_neg h2] at hrn
      have ham : a + k < m := by omega
      rw [show decide (a + k < m) = true from decide_eq_true ham] at HL1
      have HL := Lib.hid HL1
      obtain ⟨a2, ha2⟩ : ∃ a2, a2 = a + k + 1 := ⟨_, rfl⟩
      have HP1 := HPA.out a k a2 wr hS.out.base (by omega) ha2
      have hpo := parseC_ok (cutCr ((L.drop a).take k))
      have hrn2 : resF Fst.new (L.drop a) = addE (endLine (parseC (cutCr ((L.drop a).take k)))).2 (resF (endLine (parseC (cutCr ((L.drop a).take k)))).1 (L.drop a2)) := by rw [hrn, ha2]; rfl
      obtain ⟨p, hp⟩ : ∃ p, p = parseC (cutCr ((L.drop a).take k)) := ⟨_, rfl⟩
      rw [← hp] at HP1 hpo hrn2
      have HP := Lib.hid HP1
      have HRN := Lib.hid hrn2
      have HA2 := Lib.hid ha2
      have ha2m : a2 ≤ m := by omega
      have hpl3 : ps.length < a2 := by omega
      have haa : a < a2 := by omega
      have hwa : ((a + k + 1 : Nat) : Int) = (a2 : Int) := by omega
      have hlo := hpo.lo
      have hhi := hpo.hi
      have hto := hpo.told
      have HPO := Lib.hid hpo
      rw [← ha2] at HL
      clear hrn HL1 HP1 hpo hrn2 ha2 hp h1 h2 hkl HK ham hwa
      go_upto_region 11 with (first
        | (go_at_call 31; refine HL.out.mono ?_; rintro e w1 ⟨rfl, rfl⟩)
        | (go_at_call 32; refine HP.out.mono ?_; rintro e w1 ⟨kv, rfl, hL, hb1⟩; have hR1 := res_newR w1; have h1v := lst_one hL; have HKL := Lib.hid hL; have HB1 := Lib.hid hb1; clear hL hb1)
        | (refine wpList_cmdR rfl (.tmp 9) (.tmp 42) rfl w1.heap.size Cmd.none (.slice none 0 0) p.1 kv hR1 h1v rfl rfl ?_; intro W2 hC2 hK2))
      obtain ⟨q, hq⟩ : ∃ q, q = w1.heap.size := ⟨_, rfl⟩
      rw [← hq] at hC2 hK2 ⊢
      obtain ⟨hS2, hky, hvq, hbW⟩ := rv_cmd hS.out HB1.out HKL.out hq hK2
      have HS2 := Lib.hid hS2
      have HKY := Lib.hid hky
      have HC2 := Lib.hid hC2
      have hRD2 := HRD.out W2 hbW
      have HBW := Lib.hid hbW
      clear hS2 hky hbW hq hK2 hC2 hR1 HKL HB1 HL HP
      obtain ⟨cm, t⟩ := p
      simp only at hlo hhi hto h1v HRN HKY HC2 ⊢
      clear HLI HPA hS
      by_cases h5 : t = 5
      · subst h5
        have hlg : 1024 < cm.bytes := HPO.out.large rfl
        obtain ⟨n, hn⟩ : ∃ n : Nat, cm.bytes = n := ⟨cm.bytes.toNat, by omega⟩
        have hrl : resF Fst.new (L.drop a) = _ := HRN.out.trans (res_large rfl n hn (L.drop a2))
        rw [List.drop_drop] at hrl
        have HN := Lib.hid (hR.out.ev (.slice none 0 0) hrl)
        have HNN := Lib.hid hn
        rw [hn] at hhi
        clear hrl hn hlg hlo HRN hR hRD2 HPO
        by_cases hcm2 : m - a2 < n + 2
        · have d2 : decide ((m : Int) - (a2 : Int) < (n : Int) + 2) = true := decide_eq_true (by omega)
          have HN0 := Lib.hid (HN.out.nil (List.drop_eq_nil_of_le (by rw [HM.out]; omega)))
          clear hcm2 HN
          go_wp2_with (at_builtin; refine wpList_append_evR rfl (.tmp 109) (.tmp 111) rfl w _ _ _ ps (Ev.fault 5) (.slice none 0 0) rfl HS2.out rfl rfl (KyR.nil _) hpl2 ?_; intro v' w4 hS4 hK4; have HS4 := Lib.hid hS4; have c94 := (HC2.out.keep hK4 hvq).at_ 9 _ rfl; rw [HNN.out] at c94; clear hS4 hK4)
          go_ret2
          exact evs_done HS4.out HN0.out
        · have d2 : decide ((m : Int) - (a2 : Int) < (n : Int) + 2) = false := decide_eq_false (by omega)
          have hcm3 : n + 2 ≤ m - a2 := by omega
          clear hcm2
          go_wp2_with (at_builtin; refine wpList_append_evR rfl (.tmp 109) (.tmp 111) rfl w _ _ _ ps (Ev.fault 5) (.slice none 0 0) rfl HS2.out rfl rfl (KyR.nil _) hpl2 ?_; intro v' w4 hS4 hK4; have HS4 := Lib.hid hS4; have c94 := (HC2.out.keep hK4 hvq).at_ 9 _ rfl; rw [HNN.out] at c94; clear hS4 hK4)
          go_roundw
          case rel => exact ⟨_, a2 + (n + 2), by omega, by go_num, HS4.out, HN.out, by simp; omega⟩
          case measure => simp [intOf]; omega
      have d5 : ((t : Int) == 5) = false := beq_eq_false_iff_ne.mpr (by omega)
      by_cases h0 : t = 0
      · subst h0
        by_cases hb0 : cm.bytes < 0
        · have HN := Lib.hid (hR.out.ev kv (HRN.out.trans (res_bare rfl hb0 _)))
          have d9 : decide (cm.bytes < 0) = true := decide_eq_true hb0
          obtain ⟨z0, z1, z2, z3, z4, z5, z6, z7, z8, z9, z10⟩ := cb_cells HC2.out
          clear HRN hR hRD2 HPO hb0 h5
          go_wp2_with (at_builtin; refine wpList_append_evR rfl (.tmp 139) (.tmp 142) rfl w _ _ _ ps ⟨cm, [], 0⟩ kv rfl HS2.out rfl rfl HKY.out hpl2 ?_; intro v' w4 hS4 hK4; have HS4 := Lib.hid hS4; clear hS4 hK4)
          go_roundw
          case rel => exact ⟨_, a2, by omega, by first | rfl | go_num, HS4.out, HN.out, by simp; omega⟩
          case measure => simp [intOf]; omega
        obtain ⟨n, hn⟩ : ∃ n : Nat, cm.bytes = n := ⟨cm.bytes.toNat, by omega⟩
        have hR1 := hR.out.go (HRN.out.trans (res_more rfl hb0 _))
        have hrd1 := res_data cm n hn (L.drop a2)
        have hn1 : n ≤ 1024 := by have := HPO.out.none rfl; simp only at this; omega
        have d9 : decide (cm.bytes < 0) = false := decide_eq_false hb0
        obtain ⟨z0, z1, z2, z3, z4, z5, z6, z7, z8, z9, z10⟩ := cb_cells HC2.out
        rw [hn] at z9 d9
        have HNN := Lib.hid hn
        have hsz1 : (Try.prog.info? 5).map (·.size) = some 1 := by kernel_rfl
        have hrl : (L.drop a2).length = m - a2 := by rw [List.length_drop, HM.out]
        obtain ⟨m2, hm2⟩ : ∃ m2, m2 = m - a2 := ⟨_, rfl⟩
        obtain ⟨c2, hc2⟩ : ∃ c2, c2 = c - a2 := ⟨_, rfl⟩
        obtain ⟨A2, hA2⟩ : ∃ A2, A2 = cutA A a2 c := ⟨_, rfl⟩
        have hr2 := hRD2.past a2 c (by rw [HM.out]; exact hc)
        rw [← hA2] at hr2
        rw [← hm2] at hrl
        have hm2c : m2 ≤ c2 := by omega
        have hm2l : m2 ≤ 100000 := by omega
        obtain ⟨r2, hr2e⟩ : ∃ r2, r2 = L.drop a2 := ⟨_, rfl⟩
        have hdr : ∀ j, r2.drop j = L.drop (a2 + j) := fun j => by rw [hr2e, List.drop_drop]
        rw [← hr2e] at hr2 hrl hrd1 hR1
        have HM2 := Lib.hid hm2
        have HC22 := Lib.hid hc2
        have HA22 := Lib.hid hA2
        have HDR := Lib.hid hdr
        have HR1 := Lib.hid hR1
        have HRD1 := Lib.hid hrd1
        have hma : a2 + m2 = m := by omega
        have HMA := Lib.hid hma
        clear hn hR HRN hRD2 HPO hb0 hlo hhi hto hr2e hdr hR1 hrd1 hm2 hc2 hA2 h5
        rw [hrl] at HRD1
        by_cases hnm : n < m2
        · have hnl : n < r2.length := by omega
          obtain ⟨g, off, rfl, hg, hcell⟩ := hr2 (by omega)
          have cx := hcell n hnl
          obtain ⟨y, hy⟩ : ∃ y, y = r2[n] := ⟨_, rfl⟩
          rw [← hy] at cx
          have e1 : decide ((n : Int) < (m2 : Int)) = true := decide_eq_true (by omega)
          by_cases h13 : y = 13
          · have hbd := bad_at hnl (by rw [← hy, h13])
            rw [hbd] at HRD1
            have y13 : ((y.toNat : Int) == 13) = true := by rw [h13]; rfl
            clear hy h13 hbd
            by_cases hn2 : m2 ≤ n + 1
            · have HE := Lib.hid (HR1.out.end_ (HRD1.out.trans (if_pos hn2)))
              have e2 : decide ((m2 : Int) ≤ (n : Int) + 1) = true := decide_eq_true (by omega)
              clear hn2 HRD1 HR1 hcell hr2
              go_wp2_with (refine wpList_cut_lo rfl 24 5 (.tmp 47) (.tmp 48) rfl Try.underlying24 hsz1 A m c a2 rfl rfl ha2m ?_; rw [← HA22.out, ← HM2.out, ← HC22.out])
              go_ret2
              exact evs_done HS2.out HE.out
            · have e2 : decide ((m2 : Int) ≤ (n : Int) + 1) = false := decide_eq_false (by omega)
              have hnl2 : n + 1 < r2.length := by omega
              have cx2 := hcell (n + 1) hnl2
              have hat : r2[n + 1]? = some r2[n + 1] := List.getElem?_eq_getElem hnl2
              obtain ⟨x, hx⟩ : ∃ x, x = r2[n + 1] := ⟨_, rfl⟩
              rw [← hx] at cx2 hat
              have hrd2 := HRD1.out.trans (if_neg hn2)
              rw [hat] at hrd2
              have hnm2 : n + 1 < m2 := by omega
              by_cases h10 : x = 10
              · rw [if_pos ⟨rfl, by rw [h10]⟩] at hrd2
                have x10 : ((x.toNat : Int) == 10) = true := by rw [h10]; rfl
                have hN := HR1.out.ev kv hrd2
                rw [HDR.out] at hN
                have HN := Lib.hid hN
                have hcv := fun W (hb : Below W2.heap.size W2 W) => conv_by (P := Try.prog) W 24 9 5 (by kernel_rfl) (by kernel_rfl) (by kernel_rfl) c2 (((hr2.below hb (Nat.le_refl _)).mono hb.size).cut n)
                rw [List.length_take, hrl, Nat.min_eq_left (by omega)] at hcv
                have hcW := hcv W2.drew ((Below.refl _ _).drew)
                have hcD := hcv _ (Below.refl _ _)
                have hsl : ∀ W : World, (Instr.slice 24 (.slice (some ⟨g, off, none⟩) m2 c2) none (some (.int .i64 (n : Int))) none).run Try.prog W = .ok (.slice (some ⟨g, off, none⟩) n c2) W := by
                  intro W
                  rw [run_slice_h W 24 _ m2 c2 (by kernel_rfl) .i64 (n : Int) (by omega) (by omega)]
                  have he : Try.prog.elem 24 = 5 := by kernel_rfl
                  rw [he]
                  simp only [run_size_one W hsz1, Result.andThen, sliced, Int.toNat_natCast, Nat.zero_mul, add_zero', ite_self, Nat.sub_zero]
                have HCM := Lib.hid (show ({ cm with bytes := (n : Int) } : Cmd) = cm by rw [← HNN.out])
                have HSd := Lib.hid (HS2.out.new (Below.refl _ _).drew)
                have HKd := Lib.hid (HKY.out.on (Below.refl _ _).drew)
                clear hN hcv hrd2 hx hat h10 hcell hr2 hn2
                go_wp2_with (refine wpList_cut_lo rfl 24 5 (.tmp 47) (.tmp 48) rfl Try.underlying24 hsz1 A m c a2 rfl rfl ha2m ?_; rw [← HA22.out, ← HM2.out, ← HC22.out])
                go_region_law (refine step_append_evR rfl (.tmp 82) (.tmp 90) rfl w W2.drew _ _ ps ⟨{ cm with bytes := (n : Int) }, r2.take n, 0⟩ kv rfl HSd.out rfl rfl HKd.out hpl2 ?_; intro v' w4 hS4 hK4; rw [HCM.out] at hS4; have HS4 := Lib.hid hS4; clear hS4 hK4)
                all_goals
                  go_wp2_with fail
                  go_roundw
                  case rel => exact ⟨_, a2 + (n + 1 + 1), by omega, by first | rfl | go_num, HS4.out, HN.out, by simp; omega⟩
                  case measure => simp [intOf]; omega
              · rw [if_neg (by rintro ⟨-, e⟩; injection e with e; exact h10 e)] at hrd2
                have x10 : ((x.toNat : Int) == 10) = false := beq_eq_false_iff_ne.mpr (u8_ne (n := 10) (by omega) h10)
                rw [HDR.out, HDR.out] at hrd2
                obtain ⟨t, ht⟩ : ∃ t, t = a2 + (n + 1) + leadF (L.drop (a2 + (n + 1))) := ⟨_, rfl⟩
                have hN := HR1.out.ev (.slice none 0 0) hrd2
                rw [show a2 + (n + 1 + leadF (L.drop (a2 + (n + 1))) + 1) = t + 1 by omega] at hN
                have HN := Lib.hid hN
                have hle := leadF_le (L.drop (a2 + (n + 1)))
                rw [List.length_drop, HM.out] at hle
                have hTO := fun W hb => HTO.out (a2 + (n + 1)) W hb (by omega)
                rw [← ht] at hTO
                have htm : t ≤ m := by omega
                have hta : a2 + n < t := by omega
                simp only [Int.natCast_add] at hTO
                have HTO2 := Lib.hid hTO
                clear hN hle ht hrd2 hx hat h10 hcell hr2 hn2
                go_wp2_with (first
                  | (refine wpList_cut_lo rfl 24 5 (.tmp 47) (.tmp 48) rfl Try.underlying24 hsz1 A m c a2 rfl rfl ha2m ?_; rw [← HA22.out, ← HM2.out, ← HC22.out])
                  | (at_builtin; refine wpList_append_evR rfl (.tmp 96) (.tmp 98) rfl w _ _ _ ps (Ev.fault 6) (.slice none 0 0) rfl HS2.out rfl rfl (KyR.nil _) hpl2 ?_; intro v' w4 hS4 hK4; have HS4 := Lib.hid hS4; clear hS4 hK4)
                  | (go_at_call 33; refine (HTO2.out _ HS4.out.base).mono ?_; rintro e w5 ⟨rfl, rfl⟩))
                go_roundw
                case rel => exact ⟨_, t + 1, by omega, by first | rfl | go_num, HS4.out, HN.out, by simp; omega⟩
                case measure => simp [intOf]; omega
          · have hbd := bad_no (n := n) (r := r2) (fun h => by rw [← hy]; exact h13)
            rw [hbd] at HRD1
            have y13 : ((y.toNat : Int) == 13) = false := beq_eq_false_iff_ne.mpr (u8_ne (n := 13) (by omega) h13)
            have e2 : decide ((m2 : Int) ≤ (n : Int)) = false := decide_eq_false (by omega)
            have hrd2 := HRD1.out.trans (if_neg (by omega))
            rw [if_neg (by omega)] at hrd2
            have e3 : ((n : Int) == (n : Int) + 1) = false := beq_eq_false_iff_ne.mpr (by omega)
            rw [HDR.out, HDR.out] at hrd2
            obtain ⟨t, ht⟩ : ∃ t, t = a2 + n + leadF (L.drop (a2 + n)) := ⟨_, rfl⟩
            have hN := HR1.out.ev (.slice none 0 0) hrd2
            rw [show a2 + (n + leadF (L.drop (a2 + n)) + 1) = t + 1 by omega] at hN
            have HN := Lib.hid hN
            have hle := leadF_le (L.drop (a2 + n))
            rw [List.length_drop, HM.out] at hle
            have hTO := fun W hb => HTO.out (a2 + n) W hb (by omega)
            rw [← ht] at hTO
            have htm : t ≤ m := by omega
            have hta : a2 ≤ t := by omega
            simp only [Int.natCast_add] at hTO
            have HTO2 := Lib.hid hTO
            clear hN hle ht hrd2 hbd hy h13 hcell hr2
            go_wp2_with (first
              | (refine wpList_cut_lo rfl 24 5 (.tmp 47) (.tmp 48) rfl Try.underlying24 hsz1 A m c a2 rfl rfl ha2m ?_; rw [← HA22.out, ← HM2.out, ← HC22.out])
              | (at_builtin; refine wpList_append_evR rfl (.tmp 96) (.tmp 98) rfl w _ _ _ ps (Ev.fault 6) (.slice none 0 0) rfl HS2.out rfl rfl (KyR.nil _) hpl2 ?_; intro v' w4 hS4 hK4; have HS4 := Lib.hid hS4; clear hS4 hK4)
              | (go_at_call 33; refine (HTO2.out _ HS4.out.base).mono ?_; rintro e w5 ⟨rfl, rfl⟩))
            go_roundw
            case rel => exact ⟨_, t + 1, by omega, by first | rfl | go_num, HS4.out, HN.out, by simp; omega⟩
            case measure => simp [intOf]; omega
        · have hbd := bad_no (n := n) (r := r2) (fun h => absurd h (by omega))
          rw [hbd] at HRD1
          have e1 : decide ((n : Int) < (m2 : Int)) = false := decide_eq_false (by omega)
          have HE := Lib.hid (HR1.out.end_ (HRD1.out.trans (if_pos (by omega))))
          have e2 : decide ((m2 : Int) ≤ (n : Int)) = true := decide_eq_true (by omega)
          clear hbd HRD1 HR1 hr2
          go_wp2_with (refine wpList_cut_lo rfl 24 5 (.tmp 47) (.tmp 48) rfl Try.underlying24 hsz1 A m c a2 rfl rfl ha2m ?_; rw [← HA22.out, ← HM2.out, ← HC22.out])
          go_ret2
          exact evs_done HS2.out HE.out
      · have HN := Lib.hid (hR.out.ev (.slice none 0 0) (HRN.out.trans (res_fault h5 h0 _)))
        have d0 : ((t : Int) != 0) = true := bne_iff_ne.mpr (by omega)
        clear HRN hR hRD2 HPO
        go_wp2_with (at_builtin; refine wpList_append_evR rfl (.tmp 130) (.tmp 133) rfl w _ _ _ ps (Ev.fault t) (.slice none 0 0) rfl HS2.out rfl rfl (KyR.nil _) hpl2 ?_; intro v' w4 hS4 hK4; have HS4 := Lib.hid hS4; clear hS4 hK4)
        go_roundw
        case rel => exact ⟨_, a2, by omega, by first | rfl | go_num, HS4.out, HN.out, by simp; omega⟩
        case measure => simp [intOf]; omega
    · have hd : decide ((a : Int) < (m : Int)) = false := decide_eq_false (by omega)
      have HN := Lib.hid (hR.out.nil (List.drop_eq_nil_of_le (by rw [HM.out]; omega)))
      clear hR
      go_wp2_with fail
      go_ret2
      exact evs_done hS.out HN.out
end Go.Proofs.Yteoeelhljimibaa
