/- LinesLine: the walk. Printed by tools/genlln.py. -/
import Derived.Test.YtifbcejekdhnlaaDoorGLm
import Derived.BigRegion
import Derived.Deep.RegionHeld
namespace Go.Proofs.YtifbcejekdhnlaaDoor
open Go.RowKit Go.Maps
set_option linter.unusedVariables false

theorem run_append_nil0 {P : Program} (w : World) (t ty e : TypeId) (i : TypeInfo) (ht : P.underlying t = some (.slice e)) (hi : P.info? e = some i) (c' : Nat) (A : Option Addr) :
    (Builtin.append_ #[t, t] ty #[.slice none 0 0, .slice A 0 c']).run P w = .ok (.slice none 0 0) w := by
  cases A <;> simp [Builtin.append_, run_underlying ht, sizeOf, typeInfo, hi, Builtin.lenOf, Builtin.firstCells, loadCells, loadCellsFrom]
theorem wpList_append_nil0 {P : Program} (w : World) {ops : Array Oper} {rest : List Oper} {o : Oper} {a : Act} {Q : Exit → Act → World → Prop} (hgd : o.guard = none) (s x : Operand) (t : TypeId)
    (ho : o.op = .call { callee := .builtin .append, args := #[s, x], argTypes := #[t, t] }) (e : TypeId) (i : TypeInfo) (ht : P.underlying t = some (.slice e)) (hi : P.info? e = some i)
    (c' : Nat) (A : Option Addr) (hs : a.eval s = .slice none 0 0) (hx : a.eval x = .slice A 0 c') (h : wpList P ops Q rest (a.put o.dst (.slice none 0 0)) w) : wpList P ops Q (o :: rest) a w := by
  refine wpList_plain hgd fun K hK => ?_
  have hrun := run_append_nil0 (P := P) w t o.type e i ht hi c' A
  unfold Oper.wp execOp
  simp only [ho, resolve, invoke, builtin, Sem.run_bind, Sem.run_pure, Result.andThen_ok, List.map_toArray, List.map_cons, List.map_nil, hs, hx, hrun]
  exact hK _ _ h
set_option maxHeartbeats 8000000 in
set_option maxRecDepth 100000 in
theorem walk_LinesLine (a1_0 : Int) (A : Option Addr) (n cap : Nat) (a1_2 : Int) (ky : ByteArray) (vl : ByteArray) (fl : Int) (ex : Int) (id : Int) (by_ : Int) (bt : Int) (qt : Bool) (w : World) (w1_0 : (Lit.int .u8 a1_0).wf = true) (w1_1 : Reads Tryd.prog w 24 (.slice A n cap)) (w1_2 : (Lit.int .u8 a1_2).wf = true) (w1_3 : ky.size ≤ maxLen) (w1_4 : vl.size ≤ maxLen) (w1_5 : (Lit.int .u32 fl).wf = true) (w1_6 : (Lit.int .i64 ex).wf = true) (w1_7 : (Lit.int .u64 id).wf = true) (w1_8 : (Lit.int .u64 by_).wf = true) (w1_9 : (Lit.int .i64 bt).wf = true) (htab : Lib.TabIs Tryd.prog w "internal/strconv.uint64pow10" .u64 Lib.pow10Tab) :
    Calls Tryd.prog 4 #[.agg #[.int .u8 a1_0, .slice A n cap, .int .u8 a1_2, .string ky, .string vl, .int .u32 fl, .int .i64 ex, .int .u64 id, .int .u64 by_, .int .i64 bt, .bool qt]] w fun e w' => e = .returned (.bool true) ∧ Below w.heap.size w w' := by
  obtain ⟨p0, p1⟩ := bounds_u8 w1_0
  obtain ⟨p2, p3⟩ := bounds_u8 w1_2
  obtain ⟨vb, rfl⟩ : ∃ vb : Nat, a1_0 = vb := ⟨a1_0.toNat, by omega⟩
  obtain ⟨cv, rfl⟩ : ∃ cv : Nat, a1_2 = cv := ⟨a1_2.toNat, by omega⟩
  obtain ⟨hnm, ks, hk, hks⟩ := reads_keys (e := 9) Tryd.underlying24 (by kernel_rfl) (by kernel_rfl) w1_1
  have hr : CmR ⟨vb, ks, cv, ky.data.toList, vl.data.toList, fl, ex, id, by_, bt, qt⟩ := ⟨bounds_u32 w1_5, bounds_i64 w1_6, bounds_i64 w1_9, bounds_u64 w1_7, bounds_u64 w1_8⟩
  have HVB := Lib.hid (show vb ≤ 255 by omega)
  clear w1_0 w1_1 w1_2 w1_5 w1_6 w1_7 w1_8 w1_9 p0 p1 p2 p3 hks
  unfold maxLen at w1_3 w1_4
  have hkl := hk.len
  have HR := Lib.hid hr
  have HK := Lib.hid hk
  have HT := Lib.hid htab
  have HNM := Lib.hid hnm
  unfold maxLen at hnm
  clear hr hk htab
  obtain ⟨X1, hX1⟩ : ∃ W1, W1 = w.alloc (.cells #[.int .u8 vb, .slice A n cap, .int .u8 cv, .string ky, .string vl, .int .u32 fl, .int .i64 ex, .int .u64 id, .int .u64 by_, .int .i64 bt, .bool qt] 30) := ⟨_, rfl⟩
  have HC1 := Lib.hid (show Cb X1 w.heap.size (cmdC ⟨vb, ks, cv, ky.data.toList, vl.data.toList, fl, ex, id, by_, bt, qt⟩ (.slice A n cap)) from by
    rw [hX1]
    exact cb_new (by simp only [cmdC, str_list]))
  have HB1 := Lib.hid (show Below w.heap.size w X1 from by rw [hX1]; exact (Below.refl _ _).alloc (Nat.le_refl _) _)
  go_enter Tryd.func4, Tryd.ntmps4
  go_upto_region 1 with fail
  rw [← hX1]
  clear hX1
  obtain ⟨x0, x1, x2, x3, x4, x5, x6, x7, x8, x9, x10⟩ := cb_cells HC1.out
  simp only [str_list] at x0 x1 x2 x3 x4 x5 x6 x7 x8 x9 x10
  obtain ⟨g, o, hA, hcells⟩ := HK.out.at_
  have HCL := Lib.hid (fun k x hx => ((HB1.out.cell (p := ⟨g, o + k, none⟩) (hcells k x hx).1).trans (hcells k x hx).2))
  have HA := Lib.hid (And.intro hA HK.out.cap)
  clear hcells hA
  go_upto_region 3 with fail
  go_loopw [3, 4] (fun s i wr => ∃ k : Nat, k ≤ n ∧ k ≤ 101 ∧ i = .int .i64 k ∧ s = .int .i64 (cntK (ks.take k)) ∧ wr = X1) (fun _ i _ => n - (intOf i).toNat)
  case atStart => exact ⟨0, by omega, by omega, rfl, by simp [cntK], rfl⟩
  case round =>
    obtain ⟨k, hk1, hk2, rfl, rfl, rfl⟩ := hrel
    have hct := cntK_take ks k
    by_cases hgo : k < n ∧ k ≤ 100
    · obtain ⟨hlt, hl2⟩ := hgo
      obtain ⟨x, hx⟩ : ∃ x, ks[k]? = some x := ⟨_, List.getElem?_eq_getElem (by omega)⟩
      have hcx := HCL.out k x hx
      obtain rfl := HA.out.1 (by omega)
      have hnc := HA.out.2 (by omega)
      have hnx := cntK_next hx
      obtain ⟨s, hs⟩ : ∃ s, cntK (ks.take k) = s := ⟨_, rfl⟩
      rw [hs] at hct hnx ⊢
      have HS := Lib.hid hs
      clear hs
      have hd1 : decide ((k : Int) < (n : Int)) = true := decide_eq_true (by omega)
      have hd2 : decide ((k : Int) ≤ 100) = true := decide_eq_true (by omega)
      go_wp2_with fail
      go_roundw
      case rel => exact ⟨k + 1, by omega, by omega, by go_num, congrArg (Value.int .i64) (by rw [hnx]; omega), trivial⟩
      case measure => simp [intOf]; omega
    · obtain ⟨s, hs⟩ : ∃ s, cntK (ks.take k) = s := ⟨_, rfl⟩
      rw [hs] at hct ⊢
      have HS := Lib.hid hs
      clear hs
      have HL := Lib.hid (lives29 wr)
      have HE := Lib.hid (HB1.out)
      have hex : (decide ((k : Int) < (n : Int)) = false) ∨ (decide ((k : Int) < (n : Int)) = true ∧ decide ((k : Int) ≤ 100) = false) := by
        by_cases h : k < n
        · exact .inr ⟨decide_eq_true (by omega), decide_eq_false (by omega)⟩
        · exact .inl (decide_eq_false (by omega))
      obtain ⟨q, hq⟩ : ∃ q : Int, IntKind.i64.wrap ((ky.size : Int) + (vl.size : Int)) = q := ⟨_, rfl⟩
      by_cases hout : 100 < n ∨ 30000 < s ∨ 3000 < q
      · have HOUT := Lib.hid hout
        rcases hex with hex | ⟨hex, hex2⟩
        all_goals
          by_cases o2 : 100 < n
          · have od2 : decide (100 < (n : Int)) = true := decide_eq_true (by omega)
            go_wp2_with (go_at_call 9; refine HL.out.mono ?_; rintro e w' ⟨rfl, hb⟩)
            all_goals
              go_ret
              exact ⟨rfl, HE.out.trans (hb.mono HE.out.size)⟩
          · have od2 : decide (100 < (n : Int)) = false := decide_eq_false (by omega)
            by_cases o3 : 30000 < s
            · have od3 : decide (30000 < (s : Int)) = true := decide_eq_true (by omega)
              go_wp2_with (go_at_call 9; refine HL.out.mono ?_; rintro e w' ⟨rfl, hb⟩)
              all_goals
                go_ret
                exact ⟨rfl, HE.out.trans (hb.mono HE.out.size)⟩
            · have od3 : decide (30000 < (s : Int)) = false := decide_eq_false (by omega)
              have o4 : 3000 < q := by have := HOUT.out; omega
              have od4 : decide (3000 < q) = true := decide_eq_true (by omega)
              go_wp2_with (go_at_call 9; refine HL.out.mono ?_; rintro e w' ⟨rfl, hb⟩)
              all_goals
                go_ret
                exact ⟨rfl, HE.out.trans (hb.mono HE.out.size)⟩
      have od2 : decide (100 < (n : Int)) = false := decide_eq_false (by omega)
      have od3 : decide (30000 < (s : Int)) = false := decide_eq_false (by omega)
      have od4 : decide (3000 < q) = false := decide_eq_false (by omega)
      have hn100 : n ≤ 100 := by omega
      have hs3 : s ≤ 30000 := by omega
      have hkn : k = n := by
        rcases Nat.lt_or_ge k n with h | h
        · exact absurd ⟨h, by omega⟩ hgo
        · omega
      have hexx : decide ((k : Int) < (n : Int)) = false := decide_eq_false (by omega)
      clear hex hout
      have HTOT := Lib.hid (show tot ks ≤ 100000 from by
        have h1 := HS.out
        rw [List.take_of_length_le (by omega)] at h1
        have h2 := cntK_tot ks (by omega)
        omega)
      clear HS hct hgo
      have HKL := Lib.hid hkl
      obtain ⟨i0, hinfo, hzi0, hzi1, hzi2⟩ := info_parts info_string
      have hbe : ∀ k x, ks[k]? = some x → wr.cell? ⟨g, o + k, none⟩ = some (.string ⟨x.toArray⟩) := fun k x hx => HCL.out k x hx
      have HBE := Lib.hid hbe
      clear hbe
      go_upto_region 8 with fail
      by_cases hn0 : n = 0
      · subst hn0
        have hks0 : ks = [] := List.eq_nil_of_length_eq_zero HKL.out
        go_upto_region 9 with (at_builtin; go_loud (refine wpList_append_nil0 _ rfl (.const (.slice none 0 0)) (.tmp 53) 24 rfl 9 i0 Tryd.underlying24 hinfo cap A rfl rfl ?_))
        have HBZ := Lib.hid (Below.refl wr.heap.size wr)
        have HKB := Lib.hid (show KyG wr none 0 0 ks from ⟨HKL.out, fun h => absurd h (by omega), 0, 0, fun h => absurd h (by omega), fun k x hx => by rw [hks0] at hx; simp at hx⟩)
        clear hks0 HA HCL HBE
        have hz5 := HBZ.out
        obtain ⟨x0, x1, x2, x3, x4, x5, x6, x7, x8, x9, x10⟩ := cb_cells (HC1.out.new hz5)
        simp only [str_list] at x0 x1 x2 x3 x4 x5 x6 x7 x8 x9 x10
        go_upto_region 11 with fail
        have hba : Below wr.heap.size wr (wr.alloc (.cells #[.int .u8 vb, .slice none 0 0, .int .u8 cv, .string ky, .string vl, .int .u32 fl, .int .i64 ex, .int .u64 id, .int .u64 by_, .int .i64 bt, .bool qt] 30)) := (Below.refl _ _).alloc (Nat.le_refl _) _
        have hDY : Cb (wr.alloc (.cells #[.int .u8 vb, .slice none 0 0, .int .u8 cv, .string ky, .string vl, .int .u32 fl, .int .i64 ex, .int .u64 id, .int .u64 by_, .int .i64 bt, .bool qt] 30)) wr.heap.size (cmdC ⟨vb, ks, cv, ky.data.toList, vl.data.toList, fl, ex, id, by_, bt, qt⟩ (.slice none 0 0)) := cb_new (by simp only [cmdC, str_list])
        have hXY := hz5.trans (hba.mono hz5.size)
        have hKY := HKB.out.on hba
        generalize wr.alloc _ = Y at *
        have HY := Lib.hid (HB1.out.trans (hXY.mono HB1.out.size))
        have HCY := Lib.hid (HC1.out.new hXY)
        have HDY := Lib.hid hDY
        have HKY := Lib.hid hKY
        clear hba hDY hXY hKY hz5 HBZ HKB x0 x1 x2 x3 x4 x5 x6 x7 x8 x9 x10
        obtain ⟨y0, y1, y2, y3, y4, y5, y6, y7, y8, y9, y10⟩ := cb_cells HCY.out
        simp only [str_list] at y0 y1 y2 y3 y4 y5 y6 y7 y8 y9 y10
        have HLC := Lib.hid (clinew ⟨vb, ks, cv, ky.data.toList, vl.data.toList, fl, ex, id, by_, bt, qt⟩ A 0 cap Y HR.out (HK.out.on HY.out) (by omega) (Nat.le_trans HTOT.out (by omega)) (ll_tab HT.out HY.out))
        simp only [cmdC, str_list] at HLC
        have HRL := Lib.hid (fun (W : World) (h : Below Y.heap.size Y W) => rlinew ⟨vb, ks, cv, ky.data.toList, vl.data.toList, fl, ex, id, by_, bt, qt⟩ none 0 0 W HVB.out HR.out (HKY.out.on h) (by omega) (Nat.le_trans HTOT.out (by omega)))
        simp only [cmdC, str_list] at HRL
        have HOT := Lib.hid (fun (W : World) => otherG ⟨vb, ks, cv, ky.data.toList, vl.data.toList, fl, ex, id, by_, bt, qt⟩ none 0 0 W)
        simp only [cmdC, str_list] at HOT
        have HSA := Lib.hid (fun (W : World) (h : Below Y.heap.size Y W) => lsame29G ⟨vb, ks, cv, ky.data.toList, vl.data.toList, fl, ex, id, by_, bt, qt⟩ A none 0 cap 0 W ((HK.out.on HY.out).on h) (HKY.out.on h) HNM.out)
        simp only [cmdC, str_list] at HSA
        obtain ⟨LS, hLS⟩ : ∃ LS, (lineO ⟨vb, ks, cv, ky.data.toList, vl.data.toList, fl, ex, id, by_, bt, qt⟩).getD [] = LS := ⟨_, rfl⟩
        obtain ⟨LB, hLB⟩ : ∃ LB, (lineO ⟨vb, ks, cv, ky.data.toList, vl.data.toList, fl, ex, id, by_, bt, qt⟩).isSome = LB := ⟨_, rfl⟩
        unfold LinePost at HLC HRL
        rw [hLS, hLB] at HLC
        simp only [hLS, hLB] at HRL
        clear hLS hLB
        go_upto_region 12 with (go_at_call 13; go_loud ((with_reducible refine HLC.out.mono ?_); rintro e W2 ⟨rfl, hb2⟩))
        obtain ⟨z0, z1, z2, z3, z4, z5, z6, z7, z8, z9, z10⟩ := cb_cells (HDY.out.new hb2)
        simp only [str_list] at z0 z1 z2 z3 z4 z5 z6 z7 z8 z9 z10
        go_upto_region 13 with (first
          | (go_at_call 15; go_loud ((with_reducible refine (HOT.out _).mono ?_); rintro e W3 ⟨rfl, hb3⟩; have hb23 := hb2.trans (hb3.mono hb2.size)))
          | (go_at_call 14; go_loud ((with_reducible refine (HRL.out _ hb23).mono ?_); rintro e W4 ⟨rfl, hb4⟩; have hb24 := hb23.trans (hb4.mono hb23.size))))
        have hbd := hb24.trans ((Below.refl _ _).drew.mono hb24.size)
        have hsall : ∀ X, Below Y.heap.size Y X → X.cell? ⟨w.heap.size, 0, none⟩ = some (.int .u8 vb) ∧ X.cell? ⟨w.heap.size, 1, none⟩ = some (.slice A 0 cap) ∧ X.cell? ⟨w.heap.size, 2, none⟩ = some (.int .u8 cv) ∧ X.cell? ⟨w.heap.size, 3, none⟩ = some (.string ky) ∧ X.cell? ⟨w.heap.size, 4, none⟩ = some (.string vl) ∧ X.cell? ⟨w.heap.size, 5, none⟩ = some (.int .u32 fl) ∧ X.cell? ⟨w.heap.size, 6, none⟩ = some (.int .i64 ex) ∧ X.cell? ⟨w.heap.size, 7, none⟩ = some (.int .u64 id) ∧ X.cell? ⟨w.heap.size, 8, none⟩ = some (.int .u64 by_) ∧ X.cell? ⟨w.heap.size, 9, none⟩ = some (.int .i64 bt) ∧ X.cell? ⟨w.heap.size, 10, none⟩ = some (.bool qt) ∧ X.cell? ⟨wr.heap.size, 0, none⟩ = some (.int .u8 vb) ∧ X.cell? ⟨wr.heap.size, 1, none⟩ = some (.slice none 0 0) ∧ X.cell? ⟨wr.heap.size, 2, none⟩ = some (.int .u8 cv) ∧ X.cell? ⟨wr.heap.size, 3, none⟩ = some (.string ky) ∧ X.cell? ⟨wr.heap.size, 4, none⟩ = some (.string vl) ∧ X.cell? ⟨wr.heap.size, 5, none⟩ = some (.int .u32 fl) ∧ X.cell? ⟨wr.heap.size, 6, none⟩ = some (.int .i64 ex) ∧ X.cell? ⟨wr.heap.size, 7, none⟩ = some (.int .u64 id) ∧ X.cell? ⟨wr.heap.size, 8, none⟩ = some (.int .u64 by_) ∧ X.cell? ⟨wr.heap.size, 9, none⟩ = some (.int .i64 bt) ∧ X.cell? ⟨wr.heap.size, 10, none⟩ = some (.bool qt) := fun X hX => by
          obtain ⟨a0, a1, a2, a3, a4, a5, a6, a7, a8, a9, a10⟩ := cb_cells (HCY.out.new hX)
          obtain ⟨b0, b1, b2, b3, b4, b5, b6, b7, b8, b9, b10⟩ := cb_cells (HDY.out.new hX)
          simp only [str_list] at a0 a1 a2 a3 a4 a5 a6 a7 a8 a9 a10 b0 b1 b2 b3 b4 b5 b6 b7 b8 b9 b10
          exact ⟨a0, a1, a2, a3, a4, a5, a6, a7, a8, a9, a10, b0, b1, b2, b3, b4, b5, b6, b7, b8, b9, b10⟩
        have HSAL := Lib.hid hsall
        have HB24 := Lib.hid hb24
        clear hsall z0 z1 z2 z3 z4 z5 z6 z7 z8 z9 z10 y0 y1 y2 y3 y4 y5 y6 y7 y8 y9 y10 hb2 hb3 hb23 hb4
        have hd := HSAL.out _ hbd
        go_region_held3 (fun X => X.cell? ⟨w.heap.size, 0, none⟩ = some (.int .u8 vb) ∧ X.cell? ⟨w.heap.size, 1, none⟩ = some (.slice A 0 cap) ∧ X.cell? ⟨w.heap.size, 2, none⟩ = some (.int .u8 cv) ∧ X.cell? ⟨w.heap.size, 3, none⟩ = some (.string ky) ∧ X.cell? ⟨w.heap.size, 4, none⟩ = some (.string vl) ∧ X.cell? ⟨w.heap.size, 5, none⟩ = some (.int .u32 fl) ∧ X.cell? ⟨w.heap.size, 6, none⟩ = some (.int .i64 ex) ∧ X.cell? ⟨w.heap.size, 7, none⟩ = some (.int .u64 id) ∧ X.cell? ⟨w.heap.size, 8, none⟩ = some (.int .u64 by_) ∧ X.cell? ⟨w.heap.size, 9, none⟩ = some (.int .i64 bt) ∧ X.cell? ⟨w.heap.size, 10, none⟩ = some (.bool qt) ∧ X.cell? ⟨wr.heap.size, 0, none⟩ = some (.int .u8 vb) ∧ X.cell? ⟨wr.heap.size, 1, none⟩ = some (.slice none 0 0) ∧ X.cell? ⟨wr.heap.size, 2, none⟩ = some (.int .u8 cv) ∧ X.cell? ⟨wr.heap.size, 3, none⟩ = some (.string ky) ∧ X.cell? ⟨wr.heap.size, 4, none⟩ = some (.string vl) ∧ X.cell? ⟨wr.heap.size, 5, none⟩ = some (.int .u32 fl) ∧ X.cell? ⟨wr.heap.size, 6, none⟩ = some (.int .i64 ex) ∧ X.cell? ⟨wr.heap.size, 7, none⟩ = some (.int .u64 id) ∧ X.cell? ⟨wr.heap.size, 8, none⟩ = some (.int .u64 by_) ∧ X.cell? ⟨wr.heap.size, 9, none⟩ = some (.int .i64 bt) ∧ X.cell? ⟨wr.heap.size, 10, none⟩ = some (.bool qt))
          (first | exact hd | exact he5 | exact he6 | exact he7)
          (first
            | (go_at_call 15; (with_reducible refine (HOT.out _).mono ?_); rintro e W5 ⟨rfl, hb5⟩; have hb25 := hbd.trans (hb5.mono hbd.size); have he5 := HSAL.out _ hb25)
            | (go_at_call 12; (with_reducible refine (HSA.out _ hb25).mono ?_); rintro e W6 ⟨rfl, hb6⟩; have hb26 := hb25.trans (hb6.mono hb25.size); have he6 := HSAL.out _ hb26)
            | (go_at_call 9; (with_reducible refine (lives29 _).mono ?_); rintro e W7 ⟨rfl, hb7⟩; have hb27 := hb26.trans (hb7.mono hb26.size); have he7 := HSAL.out _ hb27))
        all_goals
          go_wp2_with fail
          go_ret
          exact ⟨rfl, HY.out.trans (hb27.mono HY.out.size)⟩
      · obtain rfl := HA.out.1 (by omega)
        have hnc := HA.out.2 (by omega)
        go_upto_region 9 with (at_builtin; go_loud (refine wpList_append_own_at _ rfl (.const (.slice none 0 0)) (.tmp 53) 24 rfl wr.heap.size 9 i0 _ 1 16 Tryd.underlying24 hinfo hzi0 hzi1 hzi2 rfl (by decide) (.slice none 0 0) 0 [] rfl (World.ownsRow_nil _ _ _ _) ⟨g, o, none⟩ n cap (ks.map fun x => .string ⟨x.toArray⟩) rfl (by rw [List.length_map, HKL.out, Nat.mul_one]) (strs_at HBE.out) strs_one (by unfold maxLen; omega) (by omega) (Nat.le_refl _) ?_; intro v5 Z5 hown5 hgr5 hnil5 hat5; obtain ⟨g5, cap5, rfl, q1', ho5, hz5⟩ := nil_row HKL.out (by omega) hown5 hgr5; have HO5 := Lib.hid (And.intro ho5 (And.intro hz5 q1')); clear hown5 hgr5 hnil5 hat5 ho5 hz5 q1'))
        have HKB := Lib.hid (show KyG Z5 (some ⟨g5, 0, none⟩) n cap5 ks from ⟨HKL.out, fun _ => HO5.out.2.2, g5, 0, fun _ => rfl, fun k x hx => by
          have q := HO5.out.1.cells (g := g5) rfl k (.string ⟨x.toArray⟩) (by rw [List.getElem?_map, hx]; rfl)
          rw [Addr.add_lit] at q
          exact ⟨(HO5.out.1.lt g5 rfl).2, q⟩⟩)
        have HBZ := Lib.hid HO5.out.2.1
        obtain ⟨KA, hKA⟩ : ∃ KA : Option Addr, some (⟨g5, 0, none⟩ : Addr) = KA := ⟨_, rfl⟩
        obtain ⟨kc, hkc⟩ : ∃ kc, cap5 = kc := ⟨_, rfl⟩
        rw [hKA, hkc] at HKB ⊢
        clear hKA hkc HO5
        obtain ⟨A, hA⟩ : ∃ A : Option Addr, some (⟨g, o, none⟩ : Addr) = A := ⟨_, rfl⟩
        rw [hA] at HK HC1 ⊢
        clear hA HA HCL HBE
        have hz5 := HBZ.out
        obtain ⟨x0, x1, x2, x3, x4, x5, x6, x7, x8, x9, x10⟩ := cb_cells (HC1.out.new hz5)
        simp only [str_list] at x0 x1 x2 x3 x4 x5 x6 x7 x8 x9 x10
        go_upto_region 11 with fail
        have hba : Below Z5.heap.size Z5 (Z5.alloc (.cells #[.int .u8 vb, .slice KA n kc, .int .u8 cv, .string ky, .string vl, .int .u32 fl, .int .i64 ex, .int .u64 id, .int .u64 by_, .int .i64 bt, .bool qt] 30)) := (Below.refl _ _).alloc (Nat.le_refl _) _
        have hDY : Cb (Z5.alloc (.cells #[.int .u8 vb, .slice KA n kc, .int .u8 cv, .string ky, .string vl, .int .u32 fl, .int .i64 ex, .int .u64 id, .int .u64 by_, .int .i64 bt, .bool qt] 30)) Z5.heap.size (cmdC ⟨vb, ks, cv, ky.data.toList, vl.data.toList, fl, ex, id, by_, bt, qt⟩ (.slice KA n kc)) := cb_new (by simp only [cmdC, str_list])
        have hXY := hz5.trans (hba.mono hz5.size)
        have hKY := HKB.out.on hba
        generalize Z5.alloc _ = Y at *
        have HY := Lib.hid (HB1.out.trans (hXY.mono HB1.out.size))
        have HCY := Lib.hid (HC1.out.new hXY)
        have HDY := Lib.hid hDY
        have HKY := Lib.hid hKY
        clear hba hDY hXY hKY hz5 HBZ HKB x0 x1 x2 x3 x4 x5 x6 x7 x8 x9 x10
        obtain ⟨y0, y1, y2, y3, y4, y5, y6, y7, y8, y9, y10⟩ := cb_cells HCY.out
        simp only [str_list] at y0 y1 y2 y3 y4 y5 y6 y7 y8 y9 y10
        have HLC := Lib.hid (clinew ⟨vb, ks, cv, ky.data.toList, vl.data.toList, fl, ex, id, by_, bt, qt⟩ A n cap Y HR.out (HK.out.on HY.out) (by omega) (Nat.le_trans HTOT.out (by omega)) (ll_tab HT.out HY.out))
        simp only [cmdC, str_list] at HLC
        have HRL := Lib.hid (fun (W : World) (h : Below Y.heap.size Y W) => rlinew ⟨vb, ks, cv, ky.data.toList, vl.data.toList, fl, ex, id, by_, bt, qt⟩ KA n kc W HVB.out HR.out (HKY.out.on h) (by omega) (Nat.le_trans HTOT.out (by omega)))
        simp only [cmdC, str_list] at HRL
        have HOT := Lib.hid (fun (W : World) => otherG ⟨vb, ks, cv, ky.data.toList, vl.data.toList, fl, ex, id, by_, bt, qt⟩ KA n kc W)
        simp only [cmdC, str_list] at HOT
        have HSA := Lib.hid (fun (W : World) (h : Below Y.heap.size Y W) => lsame29G ⟨vb, ks, cv, ky.data.toList, vl.data.toList, fl, ex, id, by_, bt, qt⟩ A KA n cap kc W ((HK.out.on HY.out).on h) (HKY.out.on h) HNM.out)
        simp only [cmdC, str_list] at HSA
        obtain ⟨LS, hLS⟩ : ∃ LS, (lineO ⟨vb, ks, cv, ky.data.toList, vl.data.toList, fl, ex, id, by_, bt, qt⟩).getD [] = LS := ⟨_, rfl⟩
        obtain ⟨LB, hLB⟩ : ∃ LB, (lineO ⟨vb, ks, cv, ky.data.toList, vl.data.toList, fl, ex, id, by_, bt, qt⟩).isSome = LB := ⟨_, rfl⟩
        unfold LinePost at HLC HRL
        rw [hLS, hLB] at HLC
        simp only [hLS, hLB] at HRL
        clear hLS hLB
        go_upto_region 12 with (go_at_call 13; go_loud ((with_reducible refine HLC.out.mono ?_); rintro e W2 ⟨rfl, hb2⟩))
        obtain ⟨z0, z1, z2, z3, z4, z5, z6, z7, z8, z9, z10⟩ := cb_cells (HDY.out.new hb2)
        simp only [str_list] at z0 z1 z2 z3 z4 z5 z6 z7 z8 z9 z10
        go_upto_region 13 with (first
          | (go_at_call 15; go_loud ((with_reducible refine (HOT.out _).mono ?_); rintro e W3 ⟨rfl, hb3⟩; have hb23 := hb2.trans (hb3.mono hb2.size)))
          | (go_at_call 14; go_loud ((with_reducible refine (HRL.out _ hb23).mono ?_); rintro e W4 ⟨rfl, hb4⟩; have hb24 := hb23.trans (hb4.mono hb23.size))))
        have hbd := hb24.trans ((Below.refl _ _).drew.mono hb24.size)
        have hsall : ∀ X, Below Y.heap.size Y X → X.cell? ⟨w.heap.size, 0, none⟩ = some (.int .u8 vb) ∧ X.cell? ⟨w.heap.size, 1, none⟩ = some (.slice A n cap) ∧ X.cell? ⟨w.heap.size, 2, none⟩ = some (.int .u8 cv) ∧ X.cell? ⟨w.heap.size, 3, none⟩ = some (.string ky) ∧ X.cell? ⟨w.heap.size, 4, none⟩ = some (.string vl) ∧ X.cell? ⟨w.heap.size, 5, none⟩ = some (.int .u32 fl) ∧ X.cell? ⟨w.heap.size, 6, none⟩ = some (.int .i64 ex) ∧ X.cell? ⟨w.heap.size, 7, none⟩ = some (.int .u64 id) ∧ X.cell? ⟨w.heap.size, 8, none⟩ = some (.int .u64 by_) ∧ X.cell? ⟨w.heap.size, 9, none⟩ = some (.int .i64 bt) ∧ X.cell? ⟨w.heap.size, 10, none⟩ = some (.bool qt) ∧ X.cell? ⟨Z5.heap.size, 0, none⟩ = some (.int .u8 vb) ∧ X.cell? ⟨Z5.heap.size, 1, none⟩ = some (.slice KA n kc) ∧ X.cell? ⟨Z5.heap.size, 2, none⟩ = some (.int .u8 cv) ∧ X.cell? ⟨Z5.heap.size, 3, none⟩ = some (.string ky) ∧ X.cell? ⟨Z5.heap.size, 4, none⟩ = some (.string vl) ∧ X.cell? ⟨Z5.heap.size, 5, none⟩ = some (.int .u32 fl) ∧ X.cell? ⟨Z5.heap.size, 6, none⟩ = some (.int .i64 ex) ∧ X.cell? ⟨Z5.heap.size, 7, none⟩ = some (.int .u64 id) ∧ X.cell? ⟨Z5.heap.size, 8, none⟩ = some (.int .u64 by_) ∧ X.cell? ⟨Z5.heap.size, 9, none⟩ = some (.int .i64 bt) ∧ X.cell? ⟨Z5.heap.size, 10, none⟩ = some (.bool qt) := fun X hX => by
          obtain ⟨a0, a1, a2, a3, a4, a5, a6, a7, a8, a9, a10⟩ := cb_cells (HCY.out.new hX)
          obtain ⟨b0, b1, b2, b3, b4, b5, b6, b7, b8, b9, b10⟩ := cb_cells (HDY.out.new hX)
          simp only [str_list] at a0 a1 a2 a3 a4 a5 a6 a7 a8 a9 a10 b0 b1 b2 b3 b4 b5 b6 b7 b8 b9 b10
          exact ⟨a0, a1, a2, a3, a4, a5, a6, a7, a8, a9, a10, b0, b1, b2, b3, b4, b5, b6, b7, b8, b9, b10⟩
        have HSAL := Lib.hid hsall
        have HB24 := Lib.hid hb24
        clear hsall z0 z1 z2 z3 z4 z5 z6 z7 z8 z9 z10 y0 y1 y2 y3 y4 y5 y6 y7 y8 y9 y10 hb2 hb3 hb23 hb4
        have hd := HSAL.out _ hbd
        go_region_held3 (fun X => X.cell? ⟨w.heap.size, 0, none⟩ = some (.int .u8 vb) ∧ X.cell? ⟨w.heap.size, 1, none⟩ = some (.slice A n cap) ∧ X.cell? ⟨w.heap.size, 2, none⟩ = some (.int .u8 cv) ∧ X.cell? ⟨w.heap.size, 3, none⟩ = some (.string ky) ∧ X.cell? ⟨w.heap.size, 4, none⟩ = some (.string vl) ∧ X.cell? ⟨w.heap.size, 5, none⟩ = some (.int .u32 fl) ∧ X.cell? ⟨w.heap.size, 6, none⟩ = some (.int .i64 ex) ∧ X.cell? ⟨w.heap.size, 7, none⟩ = some (.int .u64 id) ∧ X.cell? ⟨w.heap.size, 8, none⟩ = some (.int .u64 by_) ∧ X.cell? ⟨w.heap.size, 9, none⟩ = some (.int .i64 bt) ∧ X.cell? ⟨w.heap.size, 10, none⟩ = some (.bool qt) ∧ X.cell? ⟨Z5.heap.size, 0, none⟩ = some (.int .u8 vb) ∧ X.cell? ⟨Z5.heap.size, 1, none⟩ = some (.slice KA n kc) ∧ X.cell? ⟨Z5.heap.size, 2, none⟩ = some (.int .u8 cv) ∧ X.cell? ⟨Z5.heap.size, 3, none⟩ = some (.string ky) ∧ X.cell? ⟨Z5.heap.size, 4, none⟩ = some (.string vl) ∧ X.cell? ⟨Z5.heap.size, 5, none⟩ = some (.int .u32 fl) ∧ X.cell? ⟨Z5.heap.size, 6, none⟩ = some (.int .i64 ex) ∧ X.cell? ⟨Z5.heap.size, 7, none⟩ = some (.int .u64 id) ∧ X.cell? ⟨Z5.heap.size, 8, none⟩ = some (.int .u64 by_) ∧ X.cell? ⟨Z5.heap.size, 9, none⟩ = some (.int .i64 bt) ∧ X.cell? ⟨Z5.heap.size, 10, none⟩ = some (.bool qt))
          (first | exact hd | exact he5 | exact he6 | exact he7)
          (first
            | (go_at_call 15; (with_reducible refine (HOT.out _).mono ?_); rintro e W5 ⟨rfl, hb5⟩; have hb25 := hbd.trans (hb5.mono hbd.size); have he5 := HSAL.out _ hb25)
            | (go_at_call 12; (with_reducible refine (HSA.out _ hb25).mono ?_); rintro e W6 ⟨rfl, hb6⟩; have hb26 := hb25.trans (hb6.mono hb25.size); have he6 := HSAL.out _ hb26)
            | (go_at_call 9; (with_reducible refine (lives29 _).mono ?_); rintro e W7 ⟨rfl, hb7⟩; have hb27 := hb26.trans (hb7.mono hb26.size); have he7 := HSAL.out _ hb27))
        all_goals
          go_wp2_with fail
          go_ret
          exact ⟨rfl, HY.out.trans (hb27.mono HY.out.size)⟩
end Go.Proofs.YtifbcejekdhnlaaDoor
