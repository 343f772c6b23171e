/- law StripesOf. -/
import Derived.Test.YtadaeddklahjjaaSo
import Derived.Test.YtadaeddklahjjaaMk
import Derived.Deep.QuietTactic
import Derived.BigQuiet
import Derived.StillTailTactics
import Derived.Deep.RegionHeld3
import Derived.Deep.Cut
import Derived.Deep.CutBlock
namespace Go.Proofs.Ytadaeddklahjjaa
open Go.RowKit
set_option linter.unusedVariables false
set_option linter.unusedSimpArgs false
set_option maxHeartbeats 4000000 in
set_option maxRecDepth 100000 in
theorem walk_StripesOf (a0 : Option Addr) (l0 c0 : Nat) (a1 : Int) (w : World) (w0 : Reads Try.prog w 97 (.slice a0 l0 c0)) (w1 : (Lit.int .u64 a1).wf = true) :
    Calls Try.prog 6 #[.slice a0 l0 c0, .int .u64 a1] w fun e w' => e = .returned (.bool true) ∧ Below w.heap.size w w' := by
  have hu := bounds_u64 w1
  obtain ⟨hc0, hlc, hcm, L, hL⟩ := reads_places w0
  have CO := Lib.hid (fun W => oddw a1 (by omega) W)
  have CR := Lib.hid (fun W => roddw a1 (by omega) W)
  have HL := Lib.hid hL
  have HC0 := Lib.hid hc0
  clear w0 w1 hu hL hc0
  by_cases h300 : 300 < l0
  · have h1 : decide ((300 : Int) < (l0 : Int)) = true := decide_eq_true (by omega)
    go_enter Try.func6, Try.ntmps6
    go_wp2_with fail
    refine (lives12 _).mono ?_
    rintro e w2 ⟨rfl, K⟩
    have HK := Lib.hid K
    clear K
    go_wp2_with fail
    go_ret
    exact ⟨rfl, HK.out⟩
  · have h1 : decide ((300 : Int) < (l0 : Int)) = false := decide_eq_false (by omega)
    go_enter Try.func6, Try.ntmps6
    go_upto_region 3 with fail
    go_wp2_with (at_builtin; refine wpList_copy_places _ rfl _ _ rfl rfl a0 l0 c0 L rfl HL.out HC0.out (by omega) ?_; intro v' w1 hown K1)
    obtain ⟨t, ct, rfl, -, -, -, hlt⟩ := LieG.of (Lst.of_own hown)
    have HT := Lib.hid (LayP.of hlt HL.out.1.symm)
    have HK1 := Lib.hid K1
    have CS := Lib.hid (strOf HT.out (by omega))
    clear hown hlt K1
    have CR2 := Lib.hid (fun (W : World) (hb : Below w1.heap.size w1 W) => rstrOf ((HL.out.new HK1.out).new hb) (by omega : l0 ≤ 1000000))
    obtain ⟨D, hD⟩ : ∃ D, D = strsF L := ⟨_, rfl⟩
    rw [← hD] at CS CR2
    have hDl : D.length ≤ 300 := by rw [hD]; have := strsF_len L L.length; rw [List.take_length] at this; have := HL.out.1; omega
    have HD := Lib.hid hD
    clear hD
    refine CS.out.mono ?_
    rintro e w2 ⟨a2, rfl, hl2, K2⟩
    obtain ⟨m, hm⟩ : ∃ m, m = D.length := ⟨_, rfl⟩
    rw [← hm] at hl2 hDl
    rw [← hm]
    have HM := Lib.hid hm
    have HL2 := Lib.hid hl2
    have HK2 := Lib.hid K2
    have hne2 : ∀ g, a2 = some ⟨g, 0, none⟩ → 0 < m → g < w2.heap.size := by
      intro g hg h0
      obtain ⟨_, ⟨e, h0'⟩ | ⟨g', cap, e, hB, hg', _⟩⟩ := hl2
      · omega
      · injection e with e1 e2 e3
        rw [hg] at e1
        injection e1 with e1
        injection e1 with e1
        omega
    have HNE2 := Lib.hid hne2
    clear hl2 K2 hm hne2
    go_upto_region 5 with fail
    go_wp2_with fail
    refine (CR2.out _ HK2.out).mono ?_
    rintro e w3 ⟨C, v, hC, rfl, hown, K3⟩
    obtain ⟨a3, c3, rfl, hcm3, hmc3, h03, hl3⟩ := LieG.of (Lst.of_own hown)
    rw [← HM.out] at hmc3 hl3 hown h03
    rw [← HM.out]
    have hne : 0 < m → ∀ g, a3 = some ⟨g, 0, none⟩ → a2 ≠ some ⟨g, 0, none⟩ := by
      intro h0 g hg e
      have q := HNE2.out g e h0
      obtain ⟨_, ⟨e', h0'⟩ | ⟨g', cap, e', hB, hg', _⟩⟩ := Lst.of_own hown
      · omega
      · injection e' with e1 e2 e3
        rw [hg] at e1
        injection e1 with e1
        injection e1 with e1
        omega
    have HNE := Lib.hid hne
    have HS := Lib.hid (SoA.start HM.out HL2.out HK2.out K3)
    have HL3 := Lib.hid hl3
    have HOWN := Lib.hid hown
    clear hne hl3 K3 hown h03
    go_upto_block 0 with (first | (go_at_call 37; ((with_reducible refine (CO.out _).mono ?_); rintro e w4 ⟨rfl, rfl⟩)) | (go_at_call 38; ((with_reducible refine (CR.out _).mono ?_); rintro e w5 ⟨rfl, rfl⟩)))
    go_cut [4, 8] from 11 (fun s4 s8 wx => Hid (SoA w1 w3 wx a2 D m))
    case first =>
      go_wp2_with fail
      go_loopw [8] (fun i X => ∃ k0 : Nat, k0 ≤ m ∧ i = .int .i64 k0 ∧ Hid (SoA w1 w3 X a2 D k0)) (fun i _ => m - (intOf i).toNat)
      case atStart => exact ⟨0, Nat.zero_le _, rfl, HS⟩
      case round =>
        obtain ⟨k0, hk0, rfl, hS⟩ := hrel
        by_cases hlt : k0 < m
        · obtain ⟨x, hx⟩ : ∃ x, D[k0]? = some x := ⟨_, List.getElem?_eq_getElem (by have := HM.out; omega)⟩
          obtain ⟨g, rfl, hg1, e0, ef⟩ := hS.out.2.2 k0 x (Nat.le_refl _) hx
          obtain ⟨b, rfl, hb, -, -, e1⟩ := (hS.out.row HL3.out HNE.out).u64 HM.out hx
          have hkc : k0 < c3 := by omega
          clear hx hb
          go_wp2_with fail
          go_quiet (fail)
          go_wp2_with fail
          go_roundw
          case rel => exact ⟨k0 + 1, by omega, by go_num, Lib.hid ((hS.out.drewN nq).set hg1 _)⟩
          case measure => simp [intOf]; omega
        · obtain rfl : m = k0 := by omega
          go_wp2_with fail
          go_meet
          case rel => exact hS
    have hS := hcut
    generalize wc = X0 at *
    have HW := Lib.hid hS.out.1
    have HLW := Lib.hid ((HL.out.new HK1.out).new hS.out.1)
    have HTW := Lib.hid (HT.out.new hS.out.1)
    have HL3W := Lib.hid (hS.out.row HL3.out HNE.out)
    clear hcut hS HS HNE2 HL2 HK2 HOWN HNE HL3 HT CR2 CS CO CR
    go_upto_block 2 with fail
    go_cut [9] from 11 (fun s9 wx => Hid (Below X0.heap.size X0 wx))
    case first =>
      go_wp2_with fail
      go_loopw [9] (fun i X => ∃ k0 : Nat, k0 ≤ l0 ∧ i = .int .i64 k0 ∧ Hid (Below X0.heap.size X0 X)) (fun i _ => l0 - (intOf i).toNat)
      case atStart => exact ⟨0, Nat.zero_le _, rfl, Lib.hid (Below.refl _ _)⟩
      case round =>
        obtain ⟨j, hj, rfl, hX⟩ := hrel
        by_cases hlt : j < l0
        · obtain ⟨⟨x, y⟩, hx⟩ : ∃ x, L[j]? = some x := ⟨_, List.getElem?_eq_getElem (by have := HL.out.1; omega)⟩
          obtain ⟨g, o, rfl, hg1, e0, e1⟩ := (HLW.out.new hX.out).2 _ _ _ hx
          obtain ⟨b, o', rfl, hb, f0, f1⟩ := (HTW.out.new hX.out).2 _ _ _ hx
          have hkc : j < c0 := by omega
          have hkd : j < ct := by omega
          clear hx
          go_wp2_with fail
          go_quiet (fail)
          go_wp2_with fail
          go_roundw
          case rel => exact ⟨j + 1, by omega, by go_num, Lib.hid (below_then hX.out (belowPd (Below.refl _ _) _))⟩
          case measure => simp [intOf]; omega
        · obtain rfl : l0 = j := by omega
          go_wp2_with fail
          go_meet
          case rel => exact hX
    have hX := hcut
    generalize wc = X1 at *
    have HWW := Lib.hid (below_then HK1.out (below_then HW.out hX.out))
    have cs3 := strOf (HTW.out.new hX.out) (by omega)
    rw [← HD.out] at cs3
    have CS3 := Lib.hid cs3
    have HL5 := Lib.hid (HL3W.out.new hX.out)
    clear cs3 hX hcut HW HLW HTW HL3W
    go_upto_region 19 with fail
    go_wp2_with fail
    refine CS3.out.mono ?_
    rintro e w6 ⟨a5, rfl, hl5, K6⟩
    rw [← HM.out] at hl5
    rw [← HM.out]
    obtain ⟨a5', c5, e5, -, -, -, hl5⟩ := LieG.of hl5
    injection e5 with e5a e5b e5c
    subst e5a
    subst e5c
    clear e5b
    have HL6 := Lib.hid (HL5.out.new K6)
    have HL5' := Lib.hid hl5
    have HW6 := Lib.hid (below_then HWW.out K6)
    have HD6 := Lib.hid (show Below w6.heap.size w6 w6.drew from (Below.refl _ _).drew)
    clear hl5 K6 HWW CS3 HL5
    go_upto_region 20 with fail
    by_cases hm0 : m = 0
    · subst hm0
      clear HL6 HL5' hl5
      refine wp_region_held_drew (S := fun _ => True) (by kernel_rfl) trivial (fun _ => ?_)
      refine wpAnyH_take (i := 0) (oi := { dst := some 75, op := Op.move (Operand.tmp 10), type := 98, pos := "law.go:36", after := #[], guard := none }) (v := .slice a5 0 0) rfl (by kernel_rfl) (by kernel_rfl) (by kernel_rfl) (fun _ _ _ h => h) (Or.inl ⟨by kernel_rfl, fun w _ => by kernel_rfl⟩) trivial ?_
      simp only [Act.put, List.setIfInBounds_toArray, List.set_cons_zero, List.set_cons_succ]
      refine wpAnyH_take (i := 1) (oi := { dst := some 76, op := Op.call { callee := Callee.builtin Builtin.len, args := #[Operand.tmp 75], argTypes := #[98] }, type := 3, pos := "law.go:36", after := #[{ on := 0, ground := Ground.data }], guard := none }) (v := .int .i64 0) rfl (by kernel_rfl) (by kernel_rfl) (by kernel_rfl) (fun _ _ _ h => h) (Or.inl ⟨by kernel_rfl, fun w _ => by kernel_rfl⟩) trivial ?_
      simp only [Act.put, List.setIfInBounds_toArray, List.set_cons_zero, List.set_cons_succ]
      refine wpAnyH_take (i := 2) (oi := { dst := some 77, op := Op.move (Operand.tmp 7), type := 98, pos := "law.go:36", after := #[], guard := none }) (v := .slice a3 0 c3) rfl (by kernel_rfl) (by kernel_rfl) (by kernel_rfl) (fun _ _ _ h => h) (Or.inl ⟨by kernel_rfl, fun w _ => by kernel_rfl⟩) trivial ?_
      simp only [Act.put, List.setIfInBounds_toArray, List.set_cons_zero, List.set_cons_succ]
      refine wpAnyH_take (i := 3) (oi := { dst := some 78, op := Op.call { callee := Callee.builtin Builtin.len, args := #[Operand.tmp 77], argTypes := #[98] }, type := 3, pos := "law.go:36", after := #[{ on := 2, ground := Ground.data }], guard := none }) (v := .int .i64 0) rfl (by kernel_rfl) (by kernel_rfl) (by kernel_rfl) (fun _ _ _ h => h) (Or.inl ⟨by kernel_rfl, fun w _ => by kernel_rfl⟩) trivial ?_
      simp only [Act.put, List.setIfInBounds_toArray, List.set_cons_zero, List.set_cons_succ]
      refine wpAnyH_take (i := 4) (oi := { dst := some 79, op := Op.binOp BinOp.eql 3 (Operand.tmp 76) (Operand.tmp 78) 3, type := 4, pos := "law.go:36", after := #[{ on := 1, ground := Ground.data }, { on := 3, ground := Ground.data }], guard := none }) (v := .bool true) rfl (by kernel_rfl) (by kernel_rfl) (by kernel_rfl) (fun _ _ _ h => h) (Or.inl ⟨by kernel_rfl, fun w _ => by kernel_rfl⟩) trivial ?_
      simp only [Act.put, List.setIfInBounds_toArray, List.set_cons_zero, List.set_cons_succ]
      refine wpAnyH_take (i := 5) (oi := { dst := some 80, op := Op.move (Operand.tmp 79), type := 4, pos := "law.go:36", after := #[{ on := 4, ground := Ground.data }], guard := none }) (v := .bool true) rfl (by kernel_rfl) (by kernel_rfl) (by kernel_rfl) (fun _ _ _ h => h) (Or.inl ⟨by kernel_rfl, fun w _ => by kernel_rfl⟩) trivial ?_
      simp only [Act.put, List.setIfInBounds_toArray, List.set_cons_zero, List.set_cons_succ]
      refine wpAnyH_take (i := 6) (oi := { dst := some 81, op := Op.move (Operand.tmp 10), type := 98, pos := "law.go:36", after := #[{ on := 5, ground := Ground.guard }], guard := some (5, true) }) (v := .slice a5 0 0) rfl (by kernel_rfl) (by kernel_rfl) (by kernel_rfl) (fun _ _ _ h => h) (Or.inl ⟨by kernel_rfl, fun w _ => by kernel_rfl⟩) trivial ?_
      simp only [Act.put, List.setIfInBounds_toArray, List.set_cons_zero, List.set_cons_succ]
      refine wpAnyH_take (i := 7) (oi := { dst := some 82, op := Op.call { callee := Callee.builtin Builtin.len, args := #[Operand.tmp 81], argTypes := #[98] }, type := 3, pos := "law.go:36", after := #[{ on := 6, ground := Ground.data }, { on := 5, ground := Ground.guard }], guard := some (5, true) }) (v := .int .i64 0) rfl (by kernel_rfl) (by kernel_rfl) (by kernel_rfl) (fun _ _ _ h => h) (Or.inl ⟨by kernel_rfl, fun w _ => by kernel_rfl⟩) trivial ?_
      simp only [Act.put, List.setIfInBounds_toArray, List.set_cons_zero, List.set_cons_succ]
      refine wpAnyH_take (i := 8) (oi := { dst := some 83, op := Op.binOp BinOp.eql 3 (Operand.tmp 82) (Operand.const (Value.int IntKind.i64 0)) 3, type := 4, pos := "law.go:36", after := #[{ on := 7, ground := Ground.data }, { on := 5, ground := Ground.guard }], guard := some (5, true) }) (v := .bool true) rfl (by kernel_rfl) (by kernel_rfl) (by kernel_rfl) (fun _ _ _ h => h) (Or.inl ⟨by kernel_rfl, fun w _ => by kernel_rfl⟩) trivial ?_
      simp only [Act.put, List.setIfInBounds_toArray, List.set_cons_zero, List.set_cons_succ]
      refine wpAnyH_take (i := 9) (oi := { dst := some 84, op := Op.move (Operand.tmp 83), type := 4, pos := "law.go:36", after := #[{ on := 8, ground := Ground.data }, { on := 5, ground := Ground.chain }, { on := 5, ground := Ground.guard }], guard := some (5, true) }) (v := .bool true) rfl (by kernel_rfl) (by kernel_rfl) (by kernel_rfl) (fun _ _ _ h => h) (Or.inl ⟨by kernel_rfl, fun w _ => by kernel_rfl⟩) trivial ?_
      simp only [Act.put, List.setIfInBounds_toArray, List.set_cons_zero, List.set_cons_succ]
      refine wpAnyH_take (i := 10) (oi := { dst := some 85, op := Op.move (Operand.tmp 10), type := 98, pos := "law.go:36", after := #[{ on := 9, ground := Ground.guard }], guard := some (9, false) }) (v := undef) rfl (by kernel_rfl) (by kernel_rfl) (by kernel_rfl) (fun _ _ _ h => h) (Or.inr ⟨by kernel_rfl, rfl⟩) trivial ?_
      simp only [Act.put, List.setIfInBounds_toArray, List.set_cons_zero, List.set_cons_succ]
      refine wpAnyH_take (i := 11) (oi := { dst := some 86, op := Op.indexAddr 98 (Operand.tmp 85) (Operand.const (Value.int IntKind.i64 0)), type := 0, pos := "law.go:36", after := #[{ on := 10, ground := Ground.data }, { on := 9, ground := Ground.guard }], guard := some (9, false) }) (v := undef) rfl (by kernel_rfl) (by kernel_rfl) (by kernel_rfl) (fun _ _ _ h => h) (Or.inr ⟨by kernel_rfl, rfl⟩) trivial ?_
      simp only [Act.put, List.setIfInBounds_toArray, List.set_cons_zero, List.set_cons_succ]
      refine wpAnyH_take (i := 12) (oi := { dst := some 87, op := Op.load 47 (Operand.tmp 86), type := 47, pos := "law.go:36", after := #[{ on := 11, ground := Ground.data }, { on := 9, ground := Ground.guard }], guard := some (9, false) }) (v := undef) rfl (by kernel_rfl) (by kernel_rfl) (by kernel_rfl) (fun _ _ _ h => h) (Or.inr ⟨by kernel_rfl, rfl⟩) trivial ?_
      simp only [Act.put, List.setIfInBounds_toArray, List.set_cons_zero, List.set_cons_succ]
      refine wpAnyH_take (i := 13) (oi := { dst := some 88, op := Op.move (Operand.tmp 7), type := 98, pos := "law.go:36", after := #[{ on := 9, ground := Ground.guard }], guard := some (9, false) }) (v := undef) rfl (by kernel_rfl) (by kernel_rfl) (by kernel_rfl) (fun _ _ _ h => h) (Or.inr ⟨by kernel_rfl, rfl⟩) trivial ?_
      simp only [Act.put, List.setIfInBounds_toArray, List.set_cons_zero, List.set_cons_succ]
      refine wpAnyH_take (i := 14) (oi := { dst := some 89, op := Op.indexAddr 98 (Operand.tmp 88) (Operand.const (Value.int IntKind.i64 0)), type := 0, pos := "law.go:36", after := #[{ on := 13, ground := Ground.data }, { on := 9, ground := Ground.guard }], guard := some (9, false) }) (v := undef) rfl (by kernel_rfl) (by kernel_rfl) (by kernel_rfl) (fun _ _ _ h => h) (Or.inr ⟨by kernel_rfl, rfl⟩) trivial ?_
      simp only [Act.put, List.setIfInBounds_toArray, List.set_cons_zero, List.set_cons_succ]
      refine wpAnyH_take (i := 15) (oi := { dst := some 90, op := Op.load 47 (Operand.tmp 89), type := 47, pos := "law.go:36", after := #[{ on := 14, ground := Ground.data }, { on := 9, ground := Ground.guard }], guard := some (9, false) }) (v := undef) rfl (by kernel_rfl) (by kernel_rfl) (by kernel_rfl) (fun _ _ _ h => h) (Or.inr ⟨by kernel_rfl, rfl⟩) trivial ?_
      simp only [Act.put, List.setIfInBounds_toArray, List.set_cons_zero, List.set_cons_succ]
      refine wpAnyH_take (i := 16) (oi := { dst := some 91, op := Op.binOp BinOp.eql 47 (Operand.tmp 87) (Operand.tmp 90) 47, type := 4, pos := "law.go:36", after := #[{ on := 12, ground := Ground.data }, { on := 15, ground := Ground.data }, { on := 9, ground := Ground.guard }], guard := some (9, false) }) (v := undef) rfl (by kernel_rfl) (by kernel_rfl) (by kernel_rfl) (fun _ _ _ h => h) (Or.inr ⟨by kernel_rfl, rfl⟩) trivial ?_
      simp only [Act.put, List.setIfInBounds_toArray, List.set_cons_zero, List.set_cons_succ]
      refine wpAnyH_take (i := 17) (oi := { dst := some 92, op := Op.pick (Operand.tmp 84) (Operand.const (Value.bool true)) (Operand.tmp 91), type := 4, pos := "law.go:36", after := #[{ on := 9, ground := Ground.data }, { on := 16, ground := Ground.data }, { on := 5, ground := Ground.guard }], guard := some (5, true) }) (v := .bool true) rfl (by kernel_rfl) (by kernel_rfl) (by kernel_rfl) (fun _ _ _ h => h) (Or.inl ⟨by kernel_rfl, fun w _ => by kernel_rfl⟩) trivial ?_
      simp only [Act.put, List.setIfInBounds_toArray, List.set_cons_zero, List.set_cons_succ]
      refine wpAnyH_take (i := 18) (oi := { dst := some 93, op := Op.pick (Operand.tmp 80) (Operand.tmp 92) (Operand.const (Value.bool false)), type := 4, pos := "law.go:36", after := #[{ on := 5, ground := Ground.data }, { on := 17, ground := Ground.data }], guard := none }) (v := .bool true) rfl (by kernel_rfl) (by kernel_rfl) (by kernel_rfl) (fun _ _ _ h => h) (Or.inl ⟨by kernel_rfl, fun w _ => by kernel_rfl⟩) trivial ?_
      simp only [Act.put, List.setIfInBounds_toArray, List.set_cons_zero, List.set_cons_succ]
      refine wpAnyH_take (i := 19) (oi := { dst := some 94, op := Op.move (Operand.tmp 93), type := 4, pos := "law.go:36", after := #[{ on := 18, ground := Ground.data }, { on := 9, ground := Ground.chain }], guard := none }) (v := .bool true) rfl (by kernel_rfl) (by kernel_rfl) (by kernel_rfl) (fun _ _ _ h => h) (Or.inl ⟨by kernel_rfl, fun w _ => by kernel_rfl⟩) trivial ?_
      simp only [Act.put, List.setIfInBounds_toArray, List.set_cons_zero, List.set_cons_succ]
      refine wpAnyH_call (i := 20) (o := { dst := some 95, op := Op.call { callee := Callee.value (Operand.func 34), args := #[], argTypes := #[] }, type := 4, pos := "law.go:36", after := #[{ on := 19, ground := Ground.chain }, { on := 19, ground := Ground.guard }], guard := some (19, true) }) (R := fun X => Below w6.drew.heap.size w6.drew X) (by kernel_rfl) rfl (by kernel_rfl) 34 #[] (by kernel_rfl) (.bool true) (lives12 _) ?_
      intro w7 K7
      have HK7 := Lib.hid K7
      clear K7
      refine ⟨trivial, ?_⟩
      simp only [Act.put, List.setIfInBounds_toArray, List.set_cons_zero, List.set_cons_succ]
      refine wpAnyH_take (i := 21) (oi := { dst := some 96, op := Op.pick (Operand.tmp 94) (Operand.tmp 95) (Operand.const (Value.bool false)), type := 4, pos := "law.go:36", after := #[{ on := 19, ground := Ground.data }, { on := 20, ground := Ground.data }], guard := none }) (v := .bool true) rfl (by kernel_rfl) (by kernel_rfl) (by kernel_rfl) (fun _ _ _ h => h) (Or.inl ⟨by kernel_rfl, fun w _ => by kernel_rfl⟩) trivial ?_
      simp only [Act.put, List.setIfInBounds_toArray, List.set_cons_zero, List.set_cons_succ]
      refine wpAnyH_take (i := 22) (oi := { dst := some 4, op := Op.assign (Operand.tmp 96), type := 4, pos := "law.go:36", after := #[{ on := 21, ground := Ground.data }, { on := 20, ground := Ground.chain }, { on := 0, ground := Ground.phase }, { on := 1, ground := Ground.phase }, { on := 2, ground := Ground.phase }, { on := 3, ground := Ground.phase }, { on := 4, ground := Ground.phase }, { on := 5, ground := Ground.phase }, { on := 6, ground := Ground.phase }, { on := 7, ground := Ground.phase }, { on := 8, ground := Ground.phase }, { on := 9, ground := Ground.phase }, { on := 10, ground := Ground.phase }, { on := 11, ground := Ground.phase }, { on := 12, ground := Ground.phase }, { on := 13, ground := Ground.phase }, { on := 14, ground := Ground.phase }, { on := 15, ground := Ground.phase }, { on := 16, ground := Ground.phase }, { on := 17, ground := Ground.phase }, { on := 18, ground := Ground.phase }, { on := 19, ground := Ground.phase }, { on := 20, ground := Ground.phase }, { on := 21, ground := Ground.phase }], guard := none }) (v := .bool true) rfl (by kernel_rfl) (by kernel_rfl) (by kernel_rfl) (fun _ _ _ h => h) (Or.inl ⟨by kernel_rfl, fun w _ => by kernel_rfl⟩) trivial ?_
      simp only [Act.put, List.setIfInBounds_toArray, List.set_cons_zero, List.set_cons_succ]
      refine wpAnyH_done (by kernel_rfl) ?_ _
      go_wp2_with fail
      go_ret
      exact ⟨by kernel_rfl, below_then HW6.out (HD6.out.trans HK7.out)⟩
    · obtain ⟨x, hx⟩ : ∃ x, D[0]? = some x := ⟨_, List.getElem?_eq_getElem (by have := HM.out; omega)⟩
      obtain ⟨g, rfl, hg1, -, -, q0⟩ := HL6.out.u64 HM.out hx
      obtain ⟨b, rfl, hg2, -, -, q1⟩ := HL5'.out.u64 HM.out hx
      have HX := Lib.hid hx
      have hm1 : 0 < m := by omega
      have hm2 : 0 < c3 := by omega
      have hm3 : (0 : Int) < (m : Int) := by omega
      have hm4 : ((m : Int) == 0) = false := by simp; omega
      clear hx HL6 HL5' hl5 hm0
      go_region_held3 (fun X => X.cell? ⟨g, 0, none⟩ = some (.int .u64 x) ∧ X.cell? ⟨b, 0, none⟩ = some (.int .u64 x)) (first | exact ⟨by assumption, by assumption⟩)
        (first | (go_at_call 34; ((with_reducible refine (lives12 _).mono ?_); rintro e w7 ⟨rfl, K7⟩; have r0 := (K7.cell (p := ⟨g, 0, none⟩) hg1).trans q0; have r1 := (K7.cell (p := ⟨b, 0, none⟩) hg2).trans q1; have HK7 := Lib.hid K7; clear K7)))
      go_wp2_with fail
      go_ret
      exact ⟨rfl, below_then HW6.out (HD6.out.trans HK7.out)⟩
end Go.Proofs.Ytadaeddklahjjaa
