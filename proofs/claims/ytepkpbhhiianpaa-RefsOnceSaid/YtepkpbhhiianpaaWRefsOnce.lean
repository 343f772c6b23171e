/- The law RefsOnce. -/
import Derived.Test.YtepkpbhhiianpaaRo4
import Derived.Deep.Cut
import Derived.Deep.CutBlock
import Derived.Deep.CutRange
import Derived.Deep.RegionHeld3
import Derived.Deep.QuietTactic
import Derived.BigQuiet
namespace Go.Proofs.Ytepkpbhhiianpaa
open Go.RowKit Go.Maps
set_option linter.unusedVariables false
set_option maxHeartbeats 8000000 in
set_option maxRecDepth 100000 in
theorem walk_RefsOnce (a0 : Int) (a1 : Int) (a2 : Option Addr) (l2 c2 : Nat) (w : World) (w0 : (Lit.int .u8 a0).wf = true) (w1 : (Lit.int .u64 a1).wf = true) (w2 : Reads Try.prog w 23 (.slice a2 l2 c2)) :
    Calls Try.prog 3 #[.int .u8 a0, .int .u64 a1, .slice a2 l2 c2] w fun e w' => e = .returned (.bool true) ∧ Below w.heap.size w w' := by
  obtain ⟨hm2, b2, o2, p2, lay2⟩ := reads_bytesR (e := 5) Try.underlying23 (by kernel_rfl) (by kernel_rfl) w2
  have q0 := bounds_u8 w0
  have q1 := bounds_u64 w1
  obtain ⟨tm, htm⟩ : ∃ tm, a0.tmod 8 = tm := ⟨_, rfl⟩
  obtain ⟨n, hn⟩ : ∃ n, 1 + tm = n := ⟨_, rfl⟩
  have hnr : 1 ≤ n ∧ n ≤ 8 := by rw [Int.tmod_eq_emod_of_nonneg q0.1] at htm; omega
  have y1 : IntKind.i64.wrap tm = tm := IntWalk.i64_in _ (by omega)
  have y2 : IntKind.i64.wrap (1 + tm) = n := by rw [IntWalk.i64_in _ (by omega)]; exact hn
  obtain ⟨m, hm⟩ : ∃ m : Int, m = 4294967299 := ⟨_, rfl⟩
  have CR : Hid (∀ W, Calls Try.prog 9 #[.int .i64 3] W fun e w' => e = .returned (.int .u64 m) ∧ W = w') := Lib.hid (fun W => by
    have := refw 3 W (by decide)
    rw [show reff 3 = m by rw [hm]; decide] at this
    exact this)
  have HM := Lib.hid (show isU m ∧ m ≠ 5 ∧ m ≠ 2 by rw [hm]; exact ⟨⟨by decide, by decide⟩, by decide, by decide⟩)
  have HN := Lib.hid hnr
  have HP := Lib.hid (And.intro p2 lay2)
  have HF := Lib.hid q1
  have HME := Lib.hid hm
  clear w0 w1 w2 p2 lay2 q0 hnr hn hm
  go_enter Try.func3, Try.ntmps3
  go_upto_region 3 with (go_at_call 7; ((with_reducible refine (world1 _).mono ?_); rintro e w1 ⟨A, rfl, hW, hb1⟩))
  have HW := Lib.hid hW
  have HB1 := Lib.hid hb1
  clear hW hb1 y1 y2 htm
  by_cases h400 : 400 < l2
  · have d0 : decide ((400 : Int) < (l2 : Int)) = true := decide_eq_true (by omega)
    clear h400 q1
    go_wp2_with (go_at_call 8; refine (lives22 _).mono ?_; rintro e w9 ⟨rfl, hk9⟩)
    go_ret
    exact ⟨rfl, below_then HB1.out hk9⟩
  have d0 : decide ((400 : Int) < (l2 : Int)) = false := decide_eq_false (by omega)
  by_cases hfst : 18446744073709550616 < a1
  · have d1 : decide ((18446744073709550616 : Int) < a1) = true := decide_eq_true hfst
    clear h400 q1 hfst
    go_wp2_with (go_at_call 8; refine (lives22 _).mono ?_; rintro e w9 ⟨rfl, hk9⟩)
    go_ret
    exact ⟨rfl, below_then HB1.out hk9⟩
  have d1 : decide ((18446744073709550616 : Int) < a1) = false := decide_eq_false hfst
  have HL := Lib.hid (show l2 ≤ 400 ∧ 0 ≤ a1 ∧ a1 ≤ 18446744073709550616 by omega)
  have hWG : WdG (fun k => k < w.heap.size) w1 A W1 := HW.out.g HB1.out.size
  have CS := Lib.hid (hWG.storeR (a := m) (v := a1) HM.out.1 ⟨by omega, by omega⟩ (by decide))
  have c0 := hWG.box.c0
  clear h400 hm2 hfst q1 HW hWG
  go_upto_region 7 with (first
    | (go_at_call 9; ((with_reducible refine (CR.out _).mono ?_); rintro e w2 ⟨rfl, rfl⟩))
    | (go_at_call 10; ((with_reducible refine CS.out.mono ?_); rintro e w3 ⟨rfl, hW3, hk3⟩)))
  have HW3 := Lib.hid hW3
  have HB3 := Lib.hid (HB1.out.trans (hk3.below HB1.out.size))
  clear d0 d1 c0 CS CR hW3 hk3
  have hza := zrow (t := 39) (n := 8) (v := .pointer none) (by kernel_rfl)
  have hzb := zrow (t := 40) (n := 8) (v := .int .u64 0) (by kernel_rfl)
  have hzc := zrow (t := 41) (n := 8) (v := .bool false) (by kernel_rfl)
  go_upto_region 12 with (fail)
  clear hza hzb hzc
  obtain ⟨AL, hAL⟩ : ∃ k, k = w3.heap.size := ⟨_, rfl⟩
  obtain ⟨LO, hLO⟩ : ∃ k, k = AL + 1 := ⟨_, rfl⟩
  obtain ⟨HA, hHA⟩ : ∃ k, k = LO + 1 := ⟨_, rfl⟩
  generalize hW4 : World.alloc (World.alloc (World.alloc w3 _) _) _ = W4
  rw [← hAL, ← hLO, ← hHA]
  have b2' : Below (w3.alloc (.cells (Array.replicate 8 (.pointer none)) 39)).heap.size (w3.alloc (.cells (Array.replicate 8 (.pointer none)) 39)) ((w3.alloc (.cells (Array.replicate 8 (.pointer none)) 39)).alloc (.cells (Array.replicate 8 (.int .u64 0)) 40)) := bs_allocR (Below.refl _ _)
  have b3' : Below ((w3.alloc (.cells (Array.replicate 8 (.pointer none)) 39)).alloc (.cells (Array.replicate 8 (.int .u64 0)) 40)).heap.size ((w3.alloc (.cells (Array.replicate 8 (.pointer none)) 39)).alloc (.cells (Array.replicate 8 (.int .u64 0)) 40)) W4 := by rw [← hW4]; exact bs_allocR (Below.refl _ _)
  have b14 : Below w3.heap.size w3 W4 := below_then (bs_allocR (Below.refl _ _)) (below_then b2' b3')
  have b24 := below_then b2' b3'
  have z1 : ∀ k, k < 8 → W4.cell? ⟨AL, k, none⟩ = some (.pointer none) ∧ W4.frozen? ⟨AL, k, none⟩ = false := fun k hk => by
    have c := zrow_at (W := w3) (t := 39) (v := .pointer none) hAL hk
    exact ⟨(b24.cell (p := ⟨AL, k, none⟩) (World.block_lt_of_cell? _ _ c)).trans c, (b24.frozen (p := ⟨AL, k, none⟩) (World.block_lt_of_cell? _ _ c)).trans (zrow_fz hAL)⟩
  have z2 : Zr W4 LO 8 .u64 (fun _ => 0) := (Zr.first (by rw [hLO, hAL]; simp)).keep (U := fun _ => False) (Keeps.of_new b3') (fun s => s)
  have hHA' : HA = ((w3.alloc (.cells (Array.replicate 8 (.pointer none)) 39)).alloc (.cells (Array.replicate 8 (.int .u64 0)) 40)).heap.size := by rw [hHA, hLO, hAL]; simp
  have z3 : ∀ k, k < 8 → W4.cell? ⟨HA, k, none⟩ = some (.bool false) ∧ W4.frozen? ⟨HA, k, none⟩ = false := fun k hk => by
    have hW4' : ((w3.alloc (.cells (Array.replicate 8 (.pointer none)) 39)).alloc (.cells (Array.replicate 8 (.int .u64 0)) 40)).alloc (.cells (Array.replicate 8 (.bool false)) 41) = W4 := hW4
    rw [← hW4']
    exact ⟨zrow_at hHA' hk, zrow_fz hHA'⟩
  have hs4 : W4.heap.size = HA + 1 := by rw [← hW4, hHA, hLO, hAL]; simp
  have HD := Lib.hid (show AL ≠ LO ∧ AL ≠ HA ∧ LO ≠ HA ∧ w.heap.size ≤ AL ∧ w.heap.size ≤ LO ∧ w.heap.size ≤ HA by have := HB3.out.size; omega)
  obtain ⟨G, hG⟩ : ∃ G : Nat → Prop, G = fun k => k < w.heap.size ∨ (k = AL ∨ k = LO ∨ k = HA) := ⟨_, rfl⟩
  have HGG := Lib.hid (show (G AL ∧ G LO ∧ G HA) ∧ ∀ k, k < w.heap.size → G k by rw [hG]; exact ⟨⟨.inr (.inl rfl), .inr (.inr (.inl rfl)), .inr (.inr (.inr rfl))⟩, fun k h => .inl h⟩)
  have hWG : WdG (fun j => G j ∨ TsB (fun _ => none) j) W4 A (W1.acc (upd W1.f m a1) 2 m (W1.f m) a1) := by
    obtain ⟨S, s1, s2, s3⟩ := HW3.out
    refine ⟨S, s1.new b14, fun k g s => ?_, fun k g => ?_⟩
    · have h2 := s1.lt k s
      rcases g with g | ⟨i, -, g⟩
      · rw [hG] at g
        rcases g with g | g | g | g
        · exact s2 k g s
        · omega
        · omega
        · omega
      · simp at g
    · have h2 := HB3.out.size
      rcases g with g | ⟨i, -, g⟩
      · rw [hG] at g
        rcases g with g | g | g | g <;> omega
      · simp at g
  have HR0 : Hid (RoR G w.heap.size W4 W4 A m AL LO HA false (a1 % 2) 0 a1) := Lib.hid ⟨_, fun _ => none, fun _ => 0, fun _ => 0, fun _ => false, fun _ => false, ⟨hWG, fun k hk => z1 k hk, fun k hk => ⟨(z2 k hk).2, _, (z2 k hk).1, fun t => by simp at t⟩, fun k hk => z3 k hk, fun k _ q hq => by simp at hq, fun j k q _ _ hq => by simp at hq⟩, ⟨by show a1 % 2 = upd W1.f m a1 m % 2; rw [upd_same], by show a1 ≤ upd W1.f m a1 m ∧ upd W1.f m a1 m ≤ a1 + ((0 : Nat) : Int); rw [upd_same]; omega, .inl (by show upd W1.f m a1 5 = 0; rw [upd_other (fun e => HM.out.2.1 e.symm)]; exact w1_f 5 (by decide)), fun t => by simp at t, fun k q _ hq => by simp at hq⟩, fun k _ => rfl, by show W1.cnt + 1 ≤ _; rw [w1_cnt]; omega, Keeps.refl _ _⟩
  have HB4 := Lib.hid (below_then HB3.out b14)
  have CM := Lib.hid (fun W => markedw a1 W HL.out.2.1 (by have := HL.out.2.2; omega))
  clear hHA' hW4 hAL hLO hHA b2' b3' b24 z1 z2 z3 hs4 b14 hG hWG HW3 HB3 HB1
  go_upto_if 50 with (go_at_call 11; ((with_reducible refine (CM.out _).mono ?_); rintro e w5 ⟨rfl, rfl⟩))
  clear CM
  go_cut [14] from 50 (fun s wx => s = .int .i64 (a1 % 2) ∧ wx = W4)
  case first =>
    by_cases hb : a1 % 2 = 1
    · have e1 : (a1 % 2 == 1) = true := by simp [hb]
      rw [e1]
      go_wp2_with fail
      go_meet
      case rel => exact ⟨by rw [hb], rfl⟩
    · have e1 : (a1 % 2 == 1) = false := by simpa using hb
      rw [e1]
      go_wp2_with fail
      go_meet
      case rel => exact ⟨by rw [show a1 % 2 = 0 by omega], rfl⟩
  obtain ⟨rfl, hwc⟩ := hcut
  rw [hwc]
  clear hwc
  go_wp2_with fail
  go_loopw [13, 14, 15] (fun tk st i X => ∃ (taken : Bool) (sets : Int) (i' : Nat), i' ≤ l2 ∧ tk = .bool taken ∧ st = .int .i64 sets ∧ i = .int .i64 i' ∧ RoR G w.heap.size W4 X A m AL LO HA taken sets i' a1) (fun _ _ i _ => l2 - (intOf i).toNat)
  case atStart => exact ⟨false, _, 0, by omega, rfl, rfl, rfl, HR0.out⟩
  case round =>
    clear HR0
    obtain ⟨taken, sets, i, hi, rfl, rfl, rfl, hR⟩ := hrel
    have HR := Lib.hid hR
    have hkp : Kp (fun k => k < w.heap.size) W4 wr := by
      obtain ⟨V, qs, wd, lf, dn, hs, -, -, -, -, h5⟩ := hR
      exact h5
    have HBR := Lib.hid (HB4.out.trans (hkp.below HB4.out.size))
    clear hR hkp
    by_cases hlt : i < l2
    · have hi400 : i < 400 := by have := HL.out; omega
      obtain ⟨hle, rfl⟩ := HP.out.1 (by omega)
      obtain ⟨xb, hxb, cxb⟩ := HP.out.2 i hlt
      have g0 := (HBR.out.cell (p := ⟨b2, o2 + i, none⟩) (World.block_lt_of_cell? _ _ cxb)).trans cxb
      have j0 : (0 : Int) ≤ (i : Int) := by omega
      have j1 : (i : Int) < (l2 : Int) := by omega
      have hic : i < c2 := by omega
      obtain ⟨kk, hkk⟩ : ∃ kk, xb.tmod 16 = kk := ⟨_, rfl⟩
      have hkr : 0 ≤ kk ∧ kk < 16 := by rw [Int.tmod_eq_emod_of_nonneg hxb.1] at hkk; omega
      have yk : IntKind.i64.wrap kk = kk := IntWalk.i64_in _ (by omega)
      obtain ⟨v, sw, ⟨hvU, hsv', hv1, hv2⟩, hsw, htk, c0, CP, CP5, CST, hRV⟩ := HR.out.peek HM.out.1
      have hsv := Lib.hid hsv'
      clear hsv'
      have HCP := Lib.hid CP
      have HC5 := Lib.hid CP5
      have HCS := Lib.hid CST
      have HRV := Lib.hid hRV
      clear hRV
      have HKL := Lib.hid (And.intro hi hlt)
      clear CP CP5 CST cxb hi hle
      go_upto_block 2 with (go_at_call 12; ((with_reducible refine (HCP.out _ (Below.refl _ _)).mono ?_); rintro e w5 ⟨rfl, rfl⟩))
      clear g0 j0 j1 hic yk hxb hkk
      go_cut [13, 14, 18, 19] from 51 to 208 (fun tk st s18 s19 wx => ∃ (tk' : Bool) (st' : Int), tk = .bool tk' ∧ st = .int .i64 st' ∧ RoR G w.heap.size W4 wx A m AL LO HA tk' st' (i + 1) a1)
      case first =>
        rcases (by omega : kk = 15 ∨ kk = 14 ∨ kk = 13 ∨ kk < 13) with hk | hk | hk | hk
        · as_aux_lemma =>
            have t1 : (kk == 15) = true := by simp [hk]
            have C1 : Calls Try.prog 10 #[.pointer (some ⟨A.pc, 0, none⟩), .int .u64 5, .int .u64 1] wr fun e w' => (∃ u, e = .returned (.int .u64 u)) ∧ RoR G w.heap.size W4 w' A m AL LO HA taken sets (i + 1) a1 := by
              have := HCS.out _ (Below.refl _ _) 5 1 ⟨by decide, by decide⟩ (.inl ⟨rfl, .inr rfl⟩) HM.out.2.1 HGG.out.1 HGG.out.2 (by omega)
              simpa using this
            have C1 := Lib.hid C1
            clear hk hkr hvU hsv hv1 hv2 hsw htk
            go_wp2_with (go_at_call 10; ((with_reducible refine C1.out.mono ?_); rintro e w6 ⟨⟨u, rfl⟩, hR6⟩; have HRX := Lib.hid hR6; clear hR6 c0))
            clear t1
            go_meet
            case rel => exact ⟨_, _, rfl, rfl, HRX.out⟩
        · as_aux_lemma =>
            have t1 : (kk == 15) = false := by simp [hk]
            have t2 : (kk == 14) = true := by simp [hk]
            have C1 : Calls Try.prog 10 #[.pointer (some ⟨A.pc, 0, none⟩), .int .u64 5, .int .u64 0] wr fun e w' => (∃ u, e = .returned (.int .u64 u)) ∧ RoR G w.heap.size W4 w' A m AL LO HA false sets (i + 1) a1 := by
              have := HCS.out _ (Below.refl _ _) 5 0 ⟨by decide, by decide⟩ (.inl ⟨rfl, .inl rfl⟩) HM.out.2.1 HGG.out.1 HGG.out.2 (by omega)
              simpa using this
            have C1 := Lib.hid C1
            clear hk hkr hvU hsv hv1 hv2 hsw htk
            go_wp2_with (go_at_call 10; ((with_reducible refine C1.out.mono ?_); rintro e w6 ⟨⟨u, rfl⟩, hR6⟩; have HRX := Lib.hid hR6; clear hR6 c0))
            clear t1 t2
            go_meet
            case rel => exact ⟨_, _, rfl, rfl, HRX.out⟩
        · have t1 : (kk == 15) = false := by simp [hk]
          have t2 : (kk == 14) = false := by simp [hk]
          have t3 : (kk == 13) = true := by simp [hk]
          have t4 : decide (kk < n) = false := decide_eq_false (by have := HN.out; omega)
          by_cases hs1 : sw = 1
          · have s1 : (sw == 1) = true := by simp [hs1]
            have CMv := Lib.hid (fun W => markedw v W hvU.1 (by have := hvU.2; omega))
            by_cases hvo : v % 2 = 1
            · as_aux_lemma =>
                have s2 : (v % 2 == 1) = true := by simp [hvo]
                rw [s2] at CMv
                have hlv : v + 1 ≤ 18446744073709551615 := by have := HL.out.2.2; omega
                have CLs : Hid (∀ W, Calls Try.prog 13 #[.int .u64 v] W fun e w' => e = .returned (.int .u64 (v + 1)) ∧ W = w') := Lib.hid (fun W => by
                  have := lessw v W hvU.1 (by have := hvU.2; omega)
                  rw [show lessF v = v + 1 by unfold lessF; rw [if_pos hvo, IntWalk.u64_in _ ⟨by have := hvU.1; omega, by omega⟩]] at this
                  exact this)
                have hd : Below wr.heap.size wr wr.drew := (Below.refl _ _).drew
                have C1 : Calls Try.prog 10 #[.pointer (some ⟨A.pc, 0, none⟩), .int .u64 m, .int .u64 (v + 1)] wr.drew fun e w' => (∃ u, e = .returned (.int .u64 u)) ∧ RoR G w.heap.size W4 w' A m AL LO HA true 0 (i + 1) a1 := by
                  have := HCS.out _ hd m (v + 1) ⟨by have := hvU.1; omega, by omega⟩ (.inr ⟨rfl, rfl, hs1, hvo⟩) HM.out.2.1 HGG.out.1 HGG.out.2 (by omega)
                  rw [if_neg HM.out.2.1, if_neg HM.out.2.1] at this
                  exact this
                have C1 := Lib.hid C1
                have C5 := Lib.hid (HC5.out wr (Below.refl _ _))
                have s1' := s1
                clear hk hkr hvU hsv hv1 hv2 hsw htk hs1 hvo hlv
                obtain ⟨v1, hv1⟩ : ∃ v1, v1 = v + 1 := ⟨_, rfl⟩
                rw [← hv1] at CLs C1
                clear hv1
                go_upto_region 26 with (first
                  | (go_at_call 12; ((with_reducible refine C5.out.mono ?_); rintro e w6 ⟨rfl, rfl⟩))
                  | (go_at_call 11; ((with_reducible refine (CMv.out _).mono ?_); rintro e w7 ⟨rfl, rfl⟩)))
                have c1 : wr.drew.cell? ⟨A.p, 0, none⟩ = some (.pointer (some ⟨A.pc, 0, none⟩)) := c0
                clear c0 t1 t2 t3 t4 s1 s1' s2 hd
                go_region_held3 (fun X => X.cell? ⟨A.p, 0, none⟩ = some (.pointer (some ⟨A.pc, 0, none⟩)))
                  (first | assumption)
                  (first
                    | (go_at_call 13; ((with_reducible refine (CLs.out _).mono ?_); rintro e w6 ⟨rfl, rfl⟩))
                    | (go_at_call 10; ((with_reducible refine C1.out.mono ?_); rintro e w8 ⟨⟨u, rfl⟩, hR6⟩; have HRX := Lib.hid hR6; clear hR6 c1; obtain ⟨-, -, -, -, -, c1, -, -, -⟩ := HRX.out.peek HM.out.1)))
                clear c1
                go_wp2_with (fail)
                go_meet
                case rel => exact ⟨_, _, rfl, rfl, HRX.out⟩
            · as_aux_lemma =>
                have s2 : (v % 2 == 1) = false := by simpa using hvo
                rw [s2] at CMv
                have C5 := Lib.hid (HC5.out wr (Below.refl _ _))
                have HRX := Lib.hid (HR.out.le)
                clear hk hkr hvU hsv hv1 hv2 hsw htk hs1 hvo
                go_wp2_with (first
                  | (go_at_call 12; ((with_reducible refine C5.out.mono ?_); rintro e w6 ⟨rfl, rfl⟩))
                  | (go_at_call 11; ((with_reducible refine (CMv.out _).mono ?_); rintro e w7 ⟨rfl, rfl⟩)))
                clear c0 t1 t2 t3 t4 s1 s2
                go_meet
                case rel => exact ⟨_, _, rfl, rfl, HRX.out⟩
          · as_aux_lemma =>
              have s1 : (sw == 1) = false := by simpa using hs1
              have C5 := Lib.hid (HC5.out wr (Below.refl _ _))
              have HRX := Lib.hid (HR.out.le)
              have t4' : decide ((13 : Int) < n) = false := decide_eq_false (by have := HN.out; omega)
              clear hkr hvU hsv hv1 hv2 hsw htk hs1 hk
              go_wp2_with (go_at_call 12; ((with_reducible refine C5.out.mono ?_); rintro e w6 ⟨rfl, rfl⟩))
              clear c0 t1 t2 t3 t4 s1
              go_meet
              case rel => exact ⟨_, _, rfl, rfl, HRX.out⟩
        · have t1 : (kk == 15) = false := by simp; omega
          have t2 : (kk == 14) = false := by simp; omega
          have t3 : (kk == 13) = false := by simp; omega
          by_cases hkn : kk < n
          · obtain ⟨k, rfl⟩ : ∃ k : Nat, kk = (k : Int) := ⟨kk.toNat, by omega⟩
            have hk8 : k < 8 := by have := HN.out; omega
            have t4 : decide ((k : Int) < n) = true := decide_eq_true hkn
            have j0 : (0 : Int) ≤ (k : Int) := by omega
            have j8 : (k : Int) < 8 := by omega
            obtain ⟨qo, ca, fa, hq⟩ := HRV.out.at_ hk8
            have HQ := Lib.hid hq
            have CN := Lib.hid (HRV.out.fresh hk8 HME.out HGG.out.1 HD.out HL.out.2.1)
            have CMv := Lib.hid (fun W => markedw v W hvU.1 (by have := hvU.2; omega))
            have HFI := Lib.hid (show a1 + (i : Int) < 18446744073709551615 ∧ i ≤ 1000 by have := HL.out.2.2; omega)
            clear hkr hvU hv1 hv2 hsw htk hkn hk hq
            cases qo with
            | none => as_aux_lemma =>
                simp only [Option.map_none] at ca
                go_upto_region 33 with (go_at_call 15; ((with_reducible refine CN.out.mono ?_); rintro e w6 ⟨q, rfl, ⟨o1, x1⟩, x2, ⟨o3, x3⟩, x4, ⟨o5, x5⟩, hT⟩; have HT := Lib.hid hT; clear hT))
                clear x1 x2 x3 x4 x5 ca fa c0
                generalize World.setCell (World.setCell w6 _ _) _ _ = w7 at *
                obtain ⟨cA, cH⟩ := HT.out.read hk8
                have CSt := Lib.hid (HT.out.step HM.out.1 HM.out.2.1 HGG.out.1 HGG.out.2 HFI.out.2 hk8 HFI.out.1)
                go_upto_region 34 with (go_at_call 16; ((with_reducible refine CSt.out.mono ?_); rintro e w8 ⟨over, done, ld, aft, rfl, hU⟩; have HU := Lib.hid hU; clear hU))
                clear cA cH
                obtain ⟨s1, s2, s3⟩ := HU.out.say.1 rfl
                have s4 := HU.out.say.2.2 s2
                obtain rfl := s1.symm
                subst s2
                obtain rfl := s4.symm
                have CMo : Hid (∀ W, Calls Try.prog 11 #[.int .u64 v] W fun e w' => e = .returned (.bool over) ∧ W = w') := Lib.hid (fun W => by
                  have := CMv.out W
                  rw [← s3] at this
                  exact this)
                clear s1 s3 s4
                obtain ⟨cA, cH, fH, fL, ⟨o, cL, -⟩, -, -, -, -⟩ := HU.out.read hk8 HM.out.1
                have cH2 : (w8.setCell ⟨LO, k, none⟩ (.int .u64 v)).cell? ⟨HA, k, none⟩ = some (.bool false) := (World.cell?_setCell_other w8 ⟨LO, k, none⟩ ⟨HA, k, none⟩ _ (by intro e; injection e with e; first | exact HD.out.2.2.1 e | exact HD.out.2.2.1 e.symm)).trans cH
                have HU9 := Lib.hid (HU.out.mark hk8 HGG.out.1 HD.out)
                go_upto_region 39 with (go_at_call 11; ((with_reducible refine (CMo.out _).mono ?_); rintro e w5 ⟨rfl, rfl⟩))
                clear cA cH cH2 fH fL cL HU
                generalize World.setCell (World.setCell w8 _ _) _ _ = w9 at *
                obtain ⟨cA, -, -, -, ⟨o, cL, eL⟩, c0, hau, CPa', CDn'⟩ := HU9.out.read hk8 HM.out.1
                have CPa := Lib.hid CPa'
                have CDn := Lib.hid CDn'
                obtain rfl := (eL rfl).symm
                clear eL CPa' CDn'
                have HRX : Hid (RoR G w.heap.size W4 w9 A m AL LO HA taken sets (i + 1) a1) := Lib.hid (by simpa using HU9.out.back hk8)
                clear hau
                go_wp2_with (first
                  | (go_at_call 12; ((with_reducible refine (CPa.out _ (Below.refl _ _)).mono ?_); rintro e w5 ⟨rfl, rfl⟩))
                  | (go_at_call 17; ((with_reducible refine (CDn.out _ (Below.refl _ _)).mono ?_); rintro e w5 ⟨rfl, rfl⟩)))
                clear c0 cA cL t1 t2 t3 t4 j0 j8
                go_meet
                case rel => exact ⟨_, _, rfl, rfl, HRX.out⟩
            | some q0 =>
              simp only [Option.map_some] at ca
              obtain ⟨ov, hov, hT0⟩ := HQ.out q0 rfl
              have CO := Lib.hid hov
              clear hov
              cases ov with
              | true => as_aux_lemma =>
                  clear hT0
                  go_upto_region 33 with (first
                    | (go_at_call 14; ((with_reducible refine (CO.out _ (Below.refl _ _)).mono ?_); rintro e w5 ⟨rfl, rfl⟩))
                    | (go_at_call 15; ((with_reducible refine CN.out.mono ?_); rintro e w6 ⟨q, rfl, ⟨o1, x1⟩, x2, ⟨o3, x3⟩, x4, ⟨o5, x5⟩, hT⟩; have HT := Lib.hid hT; clear hT)))
                  clear x1 x2 x3 x4 x5 ca fa c0
                  generalize World.setCell (World.setCell w6 _ _) _ _ = w7 at *
                  obtain ⟨cA, cH⟩ := HT.out.read hk8
                  have CSt := Lib.hid (HT.out.step HM.out.1 HM.out.2.1 HGG.out.1 HGG.out.2 HFI.out.2 hk8 HFI.out.1)
                  go_upto_region 34 with (go_at_call 16; ((with_reducible refine CSt.out.mono ?_); rintro e w8 ⟨over, done, ld, aft, rfl, hU⟩; have HU := Lib.hid hU; clear hU))
                  clear cA cH
                  obtain ⟨s1, s2, s3⟩ := HU.out.say.1 rfl
                  have s4 := HU.out.say.2.2 s2
                  obtain rfl := s1.symm
                  subst s2
                  obtain rfl := s4.symm
                  have CMo : Hid (∀ W, Calls Try.prog 11 #[.int .u64 v] W fun e w' => e = .returned (.bool over) ∧ W = w') := Lib.hid (fun W => by
                    have := CMv.out W
                    rw [← s3] at this
                    exact this)
                  clear s1 s3 s4
                  obtain ⟨cA, cH, fH, fL, ⟨o, cL, -⟩, -, -, -, -⟩ := HU.out.read hk8 HM.out.1
                  have cH2 : (w8.setCell ⟨LO, k, none⟩ (.int .u64 v)).cell? ⟨HA, k, none⟩ = some (.bool false) := (World.cell?_setCell_other w8 ⟨LO, k, none⟩ ⟨HA, k, none⟩ _ (by intro e; injection e with e; first | exact HD.out.2.2.1 e | exact HD.out.2.2.1 e.symm)).trans cH
                  have HU9 := Lib.hid (HU.out.mark hk8 HGG.out.1 HD.out)
                  go_upto_region 39 with (go_at_call 11; ((with_reducible refine (CMo.out _).mono ?_); rintro e w5 ⟨rfl, rfl⟩))
                  clear cA cH cH2 fH fL cL HU
                  generalize World.setCell (World.setCell w8 _ _) _ _ = w9 at *
                  obtain ⟨cA, -, -, -, ⟨o, cL, eL⟩, c0, hau, CPa', CDn'⟩ := HU9.out.read hk8 HM.out.1
                  have CPa := Lib.hid CPa'
                  have CDn := Lib.hid CDn'
                  obtain rfl := (eL rfl).symm
                  clear eL CPa' CDn'
                  have HRX : Hid (RoR G w.heap.size W4 w9 A m AL LO HA taken sets (i + 1) a1) := Lib.hid (by simpa using HU9.out.back hk8)
                  clear hau
                  go_wp2_with (first
                    | (go_at_call 12; ((with_reducible refine (CPa.out _ (Below.refl _ _)).mono ?_); rintro e w5 ⟨rfl, rfl⟩))
                    | (go_at_call 17; ((with_reducible refine (CDn.out _ (Below.refl _ _)).mono ?_); rintro e w5 ⟨rfl, rfl⟩)))
                  clear c0 cA cL t1 t2 t3 t4 j0 j8
                  go_meet
                  case rel => exact ⟨_, _, rfl, rfl, HRX.out⟩
              | false =>
                have HT := Lib.hid (hT0 rfl)
                clear hT0
                go_upto_region 33 with (go_at_call 14; ((with_reducible refine (CO.out _ (Below.refl _ _)).mono ?_); rintro e w5 ⟨rfl, rfl⟩))
                clear ca fa c0
                obtain ⟨cA, cH⟩ := HT.out.read hk8
                have CSt := Lib.hid (HT.out.step HM.out.1 HM.out.2.1 HGG.out.1 HGG.out.2 HFI.out.2 hk8 HFI.out.1)
                go_upto_region 34 with (go_at_call 16; ((with_reducible refine CSt.out.mono ?_); rintro e w8 ⟨over, done, ld, aft, rfl, hU⟩; have HU := Lib.hid hU; clear hU))
                clear cA cH
                obtain ⟨-, cH, -, -, -, -, -, -, -⟩ := HU.out.read hk8 HM.out.1
                go_upto_region 39 with fail
                clear cH
                obtain ⟨w9, hw9⟩ : ∃ x, x = w8 := ⟨_, rfl⟩
                subst hw9
                have HU9 := HU
                obtain ⟨cA, -, -, -, ⟨o, cL, eL⟩, c0, hau, CPa', CDn'⟩ := HU9.out.read hk8 HM.out.1
                have CPa := Lib.hid CPa'
                have CDn := Lib.hid CDn'
                obtain rfl := (eL rfl).symm
                clear eL CPa' CDn'
                cases done with
                | false => as_aux_lemma =>
                    obtain rfl := (HU9.out.say.2.2 rfl).symm
                    have HRX : Hid (RoR G w.heap.size W4 w9 A m AL LO HA taken sets (i + 1) a1) := Lib.hid (by simpa using HU9.out.back hk8)
                    clear hau
                    go_wp2_with (first
                      | (go_at_call 12; ((with_reducible refine (CPa.out _ (Below.refl _ _)).mono ?_); rintro e w5 ⟨rfl, rfl⟩))
                      | (go_at_call 17; ((with_reducible refine (CDn.out _ (Below.refl _ _)).mono ?_); rintro e w5 ⟨rfl, rfl⟩)))
                    clear c0 cA cL t1 t2 t3 t4 j0 j8
                    go_meet
                    case rel => exact ⟨_, _, rfl, rfl, HRX.out⟩
                | true => as_aux_lemma =>
                    obtain ⟨u1, u2, u3, u4⟩ := HU9.out.say.2.1 rfl
                    subst u1
                    obtain rfl := u2
                    subst u3
                    have HRX : Hid (RoR G w.heap.size W4 w9 A m AL LO HA taken (sets + 1) (i + 1) a1) := Lib.hid (by simpa using HU9.out.back hk8)
                    have ys : IntKind.i64.wrap (sets + 1) = sets + 1 := IntWalk.i64_in _ (by have := hsv.out; omega)
                    have y5 : IntKind.u64.wrap (v + 1) = v + 1 := IntWalk.u64_in _ ⟨hau.1, by have := hau.2; omega⟩
                    have hne : (v + 1 != v) = true := by simp; omega
                    have CMa : Hid (∀ W, Calls Try.prog 11 #[.int .u64 (v + 1)] W fun e w' => e = .returned (.bool true) ∧ W = w') := Lib.hid (fun W => by
                      have := markedw (v + 1) W hau.1 (by have := hau.2; omega)
                      rw [show ((v + 1) % 2 == 1) = true by simp; omega] at this
                      exact this)
                    have CMb : Hid (∀ W, Calls Try.prog 11 #[.int .u64 v] W fun e w' => e = .returned (.bool false) ∧ W = w') := Lib.hid (fun W => by
                      have := CMv.out W
                      rw [show (v % 2 == 1) = false by simp; omega] at this
                      exact this)
                    clear hau u4
                    go_wp2_with (first
                      | (go_at_call 12; ((with_reducible refine (CPa.out _ (Below.refl _ _)).mono ?_); rintro e w5 ⟨rfl, rfl⟩))
                      | (go_at_call 17; ((with_reducible refine (CDn.out _ (Below.refl _ _)).mono ?_); rintro e w5 ⟨rfl, rfl⟩))
                      | (go_at_call 11; ((with_reducible refine (CMa.out _).mono ?_); rintro e w5 ⟨rfl, rfl⟩))
                      | (go_at_call 11; ((with_reducible refine (CMb.out _).mono ?_); rintro e w5 ⟨rfl, rfl⟩)))
                    clear c0 cA cL t1 t2 t3 t4 j0 j8 ys y5 hne
                    go_meet
                    case rel => exact ⟨_, _, rfl, rfl, HRX.out⟩
          · as_aux_lemma =>
              have t4 : decide (kk < n) = false := decide_eq_false hkn
              have HRX := Lib.hid (HR.out.le)
              clear hkr hvU hsv hv1 hv2 hsw htk hkn hk
              go_wp2_with (fail)
              clear c0 t1 t2 t3 t4
              go_meet
              case rel => exact ⟨_, _, rfl, rfl, HRX.out⟩
      obtain ⟨tk', st', rfl, rfl, hRX⟩ := hcut
      have HRX := Lib.hid hRX
      clear hRX hkr hvU hsv hv1 hv2 hsw htk c0
      obtain ⟨v9, sw9, ⟨hv9U, hst9, -, -⟩, -, htk9, c9, CP9', -, -⟩ := HRX.out.peek HM.out.1
      have CP9 := Lib.hid CP9'
      have CM9' := fun W => markedw v9 W hv9U.1 (by have := hv9U.2; omega)
      have ds : decide ((1 : Int) < st') = false := decide_eq_false (by first | (rw [hst9]; omega) | omega)
      clear CP9' hst9
      cases tk' with
      | true => as_aux_lemma =>
          have e9 := htk9 rfl
          have e9' : (v9 % 2 == 1) = false := by simp; omega
          rw [e9'] at CM9'
          have CM9 := Lib.hid CM9'
          clear CM9' e9 e9' htk9 hv9U
          go_wp2_with (first
            | (go_at_call 12; ((with_reducible refine (CP9.out _ (Below.refl _ _)).mono ?_); rintro e w9 ⟨rfl, rfl⟩))
            | (go_at_call 11; ((with_reducible refine (CM9.out _).mono ?_); rintro e w9 ⟨rfl, rfl⟩)))
          go_roundw
          case rel => exact ⟨_, _, i + 1, by have := HKL.out; omega, rfl, rfl, by go_num, HRX.out⟩
          case measure => have := HKL.out; simp [intOf]; omega
      | false => as_aux_lemma =>
          clear CM9' htk9 hv9U c9
          go_wp2_with fail
          go_roundw
          case rel => exact ⟨_, _, i + 1, by have := HKL.out; omega, rfl, rfl, by go_num, HRX.out⟩
          case measure => have := HKL.out; simp [intOf]; omega
    · as_aux_lemma =>
        obtain rfl : i = l2 := by omega
        have dl : decide ((i : Int) < (i : Int)) = false := decide_eq_false (by omega)
        clear hi hlt
        go_wp2_with (go_at_call 8; refine (lives22 _).mono ?_; rintro e w9 ⟨rfl, hk9⟩)
        go_ret
        exact ⟨rfl, below_then HBR.out hk9⟩
end Go.Proofs.Ytepkpbhhiianpaa
