/- Feeds: a byte of data is taken. -/
import Derived.Test.YtifbcejekdhnlaaDoorFe3
import Derived.Deep.RegionHeld3
namespace Go.Proofs.YtifbcejekdhnlaaDoor
open Go.RowKit Go.Maps
set_option linter.unusedVariables false

theorem TkS.drewN {w W : World} {q R : Nat} {U : Nat → Prop} {s : Fst} {hv kv : Value} (h : TkS w W q R U s hv kv) (n : Nat) : TkS w (W.drewN n) q R U s hv kv := by
  have hb : Below W.heap.size W (W.drewN n) := below_drewN (Below.refl _ _) n
  exact ⟨h.keeps.trans (Keeps.of_new (S := U) hb) (fun _ _ u => u), h.res.new hb, h.fd.new hb, h.R, h.U⟩
set_option maxHeartbeats 4000000 in
set_option maxRecDepth 100000 in
theorem takeData_more (q : Nat) (U : Nat → Prop) (s : Fst) (b : UInt8) (hv kv : Value) (w : World) (h : FdAt w q U s hv kv) (ho : s.held.length ≤ 2048) (hl : (s.held.length : Int) < s.cmd.bytes) :
    Calls Tryd.prog 111 #[.pointer (some ⟨q, 0, none⟩), .int .u8 (b.toNat : Int)] w (TkPost w q U (takeDataF s b)) := by
  obtain ⟨i0, hi, hz0, hz1, hz2⟩ := info_parts info_u8
  have hS := tks_new h
  obtain ⟨R, hR⟩ : ∃ R, R = w.heap.size := ⟨_, rfl⟩
  rw [← hR] at hS
  obtain ⟨X, hX⟩ : ∃ X, X = w.alloc (.cells #[.int .u8 0, .slice none 0 0, .int .u8 0, .string ⟨#[]⟩, .string ⟨#[]⟩, .int .u32 0, .int .i64 0, .int .u64 0, .int .u64 0, .int .i64 0, .bool false, .string ⟨#[]⟩, .int .u8 0] 67) := ⟨_, rfl⟩
  rw [← hX] at hS
  have HS := Lib.hid hS
  have HX := Lib.hid hX
  have HR := Lib.hid hR
  obtain ⟨hqR, hUR⟩ := hS.ne
  obtain ⟨n, hn⟩ : ∃ n, s.held.length = n := ⟨_, rfl⟩
  have HN := Lib.hid hn
  have hbl : b.toNat < 256 := UInt8.toNat_lt b
  obtain ⟨a, cap, rfl, hnc, hcm, ha0⟩ := row_slice h.row
  have c1 := HS.out.fd.cells.at_ 1 _ rfl
  have c12 := HS.out.fd.cells.at_ 12 _ rfl
  rw [hn] at c1 hnc ho hl
  unfold maxLen at hcm
  have HE := Lib.hid (show takeDataF s b = ({ s with held := s.held ++ [b] }, none) by unfold takeDataF; rw [if_pos (by rw [hn]; exact hl)])
  have d1 : decide ((n : Int) < s.cmd.bytes) = true := decide_eq_true hl
  clear hS hX hn h hl
  go_enter Tryd.func111, Tryd.ntmps111
  go_upto_region 1 with (fail)
  rw [← hR]
  generalize hWW : w.alloc _ = X'
  obtain rfl : X' = X := by rw [HX.out, ← hWW]
  clear hWW hR
  go_quiet (fail)
  generalize hWW : X'.drewN nq = X2 at *
  have HS2 := Lib.hid (HS.out.drewN nq)
  rw [hWW] at HS2
  have c1' := HS2.out.fd.cells.at_ 1 _ rfl
  rw [HN.out] at c1'
  have hrow := HS2.out.fd.row
  rw [HN.out] at hrow
  clear hWW HS c1 c12
  go_wp2_with (at_builtin; refine wpList_append_own_at _ rfl _ _ 46 rfl 0 5 i0 (.int .u8 0) 1 1 Tryd.underlying46 hi hz0 hz1 hz2 rfl (by decide) _ _ _ rfl (hrow.alloc _) ⟨X2.heap.size, 0, none⟩ 1 1 [.int .u8 (b.toNat : Int)] rfl rfl ?c1 ?c2 ?c3 ?c4 ?c5 ?_)
  case c1 =>
    intro j u hj
    match j, hj with
    | 0, hj => simp at hj; subst hj; simp [Addr.add]
  case c2 => intro u hu; simp at hu; subst hu; rfl
  case c3 => unfold maxLen; omega
  case c4 => omega
  case c5 => simp
  intro v' W hown' hgrow _ hat
  obtain ⟨a', n', c', rfl⟩ := own_slice hown'
  obtain rfl : s.held.length = n := HN.out
  obtain ⟨U', hU1, hU2, hfd, hk, hres, k1, z1, hlt⟩ := fd_app HS2.out (b := b) hown' hgrow (by simpa using hat)
  have HFD := Lib.hid (And.intro hU1 (And.intro hU2 (And.intro hfd (And.intro hk hlt))))
  have HR2 := Lib.hid hres
  clear hown' hgrow hat hrow hU1 hU2 hfd hk hres hlt
  go_wp2_with (refine wpList_cb rfl 67 (.tmp 4) (.tmp 29) rfl R _ (evC Ev.none (.slice none 0 0)) HR2.out rfl info_ev (evC_one rfl) rfl rfl ?_; intro Y9 hC9 hK9; obtain ⟨r0, r1, r2, r3, r4, r5, r6, r7, r8, r9, r10, r11, r12⟩ := ev_cells hC9)
  refine bodyPost_ret (v := .tuple #[.agg (evC Ev.none (.slice none 0 0)).toArray, .bool false]) (by simp [results, Tryd.results111, go_sem, evC, cmdC, r0, r1, r2, r3, r4, r5, r6, r7, r8, r9, r10, r11, r12]) rfl ?_
  obtain ⟨hU1, hU2, hfd, hk, hlt⟩ := HFD.out
  rw [HE.out]
  exact tk_over2 hk HS2.out.R hU1 hU2 hfd HR2.out hUR hK9
set_option maxHeartbeats 4000000 in
set_option maxRecDepth 100000 in
theorem takeData_end (q : Nat) (U : Nat → Prop) (s : Fst) (b : UInt8) (hv kv : Value) (w : World) (h : FdAt w q U s hv kv) (ho : s.held.length ≤ 2048) (hl : ¬ (s.held.length : Int) < s.cmd.bytes) :
    Calls Tryd.prog 111 #[.pointer (some ⟨q, 0, none⟩), .int .u8 (b.toNat : Int)] w (TkPost w q U (takeDataF s b)) := by
  have hS := tks_new h
  obtain ⟨R, hR⟩ : ∃ R, R = w.heap.size := ⟨_, rfl⟩
  rw [← hR] at hS
  obtain ⟨X, hX⟩ : ∃ X, X = w.alloc (.cells #[.int .u8 0, .slice none 0 0, .int .u8 0, .string ⟨#[]⟩, .string ⟨#[]⟩, .int .u32 0, .int .i64 0, .int .u64 0, .int .u64 0, .int .i64 0, .bool false, .string ⟨#[]⟩, .int .u8 0] 67) := ⟨_, rfl⟩
  rw [← hX] at hS
  have HS := Lib.hid hS
  have HX := Lib.hid hX
  have HR := Lib.hid hR
  obtain ⟨hqR, hUR⟩ := hS.ne
  obtain ⟨n, hn⟩ : ∃ n, s.held.length = n := ⟨_, rfl⟩
  have HN := Lib.hid hn
  have hbl : b.toNat < 256 := UInt8.toNat_lt b
  obtain ⟨a, cap, rfl, hnc, hcm, ha0⟩ := row_slice h.row
  have c1 := HS.out.fd.cells.at_ 1 _ rfl
  have c12 := HS.out.fd.cells.at_ 12 _ rfl
  rw [hn] at c1 hnc ho hl
  unfold maxLen at hcm
  have HL := Lib.hid (show ¬ (s.held.length : Int) < s.cmd.bytes by rw [hn]; exact hl)
  have d1 : decide ((n : Int) < s.cmd.bytes) = false := decide_eq_false hl
  have HU := Lib.hid h.lt
  have HME := Lib.hid h.me
  clear hS hX hn h hl
  go_enter Tryd.func111, Tryd.ntmps111
  go_upto_region 1 with (fail)
  rw [← hR]
  generalize hWW : w.alloc _ = X'
  obtain rfl : X' = X := by rw [HX.out, ← hWW]
  clear hWW hR
  go_quiet (fail)
  generalize hWW : X'.drewN nq = X2 at *
  have HS2 := Lib.hid (HS.out.drewN nq)
  rw [hWW] at HS2
  clear hWW HS c1 c12
  have c2 := HS2.out.fd.cells.at_ 2 _ rfl
  obtain ⟨en, hen⟩ : ∃ en, en = s.ended := ⟨_, rfl⟩
  rw [← hen] at c2
  have HEN := Lib.hid hen
  clear hen
  by_cases h13 : en = false ∧ b = 13
  · obtain ⟨rfl, hb⟩ := h13
    have e1 : ((b.toNat : Int) == 13) = true := by rw [hb]; rfl
    have HE := Lib.hid (show takeDataF s b = ({ s with ended := true }, none) by unfold takeDataF; rw [if_neg HL.out, if_pos ⟨HEN.out.symm, hb⟩])
    have z2 := HS2.out.fd.cells.fz 2 (by show 2 < 15; decide)
    have hs := HS2.out.fd.cells.set 2 (.bool true) (by show 2 < 15; decide) (C' := fdC { s with ended := true } (.slice a s.held.length cap) kv) rfl
    have hks : Keeps (fun k => k = q) X2 (X2.setCell ⟨q, 2, none⟩ (.bool true)) := Keeps.setCell (S := fun k => k = q) (Keeps.refl _ _) (p := ⟨q, 2, none⟩) (.inl rfl) _
    have hfd : FdAt (X2.setCell ⟨q, 2, none⟩ (.bool true)) q U { s with ended := true } (.slice a s.held.length cap) kv := ⟨hs, Keeps.ownsRow HS2.out.fd.row hks (fun g e n => (HS2.out.fd.own g e).2 n), HS2.out.fd.own, HS2.out.fd.me, HS2.out.fd.keys.stay hks (fun g hg e => hg (e ▸ HME.out)), fun k u => Nat.lt_of_lt_of_le (HS2.out.fd.lt k u) hks.size⟩
    have HFD := Lib.hid (And.intro hfd (HS2.out.keeps.trans (T := fun k => k = q) hks (fun k _ e => e ▸ HME.out)))
    have HR2 := Lib.hid (HS2.out.res.keep hks (by omega))
    clear hb hs hks hfd
    go_wp2_with (refine wpList_cb rfl 67 (.tmp 4) (.tmp 43) rfl R _ (evC Ev.none (.slice none 0 0)) HR2.out rfl info_ev (evC_one rfl) rfl rfl ?_; intro Y9 hC9 hK9; obtain ⟨r0, r1, r2, r3, r4, r5, r6, r7, r8, r9, r10, r11, r12⟩ := ev_cells hC9)
    refine bodyPost_ret (v := .tuple #[.agg (evC Ev.none (.slice none 0 0)).toArray, .bool false]) (by simp [results, Tryd.results111, go_sem, evC, cmdC, r0, r1, r2, r3, r4, r5, r6, r7, r8, r9, r10, r11, r12]) rfl ?_
    rw [HE.out]
    exact tk_over2 HFD.out.2 HS2.out.R (fun k u => u) (fun k u => .inl u) HFD.out.1 HR2.out hUR hK9
  by_cases h10 : en = true ∧ b = 10
  · obtain ⟨rfl, hb⟩ := h10
    have e1 : ((b.toNat : Int) == 13) = false := by rw [hb]; rfl
    have e2 : ((b.toNat : Int) == 10) = true := by rw [hb]; rfl
    have HE := Lib.hid (show takeDataF s b = (Fst.at 0, some ⟨s.cmd, s.held, 0⟩) by unfold takeDataF; rw [if_neg HL.out, if_neg (by rw [← HEN.out]; simp), if_pos ⟨HEN.out.symm, hb⟩])
    clear hb h13
    go_upto_region 8 with (fail)
    have hKP : ∀ Z, Below X2.heap.size X2 Z → (Z.cell? ⟨q, 1, none⟩ = some (.slice a n cap) ∧ Z.cell? ⟨q, 3, none⟩ = some (.int .u8 (s.cmd.verb : Nat)) ∧ Z.cell? ⟨q, 4, none⟩ = some kv ∧ Z.cell? ⟨q, 5, none⟩ = some (.int .u8 (s.cmd.cverb : Nat)) ∧ Z.cell? ⟨q, 6, none⟩ = some (.string ⟨s.cmd.key.toArray⟩) ∧ Z.cell? ⟨q, 7, none⟩ = some (.string ⟨s.cmd.value.toArray⟩) ∧ Z.cell? ⟨q, 8, none⟩ = some (.int .u32 s.cmd.flags) ∧ Z.cell? ⟨q, 9, none⟩ = some (.int .i64 s.cmd.exp) ∧ Z.cell? ⟨q, 10, none⟩ = some (.int .u64 s.cmd.id) ∧ Z.cell? ⟨q, 11, none⟩ = some (.int .u64 s.cmd.by_) ∧ Z.cell? ⟨q, 12, none⟩ = some (.int .i64 s.cmd.bytes) ∧ Z.cell? ⟨q, 13, none⟩ = some (.bool s.cmd.quiet) ∧ (convert 46 9 (.slice a n cap)).run Tryd.prog Z = .ok (.string ⟨s.held.toArray⟩) Z) := fun Z hb => by
      have hf := (HS2.out.fd.new hb)
      have hc := hf.cells
      have h1 := hc.at_ 1 _ rfl
      rw [HN.out] at h1
      have hcv := conv_by (P := Tryd.prog) Z 46 9 5 Tryd.underlying46 Tryd.underlying5 Tryd.underlying9 (l := s.held) cap (own_rd8 hf.row)
      rw [HN.out] at hcv
      exact ⟨h1, hc.at_ 3 _ rfl, hc.at_ 4 _ rfl, hc.at_ 5 _ rfl, hc.at_ 6 _ rfl, hc.at_ 7 _ rfl, hc.at_ 8 _ rfl, hc.at_ 9 _ rfl, hc.at_ 10 _ rfl, hc.at_ 11 _ rfl, hc.at_ 12 _ rfl, hc.at_ 13 _ rfl, hcv⟩
    have KP := Lib.hid hKP
    clear hKP
    obtain ⟨ka, kn, kc, rfl⟩ : ∃ x y z, kv = .slice x y z := by
      obtain ⟨x, z, e, _⟩ := HS2.out.fd.keys.len
      exact ⟨_, _, _, e⟩
    go_region_held3 (fun Z => Z.cell? ⟨q, 1, none⟩ = some (.slice a n cap) ∧ Z.cell? ⟨q, 3, none⟩ = some (.int .u8 (s.cmd.verb : Nat)) ∧ Z.cell? ⟨q, 4, none⟩ = some (.slice ka kn kc) ∧ Z.cell? ⟨q, 5, none⟩ = some (.int .u8 (s.cmd.cverb : Nat)) ∧ Z.cell? ⟨q, 6, none⟩ = some (.string ⟨s.cmd.key.toArray⟩) ∧ Z.cell? ⟨q, 7, none⟩ = some (.string ⟨s.cmd.value.toArray⟩) ∧ Z.cell? ⟨q, 8, none⟩ = some (.int .u32 s.cmd.flags) ∧ Z.cell? ⟨q, 9, none⟩ = some (.int .i64 s.cmd.exp) ∧ Z.cell? ⟨q, 10, none⟩ = some (.int .u64 s.cmd.id) ∧ Z.cell? ⟨q, 11, none⟩ = some (.int .u64 s.cmd.by_) ∧ Z.cell? ⟨q, 12, none⟩ = some (.int .i64 s.cmd.bytes) ∧ Z.cell? ⟨q, 13, none⟩ = some (.bool s.cmd.quiet) ∧ (convert 46 9 (.slice a n cap)).run Tryd.prog Z = .ok (.string ⟨s.held.toArray⟩) Z)
      (first | exact KP.out _ (Below.refl _ _) | exact KP.out _ ((Below.refl _ _).drew) | exact KP.out _ ((Below.refl _ _).alloc (Nat.le_refl _) _) | exact KP.out _ (((Below.refl _ _).alloc (Nat.le_refl _) _).drew))
      (fail)
    go_upto_region 9 with (fail)
    generalize hYY : (X2.alloc _).drew = Y
    have hb6 : Below X2.heap.size X2 Y := by rw [← hYY]; exact ((Below.refl _ _).alloc (Nat.le_refl _) _).drew
    have hc6 : Cb Y X2.heap.size (evC ⟨s.cmd, s.held, 0⟩ (.slice ka kn kc)) := by
      rw [← hYY]
      have hc : Cb (X2.alloc (.cells (evC ⟨s.cmd, s.held, 0⟩ (.slice ka kn kc)).toArray 67)) X2.heap.size (evC ⟨s.cmd, s.held, 0⟩ (.slice ka kn kc)) := cb_new (by simp)
      exact hc.new ((Below.refl _ _).drew)
    have hf6 := HS2.out.fd.new hb6
    have HT0 := Lib.hid (turnw q 0 s _ _ Y hf6.cells)
    have HF6 := Lib.hid hf6
    have HC6 := Lib.hid hc6
    have HR6 := Lib.hid (HS2.out.res.new hb6)
    have HK6 := Lib.hid (HS2.out.keeps.trans (Keeps.of_new (S := U) hb6) (fun _ _ u => u))
    have hqb : q ≠ X2.heap.size ∧ R ≠ X2.heap.size := ⟨by have := HS2.out.fd.cells.lt; omega, by have := HS2.out.res.lt; omega⟩
    clear hYY hb6 hc6 hf6
    obtain ⟨hqb, hRb⟩ := hqb
    generalize X2.heap.size = b6 at *
    go_wp2_with fail
    refine HT0.out.mono ?_
    rintro e Y2 ⟨rfl, hC2, hk2⟩
    obtain ⟨k0, k1, k2, k3, k4, k5, k6, k7, k8, k9, k10, k11, k12⟩ := ev_cells (HC6.out.keep hk2 (by omega))
    have HR7 := Lib.hid (HR6.out.keep hk2 (by omega))
    have HC2 := Lib.hid hC2
    have HK7 := Lib.hid (HK6.out.trans (T := fun k => k = q) hk2 (fun k _ e => e ▸ HME.out))
    have HKY := Lib.hid (HF6.out.keys.stay hk2 (fun g hg e => hg (e ▸ HME.out)))
    clear hC2 hk2
    obtain ⟨ev, hev⟩ : ∃ ev : Ev, ev = ⟨s.cmd, s.held, 0⟩ := ⟨_, rfl⟩
    have HEV := Lib.hid hev
    clear hev
    go_wp2_with (refine wpList_cb rfl 67 (.tmp 4) (.tmp 65) rfl R _ (evC ⟨s.cmd, s.held, 0⟩ (.slice ka kn kc)) HR7.out rfl info_ev (evC_one rfl) rfl rfl ?_; intro Y9 hC9 hK9; rw [← HEV.out] at hC9; obtain ⟨r0, r1, r2, r3, r4, r5, r6, r7, r8, r9, r10, r11, r12⟩ := ev_cells hC9)
    refine bodyPost_ret (v := .tuple #[.agg (evC ev (.slice ka kn kc)).toArray, .bool true]) (by simp [results, Tryd.results111, go_sem, evC, cmdC, r0, r1, r2, r3, r4, r5, r6, r7, r8, r9, r10, r11, r12]) rfl ?_
    rw [HE.out, HEV.out]
    have hk := par_keep HK7.out (by rw [← HS2.out.R]; exact hK9) (by rw [← HS2.out.R]; exact hUR)
    exact ⟨U, _, _, ⟨s.cmd, s.held, 0⟩, .slice ka kn kc, rfl, .inl rfl, turn_keep hk, fd_at (Cb.keep HC2.out hK9 hqR) HME.out (fun k u => Nat.lt_of_lt_of_le (HU.out k u) hk.size), HKY.out.over HR7.out hK9⟩
  · have HE := Lib.hid (show takeDataF s b = (if b = 10 then Fst.at 0 else Fst.at 2, some (Ev.fault 6)) by unfold takeDataF; rw [if_neg HL.out, if_neg (by rw [← HEN.out]; exact h13), if_neg (by rw [← HEN.out]; exact h10)]; split <;> rfl)
    have HT0 := Lib.hid (turnw q 0 s _ _ X2 HS2.out.fd.cells)
    have HT2 := Lib.hid (turnw q 2 s _ _ X2 HS2.out.fd.cells)
    have g13 : ((!en) && ((b.toNat : Int) == 13)) = false := by
      cases en with
      | true => rfl
      | false => simp; intro e; exact h13 ⟨rfl, UInt8.toNat_inj.mp (by show b.toNat = 13; omega)⟩
    have HG13 := Lib.hid h13
    have HG10 := Lib.hid h10
    clear g13 h13 h10
    by_cases hb : b = 10
    · have hen : en = false := by cases en with | false => rfl | true => exact absurd ⟨rfl, hb⟩ HG10.out
      subst hen
      have e1 : ((b.toNat : Int) == 13) = false := by rw [hb]; rfl
      have e2 : ((b.toNat : Int) == 10) = true := by rw [hb]; rfl
      have HE2 := Lib.hid (show takeDataF s b = (Fst.at 0, some (Ev.fault 6)) by rw [HE.out, if_pos hb])
      clear hb
      go_wp2_with fail
      refine HT0.out.mono ?_
      rintro e Y2 ⟨rfl, hC2, hk2⟩
      have HR2 := Lib.hid (HS2.out.res.keep hk2 (by omega))
      have HC2 := Lib.hid hC2
      have HK2 := Lib.hid (HS2.out.keeps.trans (T := fun k => k = q) hk2 (fun k _ e => e ▸ HME.out))
      clear hC2 hk2
      go_wp2_with fail
      refine (faultw 6 _).mono ?_
      rintro e Y5 ⟨rfl, hb5⟩
      obtain ⟨ev, hev⟩ : ∃ ev, ev = Ev.fault 6 := ⟨_, rfl⟩
      rw [← hev]
      have HEV := Lib.hid hev
      have HR5 := Lib.hid (HR2.out.new hb5)
      have HS5 := Lib.hid (HC2.out.new hb5)
      have HT5 := Lib.hid (HK2.out.trans (Keeps.of_new (S := U) hb5) (fun _ _ u => u))
      clear hb5 hev
      go_wp2_with (refine wpList_cb rfl 67 (.tmp 4) (.tmp 73) rfl R _ (evC ev (.slice none 0 0)) HR5.out rfl info_ev (evC_one rfl) rfl rfl ?_; intro Y9 hC9 hK9; obtain ⟨r0, r1, r2, r3, r4, r5, r6, r7, r8, r9, r10, r11, r12⟩ := ev_cells hC9)
      refine bodyPost_ret (v := .tuple #[.agg (evC ev (.slice none 0 0)).toArray, .bool true]) (by simp [results, Tryd.results111, go_sem, evC, cmdC, r0, r1, r2, r3, r4, r5, r6, r7, r8, r9, r10, r11, r12]) rfl ?_
      rw [HE2.out, HEV.out]
      exact tk_fault (par_keep HT5.out (by rw [← HS2.out.R]; exact hK9) (by rw [← HS2.out.R]; exact hUR)) (Cb.keep HS5.out hK9 hqR) HME.out HU.out
    · have e2 : ((b.toNat : Int) == 10) = false := beq_eq_false_iff_ne.mpr (fun e => hb (UInt8.toNat_inj.mp (by show b.toNat = 10; omega)))
      have HE2 := Lib.hid (show takeDataF s b = (Fst.at 2, some (Ev.fault 6)) by rw [HE.out, if_neg hb])
      clear hb
      cases en with
      | true =>
        go_wp2_with fail
        refine HT2.out.mono ?_
        rintro e Y2 ⟨rfl, hC2, hk2⟩
        have HR2 := Lib.hid (HS2.out.res.keep hk2 (by omega))
        have HC2 := Lib.hid hC2
        have HK2 := Lib.hid (HS2.out.keeps.trans (T := fun k => k = q) hk2 (fun k _ e => e ▸ HME.out))
        clear hC2 hk2
        go_wp2_with fail
        refine (faultw 6 _).mono ?_
        rintro e Y5 ⟨rfl, hb5⟩
        obtain ⟨ev, hev⟩ : ∃ ev, ev = Ev.fault 6 := ⟨_, rfl⟩
        rw [← hev]
        have HEV := Lib.hid hev
        have HR5 := Lib.hid (HR2.out.new hb5)
        have HS5 := Lib.hid (HC2.out.new hb5)
        have HT5 := Lib.hid (HK2.out.trans (Keeps.of_new (S := U) hb5) (fun _ _ u => u))
        clear hb5 hev
        go_wp2_with (refine wpList_cb rfl 67 (.tmp 4) (.tmp 73) rfl R _ (evC ev (.slice none 0 0)) HR5.out rfl info_ev (evC_one rfl) rfl rfl ?_; intro Y9 hC9 hK9; obtain ⟨r0, r1, r2, r3, r4, r5, r6, r7, r8, r9, r10, r11, r12⟩ := ev_cells hC9)
        refine bodyPost_ret (v := .tuple #[.agg (evC ev (.slice none 0 0)).toArray, .bool true]) (by simp [results, Tryd.results111, go_sem, evC, cmdC, r0, r1, r2, r3, r4, r5, r6, r7, r8, r9, r10, r11, r12]) rfl ?_
        rw [HE2.out, HEV.out]
        exact tk_fault (par_keep HT5.out (by rw [← HS2.out.R]; exact hK9) (by rw [← HS2.out.R]; exact hUR)) (Cb.keep HS5.out hK9 hqR) HME.out HU.out
      | false =>
        have e1 : ((b.toNat : Int) == 13) = false := beq_eq_false_iff_ne.mpr (fun e => HG13.out ⟨rfl, UInt8.toNat_inj.mp (by show b.toNat = 13; omega)⟩)
        go_wp2_with fail
        refine HT2.out.mono ?_
        rintro e Y2 ⟨rfl, hC2, hk2⟩
        have HR2 := Lib.hid (HS2.out.res.keep hk2 (by omega))
        have HC2 := Lib.hid hC2
        have HK2 := Lib.hid (HS2.out.keeps.trans (T := fun k => k = q) hk2 (fun k _ e => e ▸ HME.out))
        clear hC2 hk2
        go_wp2_with fail
        refine (faultw 6 _).mono ?_
        rintro e Y5 ⟨rfl, hb5⟩
        obtain ⟨ev, hev⟩ : ∃ ev, ev = Ev.fault 6 := ⟨_, rfl⟩
        rw [← hev]
        have HEV := Lib.hid hev
        have HR5 := Lib.hid (HR2.out.new hb5)
        have HS5 := Lib.hid (HC2.out.new hb5)
        have HT5 := Lib.hid (HK2.out.trans (Keeps.of_new (S := U) hb5) (fun _ _ u => u))
        clear hb5 hev
        go_wp2_with (refine wpList_cb rfl 67 (.tmp 4) (.tmp 73) rfl R _ (evC ev (.slice none 0 0)) HR5.out rfl info_ev (evC_one rfl) rfl rfl ?_; intro Y9 hC9 hK9; obtain ⟨r0, r1, r2, r3, r4, r5, r6, r7, r8, r9, r10, r11, r12⟩ := ev_cells hC9)
        refine bodyPost_ret (v := .tuple #[.agg (evC ev (.slice none 0 0)).toArray, .bool true]) (by simp [results, Tryd.results111, go_sem, evC, cmdC, r0, r1, r2, r3, r4, r5, r6, r7, r8, r9, r10, r11, r12]) rfl ?_
        rw [HE2.out, HEV.out]
        exact tk_fault (par_keep HT5.out (by rw [← HS2.out.R]; exact hK9) (by rw [← HS2.out.R]; exact hUR)) (Cb.keep HS5.out hK9 hqR) HME.out HU.out
end Go.Proofs.YtifbcejekdhnlaaDoor
