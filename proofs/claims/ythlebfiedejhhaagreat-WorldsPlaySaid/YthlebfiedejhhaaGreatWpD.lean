/- An act of chapter 10's law, done in both worlds. -/
import Derived.Test.YthlebfiedejhhaaGreatWp
import Derived.Deep.Cut
import Derived.Deep.RegionHeld3
namespace Go.Proofs.YthlebfiedejhhaaGreat
open Go.RowKit Go.Maps
set_option linter.unusedVariables false
section
variable {G : Nat → Prop} {w w1 : World} {A R : Ad} {V : Wv} {k : Nat}
theorem WpP.after {w' : World} (hb : Below w.heap.size w w1) (h : WpP G A R k w1 w') : WpP G A R k w w' := by
  obtain ⟨V', hI, hK⟩ := h
  exact ⟨V', hI, Kp.to (Kp.of hb) hK⟩
set_option maxHeartbeats 8000000 in
set_option maxRecDepth 100000 in
theorem do_w (h : WpI G w A R V k) (hk : k < 60) (x0 x1 x2 x3 x4 x5 x6 x7 x8 : Int) (x9 x10 : ByteArray) (x11 x12 x13 x14 : Int) (hx0 : 0 ≤ x0 ∧ x0 ≤ 255) (hx1 : 0 ≤ x1 ∧ x1 ≤ 255) (h7 : isU x7) (h8 : isU x8) :
    Calls Tryz.prog 14 #[.agg #[.pointer (some ⟨A.p, 0, none⟩), .pointer (some ⟨R.p, 0, none⟩)], .agg #[.int .u8 x0, .int .u8 x1, .int .i64 x2, .int .i64 x3, .int .i64 x4, .int .i64 x5, .int .i64 x6, .int .u64 x7, .int .u64 x8, .string x9, .string x10, .int .u32 x11, .int .u64 x12, .int .i64 x13, .int .i64 x14]] w fun e w' => e = .returned (.bool true) ∧ WpP G A R k w w' := by
  obtain ⟨F, hF⟩ : ∃ F, F = w.heap.size := ⟨_, rfl⟩
  have HH := Lib.hid h
  clear h
  go_enter Tryz.func14, Tryz.ntmps14
  go_upto_region 1 with (fail)
  generalize hW1 : World.alloc w _ = W1
  generalize hW2 : World.alloc W1 _ = W2
  have b1 : Below w.heap.size w W1 := by rw [← hW1]; exact bs_alloc (Below.refl _ _)
  have b2 : Below W1.heap.size W1 W2 := by rw [← hW2]; exact bs_alloc (Below.refl _ _)
  have z1 : W1.heap.size = F + 1 := by rw [← hW1, hF]; simp
  have z2 : W2.heap.size = F + 2 := by rw [← hW2]; simp [z1]
  have HI1 := HH.out.add (q := F) b1 (by omega) (by omega)
  have HI2 := Lib.hid (HI1.add (q := F + 1) b2 (by omega) (by omega))
  have B2 := Lib.hid (below_then b1 b2)
  have FX : Hid (∀ X, Kp (fun j => j = F ∨ j = F + 1) W2 X → X.cell? ⟨F, 0, none⟩ = some (.pointer (some ⟨A.p, 0, none⟩)) ∧ X.cell? ⟨F, 1, none⟩ = some (.pointer (some ⟨R.p, 0, none⟩)) ∧ X.cell? ⟨F + 1, 0, none⟩ = some (.int .u8 x0) ∧ X.cell? ⟨F + 1, 1, none⟩ = some (.int .u8 x1) ∧ X.cell? ⟨F + 1, 2, none⟩ = some (.int .i64 x2) ∧ X.cell? ⟨F + 1, 3, none⟩ = some (.int .i64 x3) ∧ X.cell? ⟨F + 1, 4, none⟩ = some (.int .i64 x4) ∧ X.cell? ⟨F + 1, 5, none⟩ = some (.int .i64 x5) ∧ X.cell? ⟨F + 1, 6, none⟩ = some (.int .i64 x6) ∧ X.cell? ⟨F + 1, 7, none⟩ = some (.int .u64 x7) ∧ X.cell? ⟨F + 1, 8, none⟩ = some (.int .u64 x8) ∧ X.cell? ⟨F + 1, 9, none⟩ = some (.string x9) ∧ X.cell? ⟨F + 1, 10, none⟩ = some (.string x10) ∧ X.cell? ⟨F + 1, 11, none⟩ = some (.int .u32 x11) ∧ X.cell? ⟨F + 1, 12, none⟩ = some (.int .u64 x12) ∧ X.cell? ⟨F + 1, 13, none⟩ = some (.int .i64 x13) ∧ X.cell? ⟨F + 1, 14, none⟩ = some (.int .i64 x14)) := Lib.hid (fun X hx => by
    have q0 : W1.cell? ⟨F, 0, none⟩ = some (.pointer (some ⟨A.p, 0, none⟩)) := by rw [← hW1, hF]; exact new_at rfl rfl
    have q1 : W1.cell? ⟨F, 1, none⟩ = some (.pointer (some ⟨R.p, 0, none⟩)) := by rw [← hW1, hF]; exact new_at rfl rfl
    have up1 : ∀ {j v}, W1.cell? ⟨F, j, none⟩ = some v → X.cell? ⟨F, j, none⟩ = some v := fun {j v} hc => hx.cell (p := ⟨F, j, none⟩) (fun n => n (.inl rfl)) ((b2.cell (p := ⟨F, j, none⟩) (World.block_lt_of_cell? _ _ hc)).trans hc)
    have up2 : ∀ {j v}, W2.cell? ⟨F + 1, j, none⟩ = some v → X.cell? ⟨F + 1, j, none⟩ = some v := fun {j v} hc => hx.cell (p := ⟨F + 1, j, none⟩) (fun n => n (.inr rfl)) hc
    refine ⟨up1 q0, up1 q1, up2 ?_, up2 ?_, up2 ?_, up2 ?_, up2 ?_, up2 ?_, up2 ?_, up2 ?_, up2 ?_, up2 ?_, up2 ?_, up2 ?_, up2 ?_, up2 ?_, up2 ?_⟩ <;> (rw [← hW2]; exact new_at z1.symm rfl))
  rw [← hF]
  clear hW1 hW2 b1 b2 z1 z2 HI1 hF HH
  obtain ⟨m, hm⟩ : ∃ m, x0.tmod 7 = m := ⟨_, rfl⟩
  have hmr : m = 0 ∨ m = 1 ∨ m = 2 ∨ m = 3 ∨ m = 4 ∨ m = 5 ∨ m = 6 := by rw [Int.tmod_eq_emod_of_nonneg hx0.1] at hm; omega
  have mk : IntKind.i64.wrap x1 = x1 := IntWalk.i64_in _ (by omega)
  obtain ⟨p0, p1, f0, f1, f2, f3, f4, f5, f6, f7, f8, f9, f10, f11, f12, f13, f14⟩ := FX.out _ (Keeps.refl _ _)
  rcases hmr with rfl | rfl | rfl | rfl | rfl | rfl | rfl
  · clear f1 f2 f3 f4 f5 f6 f9 f10 f11 f12 f13 f14
    go_upto_region 18 with (first
      | (go_at_call 21; (refine (HI2.out.store hk h7 h8).mono ?_); rintro e w6 ⟨rfl, hq⟩; have HQ := Lib.hid hq; clear hq p0 p1 f0 f7 f8))
    obtain ⟨V', hI, hK⟩ := HQ.out
    have HK6 := Lib.hid hK
    have HI6 := Lib.hid hI
    obtain ⟨S, T, hp, -⟩ := hI.pg
    have KEEP6 : Hid (∀ X, Below w6.heap.size w6 X → X.cell? ⟨F, 0, none⟩ = some (.pointer (some ⟨A.p, 0, none⟩)) ∧ X.cell? ⟨F, 1, none⟩ = some (.pointer (some ⟨R.p, 0, none⟩))) := Lib.hid (fun X hb => by
      obtain ⟨a, b, -⟩ := FX.out X ((Kp.to hK (Kp.of hb)).less (fun j hj => by
        rcases hj with rfl | rfl
        · exact .inl (.inr rfl)
        · exact .inr rfl))
      exact ⟨a, b⟩)
    have C1 := Lib.hid (fun X (hb : Below w6.heap.size w6 X) => wgrows (hp.new hb).a)
    have C2 := Lib.hid (fun X (hb : Below w6.heap.size w6 X) => pw_rgrows (hp.new hb))
    have C3 := Lib.hid (fun X (hb : Below w6.heap.size w6 X) => wfull (hp.new hb).a hI.bu.1 (by have := hI.bu.2; omega))
    have C4 := Lib.hid (fun X (hb : Below w6.heap.size w6 X) => pw_rfull (hp.new hb) hI.bu.1 (by have := hI.bu.2; omega))
    generalize growsF V' = gr at C1 C2
    generalize decide (V'.c.budget ≤ V'.f 6) = fu at C3 C4
    have eg : (gr == gr) = true := by simp
    have ef : (fu == fu) = true := by simp
    have hd6 : Below w6.heap.size w6 w6.drew := (Below.refl _ _).drew
    obtain ⟨s0, s1⟩ := KEEP6.out _ hd6
    clear hI hK hp HQ
    go_wp2_with fail
    go_region_held3 (fun X => X.cell? ⟨F, 0, none⟩ = some (.pointer (some ⟨A.p, 0, none⟩)) ∧ X.cell? ⟨F, 1, none⟩ = some (.pointer (some ⟨R.p, 0, none⟩)))
      (first | exact ⟨by assumption, by assumption⟩)
      (first
        | (go_at_call 57; ((with_reducible refine (C1.out _ hd6).mono ?_); rintro e w7 ⟨rfl, hb7⟩; have hk7 := below_then hd6 hb7; clear s0 s1; obtain ⟨s0, s1⟩ := KEEP6.out _ hk7))
        | (go_at_call 74; ((with_reducible refine (C2.out _ hk7).mono ?_); rintro e w8 ⟨rfl, hb8⟩; have hk8 := below_then hk7 hb8; clear s0 s1; obtain ⟨s0, s1⟩ := KEEP6.out _ hk8))
        | (go_at_call 75; ((with_reducible refine (C3.out _ hk8).mono ?_); rintro e w9 ⟨rfl, hb9⟩; have hk9 := below_then hk8 hb9; clear s0 s1; obtain ⟨s0, s1⟩ := KEEP6.out _ hk9))
        | (go_at_call 76; ((with_reducible refine (C4.out _ hk9).mono ?_); rintro e w10 ⟨rfl, hb10⟩; have hk10 := below_then hk9 hb10; clear s0 s1; obtain ⟨s0, s1⟩ := KEEP6.out _ hk10)))
    clear s0 s1 eg ef
    go_wp2_with fail
    go_ret
    exact ⟨rfl, V', (HI6.out.new hk10).less (fun j g => .inl (.inl g)), Kp.to (Kp.of B2.out) ((Kp.to HK6.out (Kp.of hk10)).less (fun j g => .inl (.inl g)))⟩
  · clear f1 f2 f3 f4 f5 f6 f7 f8
    go_upto_region 18 with (first
      | (go_at_call 62; (refine (HI2.out.item hk x9 x10 x11 x12 x13 x14).mono ?_); rintro e w6 ⟨rfl, hq⟩; have HQ := Lib.hid hq; clear hq p0 p1 f0 f9 f10 f11 f12 f13 f14))
    obtain ⟨V', hI, hK⟩ := HQ.out
    have HK6 := Lib.hid hK
    have HI6 := Lib.hid hI
    obtain ⟨S, T, hp, -⟩ := hI.pg
    have KEEP6 : Hid (∀ X, Below w6.heap.size w6 X → X.cell? ⟨F, 0, none⟩ = some (.pointer (some ⟨A.p, 0, none⟩)) ∧ X.cell? ⟨F, 1, none⟩ = some (.pointer (some ⟨R.p, 0, none⟩))) := Lib.hid (fun X hb => by
      obtain ⟨a, b, -⟩ := FX.out X ((Kp.to hK (Kp.of hb)).less (fun j hj => by
        rcases hj with rfl | rfl
        · exact .inl (.inr rfl)
        · exact .inr rfl))
      exact ⟨a, b⟩)
    have C1 := Lib.hid (fun X (hb : Below w6.heap.size w6 X) => wgrows (hp.new hb).a)
    have C2 := Lib.hid (fun X (hb : Below w6.heap.size w6 X) => pw_rgrows (hp.new hb))
    have C3 := Lib.hid (fun X (hb : Below w6.heap.size w6 X) => wfull (hp.new hb).a hI.bu.1 (by have := hI.bu.2; omega))
    have C4 := Lib.hid (fun X (hb : Below w6.heap.size w6 X) => pw_rfull (hp.new hb) hI.bu.1 (by have := hI.bu.2; omega))
    generalize growsF V' = gr at C1 C2
    generalize decide (V'.c.budget ≤ V'.f 6) = fu at C3 C4
    have eg : (gr == gr) = true := by simp
    have ef : (fu == fu) = true := by simp
    have hd6 : Below w6.heap.size w6 w6.drew := (Below.refl _ _).drew
    obtain ⟨s0, s1⟩ := KEEP6.out _ hd6
    clear hI hK hp HQ
    go_wp2_with fail
    go_region_held3 (fun X => X.cell? ⟨F, 0, none⟩ = some (.pointer (some ⟨A.p, 0, none⟩)) ∧ X.cell? ⟨F, 1, none⟩ = some (.pointer (some ⟨R.p, 0, none⟩)))
      (first | exact ⟨by assumption, by assumption⟩)
      (first
        | (go_at_call 57; ((with_reducible refine (C1.out _ hd6).mono ?_); rintro e w7 ⟨rfl, hb7⟩; have hk7 := below_then hd6 hb7; clear s0 s1; obtain ⟨s0, s1⟩ := KEEP6.out _ hk7))
        | (go_at_call 74; ((with_reducible refine (C2.out _ hk7).mono ?_); rintro e w8 ⟨rfl, hb8⟩; have hk8 := below_then hk7 hb8; clear s0 s1; obtain ⟨s0, s1⟩ := KEEP6.out _ hk8))
        | (go_at_call 75; ((with_reducible refine (C3.out _ hk8).mono ?_); rintro e w9 ⟨rfl, hb9⟩; have hk9 := below_then hk8 hb9; clear s0 s1; obtain ⟨s0, s1⟩ := KEEP6.out _ hk9))
        | (go_at_call 76; ((with_reducible refine (C4.out _ hk9).mono ?_); rintro e w10 ⟨rfl, hb10⟩; have hk10 := below_then hk9 hb10; clear s0 s1; obtain ⟨s0, s1⟩ := KEEP6.out _ hk10)))
    clear s0 s1 eg ef
    go_wp2_with fail
    go_ret
    exact ⟨rfl, V', (HI6.out.new hk10).less (fun j g => .inl (.inl g)), Kp.to (Kp.of B2.out) ((Kp.to HK6.out (Kp.of hk10)).less (fun j g => .inl (.inl g)))⟩
  · clear f7 f8 f9 f10 f11 f12 f13 f14
    go_upto_region 18 with (first
      | (go_at_call 70; (refine (HI2.out.pg.hf.wnote (by have := HI2.out.ml; omega) x1 x2 x3 x4 x5 x6).mono ?_); rintro e w5 ⟨rfl, h5, k5⟩; have H5 := Lib.hid h5; have K5 := Lib.hid k5; clear p0 p1 f0 f1 f2 f3 f4 f5 f6; obtain ⟨p0, p1, f0, f1, f2, f3, f4, f5, f6, f7, f8, f9, f10, f11, f12, f13, f14⟩ := FX.out _ (k5.less (fun j hj => by rcases hj with rfl | rfl <;> simp)); clear h5 k5 f0 f7 f8 f9 f10 f11 f12 f13 f14)
      | (go_at_call 71; (refine (H5.out.rnote (by have := HI2.out.ml; omega) x1 x2 x3 x4 x5 x6).mono ?_); rintro e w6 ⟨rfl, h6, k6⟩; have HQ := Lib.hid (HI2.out.noted (x := (V.cnt, V.h, x1, x2, x3, x4, x5, x6)) hx1 h6 (Kp.to K5.out k6)); clear h6 k6 p0 p1 f1 f2 f3 f4 f5 f6))
    obtain ⟨V', hI, hK⟩ := HQ.out
    have HK6 := Lib.hid hK
    have HI6 := Lib.hid hI
    obtain ⟨S, T, hp, -⟩ := hI.pg
    have KEEP6 : Hid (∀ X, Below w6.heap.size w6 X → X.cell? ⟨F, 0, none⟩ = some (.pointer (some ⟨A.p, 0, none⟩)) ∧ X.cell? ⟨F, 1, none⟩ = some (.pointer (some ⟨R.p, 0, none⟩))) := Lib.hid (fun X hb => by
      obtain ⟨a, b, -⟩ := FX.out X ((Kp.to hK (Kp.of hb)).less (fun j hj => by
        rcases hj with rfl | rfl
        · exact .inl (.inr rfl)
        · exact .inr rfl))
      exact ⟨a, b⟩)
    have C1 := Lib.hid (fun X (hb : Below w6.heap.size w6 X) => wgrows (hp.new hb).a)
    have C2 := Lib.hid (fun X (hb : Below w6.heap.size w6 X) => pw_rgrows (hp.new hb))
    have C3 := Lib.hid (fun X (hb : Below w6.heap.size w6 X) => wfull (hp.new hb).a hI.bu.1 (by have := hI.bu.2; omega))
    have C4 := Lib.hid (fun X (hb : Below w6.heap.size w6 X) => pw_rfull (hp.new hb) hI.bu.1 (by have := hI.bu.2; omega))
    generalize growsF V' = gr at C1 C2
    generalize decide (V'.c.budget ≤ V'.f 6) = fu at C3 C4
    have eg : (gr == gr) = true := by simp
    have ef : (fu == fu) = true := by simp
    have hd6 : Below w6.heap.size w6 w6.drew := (Below.refl _ _).drew
    obtain ⟨s0, s1⟩ := KEEP6.out _ hd6
    clear hI hK hp HQ
    go_wp2_with fail
    go_region_held3 (fun X => X.cell? ⟨F, 0, none⟩ = some (.pointer (some ⟨A.p, 0, none⟩)) ∧ X.cell? ⟨F, 1, none⟩ = some (.pointer (some ⟨R.p, 0, none⟩)))
      (first | exact ⟨by assumption, by assumption⟩)
      (first
        | (go_at_call 57; ((with_reducible refine (C1.out _ hd6).mono ?_); rintro e w7 ⟨rfl, hb7⟩; have hk7 := below_then hd6 hb7; clear s0 s1; obtain ⟨s0, s1⟩ := KEEP6.out _ hk7))
        | (go_at_call 74; ((with_reducible refine (C2.out _ hk7).mono ?_); rintro e w8 ⟨rfl, hb8⟩; have hk8 := below_then hk7 hb8; clear s0 s1; obtain ⟨s0, s1⟩ := KEEP6.out _ hk8))
        | (go_at_call 75; ((with_reducible refine (C3.out _ hk8).mono ?_); rintro e w9 ⟨rfl, hb9⟩; have hk9 := below_then hk8 hb9; clear s0 s1; obtain ⟨s0, s1⟩ := KEEP6.out _ hk9))
        | (go_at_call 76; ((with_reducible refine (C4.out _ hk9).mono ?_); rintro e w10 ⟨rfl, hb10⟩; have hk10 := below_then hk9 hb10; clear s0 s1; obtain ⟨s0, s1⟩ := KEEP6.out _ hk10)))
    clear s0 s1 eg ef
    go_wp2_with fail
    go_ret
    exact ⟨rfl, V', (HI6.out.new hk10).less (fun j g => .inl (.inl g)), Kp.to (Kp.of B2.out) ((Kp.to HK6.out (Kp.of hk10)).less (fun j g => .inl (.inl g)))⟩
  · clear f1 f2 f3 f4 f5 f6 f8 f9 f10 f11 f12 f13 f14
    have hd2 : Below W2.heap.size W2 W2.drew := (Below.refl _ _).drew
    have CL := Lib.hid ((HI2.out.pg.hf.new hd2).wload (by have := HI2.out.cc; omega) h7)
    have ez : (V.f x7 == V.f x7) = true := by simp
    go_upto_region 11 with (fail)
    clear p0 p1 f0 f7
    go_wp2_with fail
    obtain ⟨p0, p1, f0, f1, f2, f3, f4, f5, f6, f7, f8, f9, f10, f11, f12, f13, f14⟩ := FX.out _ (Kp.of hd2)
    have a0 := (HI2.out.pg.hf.new hd2).box.c0
    clear f0 f1 f2 f3 f4 f5 f6 f8 f9 f10 f11 f12 f13 f14
    go_region_held3 (fun X => X.cell? ⟨F, 0, none⟩ = some (.pointer (some ⟨A.p, 0, none⟩)) ∧ X.cell? ⟨F, 1, none⟩ = some (.pointer (some ⟨R.p, 0, none⟩)) ∧ X.cell? ⟨F + 1, 7, none⟩ = some (.int .u64 x7) ∧ X.cell? ⟨A.p, 0, none⟩ = some (.pointer (some ⟨A.pc, 0, none⟩)))
      (first | exact ⟨by assumption, by assumption, by assumption, by assumption⟩)
      (first
        | (go_at_call 72; ((with_reducible refine CL.out.mono ?_); rintro e w5 ⟨rfl, h5, k5⟩; have H5 := Lib.hid h5; have K5 := Lib.hid (Kp.to (Kp.of hd2) k5); clear p0 p1 f7 a0; have a0 := h5.box.c0; obtain ⟨p0, p1, f0, f1, f2, f3, f4, f5, f6, f7, f8, f9, f10, f11, f12, f13, f14⟩ := FX.out _ (K5.out.less (fun j hj => by rcases hj with rfl | rfl <;> simp)); clear h5 k5 f0 f1 f2 f3 f4 f5 f6 f8 f9 f10 f11 f12 f13 f14))
        | (go_at_call 73; (refine (H5.out.rload (by have := HI2.out.cc; omega) h7).mono ?_); rintro e w6 ⟨rfl, h6, k6⟩; have K6 := Lib.hid (Kp.to K5.out k6); have HQ := Lib.hid (HI2.out.loaded h6 K6.out); clear p0 p1 f7 a0; have a0 := h6.box.c0; obtain ⟨p0, p1, f0, f1, f2, f3, f4, f5, f6, f7, f8, f9, f10, f11, f12, f13, f14⟩ := FX.out _ (K6.out.less (fun j hj => by rcases hj with rfl | rfl <;> simp)); clear h6 k6 f0 f1 f2 f3 f4 f5 f6 f8 f9 f10 f11 f12 f13 f14))
    clear p0 p1 f7 a0
    go_wp2_with fail
    go_ret
    obtain ⟨V', hI, hK⟩ := HQ.out
    exact ⟨rfl, V', hI.less (fun j g => .inl (.inl g)), Kp.to (Kp.of B2.out) (hK.less (fun j g => .inl (.inl g)))⟩
  · clear f1 f2 f3 f4 f5 f6 f7 f9 f10 f11 f12 f13 f14
    obtain ⟨N, hN⟩ : ∃ N, N = W2.heap.size := ⟨_, rfl⟩
    go_upto_region 14 with (fail)
    generalize hW3 : World.alloc W2 _ = W3
    rw [← hN]
    have b3 : Below W2.heap.size W2 W3 := by rw [← hW3]; exact bs_alloc (Below.refl _ _)
    have l0 : W3.cell? ⟨N, 0, none⟩ = some (.int .u64 6) := by rw [← hW3, hN]; exact new_at rfl rfl
    have l1 : W3.cell? ⟨N, 1, none⟩ = some (.int .u64 x8) := by rw [← hW3, hN]; exact new_at rfl rfl
    have HI3 := Lib.hid (HI2.out.new b3)
    have B3 := Lib.hid b3
    clear p0 p1 f0 f8
    obtain ⟨p0, p1, -⟩ := FX.out _ (Kp.of b3)
    clear hW3 hN b3
    go_upto_region 18 with (first
      | (go_at_call 21; (refine (HI3.out.store hk ⟨by decide, by decide⟩ h8).mono ?_); rintro e w6 ⟨rfl, hq⟩; have HQ := Lib.hid (WpP.after B3.out hq); clear hq p0 p1 l0 l1))
    obtain ⟨V', hI, hK⟩ := HQ.out
    have HK6 := Lib.hid hK
    have HI6 := Lib.hid hI
    obtain ⟨S, T, hp, -⟩ := hI.pg
    have KEEP6 : Hid (∀ X, Below w6.heap.size w6 X → X.cell? ⟨F, 0, none⟩ = some (.pointer (some ⟨A.p, 0, none⟩)) ∧ X.cell? ⟨F, 1, none⟩ = some (.pointer (some ⟨R.p, 0, none⟩))) := Lib.hid (fun X hb => by
      obtain ⟨a, b, -⟩ := FX.out X ((Kp.to hK (Kp.of hb)).less (fun j hj => by
        rcases hj with rfl | rfl
        · exact .inl (.inr rfl)
        · exact .inr rfl))
      exact ⟨a, b⟩)
    have C1 := Lib.hid (fun X (hb : Below w6.heap.size w6 X) => wgrows (hp.new hb).a)
    have C2 := Lib.hid (fun X (hb : Below w6.heap.size w6 X) => pw_rgrows (hp.new hb))
    have C3 := Lib.hid (fun X (hb : Below w6.heap.size w6 X) => wfull (hp.new hb).a hI.bu.1 (by have := hI.bu.2; omega))
    have C4 := Lib.hid (fun X (hb : Below w6.heap.size w6 X) => pw_rfull (hp.new hb) hI.bu.1 (by have := hI.bu.2; omega))
    generalize growsF V' = gr at C1 C2
    generalize decide (V'.c.budget ≤ V'.f 6) = fu at C3 C4
    have eg : (gr == gr) = true := by simp
    have ef : (fu == fu) = true := by simp
    have hd6 : Below w6.heap.size w6 w6.drew := (Below.refl _ _).drew
    obtain ⟨s0, s1⟩ := KEEP6.out _ hd6
    clear hI hK hp HQ
    go_wp2_with fail
    go_region_held3 (fun X => X.cell? ⟨F, 0, none⟩ = some (.pointer (some ⟨A.p, 0, none⟩)) ∧ X.cell? ⟨F, 1, none⟩ = some (.pointer (some ⟨R.p, 0, none⟩)))
      (first | exact ⟨by assumption, by assumption⟩)
      (first
        | (go_at_call 57; ((with_reducible refine (C1.out _ hd6).mono ?_); rintro e w7 ⟨rfl, hb7⟩; have hk7 := below_then hd6 hb7; clear s0 s1; obtain ⟨s0, s1⟩ := KEEP6.out _ hk7))
        | (go_at_call 74; ((with_reducible refine (C2.out _ hk7).mono ?_); rintro e w8 ⟨rfl, hb8⟩; have hk8 := below_then hk7 hb8; clear s0 s1; obtain ⟨s0, s1⟩ := KEEP6.out _ hk8))
        | (go_at_call 75; ((with_reducible refine (C3.out _ hk8).mono ?_); rintro e w9 ⟨rfl, hb9⟩; have hk9 := below_then hk8 hb9; clear s0 s1; obtain ⟨s0, s1⟩ := KEEP6.out _ hk9))
        | (go_at_call 76; ((with_reducible refine (C4.out _ hk9).mono ?_); rintro e w10 ⟨rfl, hb10⟩; have hk10 := below_then hk9 hb10; clear s0 s1; obtain ⟨s0, s1⟩ := KEEP6.out _ hk10)))
    clear s0 s1 eg ef
    go_wp2_with fail
    go_ret
    exact ⟨rfl, V', (HI6.out.new hk10).less (fun j g => .inl (.inl g)), Kp.to (Kp.of B2.out) ((Kp.to HK6.out (Kp.of hk10)).less (fun j g => .inl (.inl g)))⟩
  · clear f1 f2 f3 f4 f5 f6 f7 f9 f10 f11 f12 f13 f14
    obtain ⟨N, hN⟩ : ∃ N, N = W2.heap.size := ⟨_, rfl⟩
    go_upto_region 17 with (fail)
    generalize hW3 : World.alloc W2 _ = W3
    rw [← hN]
    have b3 : Below W2.heap.size W2 W3 := by rw [← hW3]; exact bs_alloc (Below.refl _ _)
    have l0 : W3.cell? ⟨N, 0, none⟩ = some (.int .u64 2) := by rw [← hW3, hN]; exact new_at rfl rfl
    have l1 : W3.cell? ⟨N, 1, none⟩ = some (.int .u64 x8) := by rw [← hW3, hN]; exact new_at rfl rfl
    have HI3 := Lib.hid (HI2.out.new b3)
    have B3 := Lib.hid b3
    clear p0 p1 f0 f8
    obtain ⟨p0, p1, -⟩ := FX.out _ (Kp.of b3)
    clear hW3 hN b3
    go_upto_region 18 with (first
      | (go_at_call 21; (refine (HI3.out.store hk ⟨by decide, by decide⟩ h8).mono ?_); rintro e w6 ⟨rfl, hq⟩; have HQ := Lib.hid (WpP.after B3.out hq); clear hq p0 p1 l0 l1))
    obtain ⟨V', hI, hK⟩ := HQ.out
    have HK6 := Lib.hid hK
    have HI6 := Lib.hid hI
    obtain ⟨S, T, hp, -⟩ := hI.pg
    have KEEP6 : Hid (∀ X, Below w6.heap.size w6 X → X.cell? ⟨F, 0, none⟩ = some (.pointer (some ⟨A.p, 0, none⟩)) ∧ X.cell? ⟨F, 1, none⟩ = some (.pointer (some ⟨R.p, 0, none⟩))) := Lib.hid (fun X hb => by
      obtain ⟨a, b, -⟩ := FX.out X ((Kp.to hK (Kp.of hb)).less (fun j hj => by
        rcases hj with rfl | rfl
        · exact .inl (.inr rfl)
        · exact .inr rfl))
      exact ⟨a, b⟩)
    have C1 := Lib.hid (fun X (hb : Below w6.heap.size w6 X) => wgrows (hp.new hb).a)
    have C2 := Lib.hid (fun X (hb : Below w6.heap.size w6 X) => pw_rgrows (hp.new hb))
    have C3 := Lib.hid (fun X (hb : Below w6.heap.size w6 X) => wfull (hp.new hb).a hI.bu.1 (by have := hI.bu.2; omega))
    have C4 := Lib.hid (fun X (hb : Below w6.heap.size w6 X) => pw_rfull (hp.new hb) hI.bu.1 (by have := hI.bu.2; omega))
    generalize growsF V' = gr at C1 C2
    generalize decide (V'.c.budget ≤ V'.f 6) = fu at C3 C4
    have eg : (gr == gr) = true := by simp
    have ef : (fu == fu) = true := by simp
    have hd6 : Below w6.heap.size w6 w6.drew := (Below.refl _ _).drew
    obtain ⟨s0, s1⟩ := KEEP6.out _ hd6
    clear hI hK hp HQ
    go_wp2_with fail
    go_region_held3 (fun X => X.cell? ⟨F, 0, none⟩ = some (.pointer (some ⟨A.p, 0, none⟩)) ∧ X.cell? ⟨F, 1, none⟩ = some (.pointer (some ⟨R.p, 0, none⟩)))
      (first | exact ⟨by assumption, by assumption⟩)
      (first
        | (go_at_call 57; ((with_reducible refine (C1.out _ hd6).mono ?_); rintro e w7 ⟨rfl, hb7⟩; have hk7 := below_then hd6 hb7; clear s0 s1; obtain ⟨s0, s1⟩ := KEEP6.out _ hk7))
        | (go_at_call 74; ((with_reducible refine (C2.out _ hk7).mono ?_); rintro e w8 ⟨rfl, hb8⟩; have hk8 := below_then hk7 hb8; clear s0 s1; obtain ⟨s0, s1⟩ := KEEP6.out _ hk8))
        | (go_at_call 75; ((with_reducible refine (C3.out _ hk8).mono ?_); rintro e w9 ⟨rfl, hb9⟩; have hk9 := below_then hk8 hb9; clear s0 s1; obtain ⟨s0, s1⟩ := KEEP6.out _ hk9))
        | (go_at_call 76; ((with_reducible refine (C4.out _ hk9).mono ?_); rintro e w10 ⟨rfl, hb10⟩; have hk10 := below_then hk9 hb10; clear s0 s1; obtain ⟨s0, s1⟩ := KEEP6.out _ hk10)))
    clear s0 s1 eg ef
    go_wp2_with fail
    go_ret
    exact ⟨rfl, V', (HI6.out.new hk10).less (fun j g => .inl (.inl g)), Kp.to (Kp.of B2.out) ((Kp.to HK6.out (Kp.of hk10)).less (fun j g => .inl (.inl g)))⟩
  · clear f1 f2 f3 f4 f5 f6 f7 f8 f9 f10 f11 f12 f13 f14
    go_upto_region 18 with (first
      | (go_at_call 64; (refine (HI2.out.tick hk).mono ?_); rintro e w6 ⟨rfl, hq⟩; have HQ := Lib.hid hq; clear hq p0 p1 f0))
    obtain ⟨V', hI, hK⟩ := HQ.out
    have HK6 := Lib.hid hK
    have HI6 := Lib.hid hI
    obtain ⟨S, T, hp, -⟩ := hI.pg
    have KEEP6 : Hid (∀ X, Below w6.heap.size w6 X → X.cell? ⟨F, 0, none⟩ = some (.pointer (some ⟨A.p, 0, none⟩)) ∧ X.cell? ⟨F, 1, none⟩ = some (.pointer (some ⟨R.p, 0, none⟩))) := Lib.hid (fun X hb => by
      obtain ⟨a, b, -⟩ := FX.out X ((Kp.to hK (Kp.of hb)).less (fun j hj => by
        rcases hj with rfl | rfl
        · exact .inl (.inr rfl)
        · exact .inr rfl))
      exact ⟨a, b⟩)
    have C1 := Lib.hid (fun X (hb : Below w6.heap.size w6 X) => wgrows (hp.new hb).a)
    have C2 := Lib.hid (fun X (hb : Below w6.heap.size w6 X) => pw_rgrows (hp.new hb))
    have C3 := Lib.hid (fun X (hb : Below w6.heap.size w6 X) => wfull (hp.new hb).a hI.bu.1 (by have := hI.bu.2; omega))
    have C4 := Lib.hid (fun X (hb : Below w6.heap.size w6 X) => pw_rfull (hp.new hb) hI.bu.1 (by have := hI.bu.2; omega))
    generalize growsF V' = gr at C1 C2
    generalize decide (V'.c.budget ≤ V'.f 6) = fu at C3 C4
    have eg : (gr == gr) = true := by simp
    have ef : (fu == fu) = true := by simp
    have hd6 : Below w6.heap.size w6 w6.drew := (Below.refl _ _).drew
    obtain ⟨s0, s1⟩ := KEEP6.out _ hd6
    clear hI hK hp HQ
    go_wp2_with fail
    go_region_held3 (fun X => X.cell? ⟨F, 0, none⟩ = some (.pointer (some ⟨A.p, 0, none⟩)) ∧ X.cell? ⟨F, 1, none⟩ = some (.pointer (some ⟨R.p, 0, none⟩)))
      (first | exact ⟨by assumption, by assumption⟩)
      (first
        | (go_at_call 57; ((with_reducible refine (C1.out _ hd6).mono ?_); rintro e w7 ⟨rfl, hb7⟩; have hk7 := below_then hd6 hb7; clear s0 s1; obtain ⟨s0, s1⟩ := KEEP6.out _ hk7))
        | (go_at_call 74; ((with_reducible refine (C2.out _ hk7).mono ?_); rintro e w8 ⟨rfl, hb8⟩; have hk8 := below_then hk7 hb8; clear s0 s1; obtain ⟨s0, s1⟩ := KEEP6.out _ hk8))
        | (go_at_call 75; ((with_reducible refine (C3.out _ hk8).mono ?_); rintro e w9 ⟨rfl, hb9⟩; have hk9 := below_then hk8 hb9; clear s0 s1; obtain ⟨s0, s1⟩ := KEEP6.out _ hk9))
        | (go_at_call 76; ((with_reducible refine (C4.out _ hk9).mono ?_); rintro e w10 ⟨rfl, hb10⟩; have hk10 := below_then hk9 hb10; clear s0 s1; obtain ⟨s0, s1⟩ := KEEP6.out _ hk10)))
    clear s0 s1 eg ef
    go_wp2_with fail
    go_ret
    exact ⟨rfl, V', (HI6.out.new hk10).less (fun j g => .inl (.inl g)), Kp.to (Kp.of B2.out) ((Kp.to HK6.out (Kp.of hk10)).less (fun j g => .inl (.inl g)))⟩
end
end Go.Proofs.YthlebfiedejhhaaGreat
