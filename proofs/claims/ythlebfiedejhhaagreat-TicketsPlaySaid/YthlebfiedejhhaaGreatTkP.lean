/- A Take or a Give beside the chapter's, in a pair of worlds: what they tell; steps; who waits. -/
import Derived.Test.YthlebfiedejhhaaGreatTiR
import Derived.Test.YthlebfiedejhhaaGreatGPo
import Derived.Deep.Cut
import Derived.Deep.RegionHeld3
namespace Go.Proofs.YthlebfiedejhhaaGreat
open Go.RowKit Go.Maps
set_option linter.unusedVariables false
def TkT (w : World) (x : Ox) : Prop := ∃ (p r t : Nat) (tick : Int), x.vals = [.pointer (some ⟨p, 0, none⟩), .pointer none, .pointer (some ⟨r, 0, none⟩), .pointer none] ∧ x.own = (fun j => j = p ∨ j = r) ∧ p ≠ r ∧ t < 64 ∧ ((Ob w p (tkC t 0 false (mV 85 p)) ∧ Ob w r (rtC 1 0 false t)) ∨ (Ob w p (tkC t tick true (mV 148 p)) ∧ Ob w r (rtC 2 tick true t)) ∨ (Ob w p (tkC t tick true .nilFunc) ∧ Ob w r (rtC 0 tick true t)))
def TkG (w : World) (x : Ox) : Prop := ∃ (p r : Nat), x.vals = [.pointer none, .pointer (some ⟨p, 0, none⟩), .pointer none, .pointer (some ⟨r, 0, none⟩)] ∧ x.own = (fun j => j = p ∨ j = r) ∧ p ≠ r ∧ ((Ob w p [mV 86 p] ∧ Ob w r [.int .i64 1]) ∨ (Ob w p [.nilFunc] ∧ Ob w r [.int .i64 0]))
def TkN (x : Ox) : Prop := x.vals = [.pointer none, .pointer none, .pointer none, .pointer none] ∧ x.own = fun _ => False
def TkS (w : World) (x : Ox) : Prop := TkN x ∨ TkT w x ∨ TkG w x
theorem stabTk : Stab TkS := by
  intro w W x U h hk hU
  rcases h with h | ⟨p, r, t, tick, hv, ho, hpr, ht, h⟩ | ⟨p, r, hv, ho, hpr, h⟩
  · exact .inl h
  · have up := hU p (by rw [ho]; exact .inl rfl)
    have ur := hU r (by rw [ho]; exact .inr rfl)
    refine .inr (.inl ⟨p, r, t, tick, hv, ho, hpr, ht, ?_⟩)
    rcases h with ⟨a, b⟩ | ⟨a, b⟩ | ⟨a, b⟩
    · exact .inl ⟨a.keep hk up, b.keep hk ur⟩
    · exact .inr (.inl ⟨a.keep hk up, b.keep hk ur⟩)
    · exact .inr (.inr ⟨a.keep hk up, b.keep hk ur⟩)
  · have up := hU p (by rw [ho]; exact .inl rfl)
    have ur := hU r (by rw [ho]; exact .inr rfl)
    refine .inr (.inr ⟨p, r, hv, ho, hpr, ?_⟩)
    rcases h with ⟨a, b⟩ | ⟨a, b⟩
    · exact .inl ⟨a.keep hk up, b.keep hk ur⟩
    · exact .inr ⟨a.keep hk up, b.keep hk ur⟩
section
variable {G : Nat → Prop} {w : World} {A R : Ad} {V V' V2 : Wv} {p r : Nat} {t tick ln : Int} {is ov : Bool}
set_option maxHeartbeats 1000000 in
set_option maxRecDepth 100000 in
theorem tk_sameT (h2 : Ob w r (rtC ln tick is t)) (CG : ∀ X, Below w.heap.size w X → Calls Tryz.prog 92 #[.pointer (some ⟨p, 0, none⟩)] X fun e w' => e = .returned (.tuple #[.int .u64 tick, .bool is]) ∧ X = w') (CO : ∀ X, Below w.heap.size w X → Calls Tryz.prog 93 #[.pointer (some ⟨p, 0, none⟩)] X fun e w' => e = .returned (.bool ov) ∧ X = w') (e2 : (ln == 0) = ov) :
    Calls Tryz.prog 23 #[.agg #[.pointer (some ⟨p, 0, none⟩), .pointer none, .pointer (some ⟨r, 0, none⟩), .pointer none]] w fun e w' => e = .returned (.bool true) ∧ Below w.heap.size w w' := by
  have CG := Lib.hid CG
  have CO := Lib.hid CO
  have H2 := Lib.hid h2
  have E2 := Lib.hid e2
  clear h2 e2
  obtain ⟨F, hF⟩ : ∃ F, F = w.heap.size := ⟨_, rfl⟩
  go_enter Tryz.func23, Tryz.ntmps23
  go_upto_region 1 with (fail)
  generalize hW : World.alloc w _ = W
  have bW : Below w.heap.size w W := by rw [← hW]; exact bs_alloc (Below.refl _ _)
  have f0 : W.cell? ⟨F, 0, none⟩ = some (.pointer (some ⟨p, 0, none⟩)) := by rw [← hW, hF]; exact new_at rfl rfl
  have f1 : W.cell? ⟨F, 1, none⟩ = some (.pointer none) := by rw [← hW, hF]; exact new_at rfl rfl
  have f2 : W.cell? ⟨F, 2, none⟩ = some (.pointer (some ⟨r, 0, none⟩)) := by rw [← hW, hF]; exact new_at rfl rfl
  have f3 : W.cell? ⟨F, 3, none⟩ = some (.pointer none) := by rw [← hW, hF]; exact new_at rfl rfl
  rw [← hF]
  clear hW hF
  go_upto_region 6 with (go_at_call 92; ((with_reducible refine (CG.out _ bW).mono ?_); rintro e w2 ⟨rfl, rfl⟩))
  have bd : Below w.heap.size w W.drew := bW.drew
  have s0 : W.drew.cell? ⟨F, 0, none⟩ = some (.pointer (some ⟨p, 0, none⟩)) := f0
  have s2 : W.drew.cell? ⟨F, 2, none⟩ = some (.pointer (some ⟨r, 0, none⟩)) := f2
  have d0 : W.drew.cell? ⟨r, 0, none⟩ = some (.int .i64 ln) := (H2.out.new bd).at_ 0 _ rfl
  have d1 : W.drew.cell? ⟨r, 1, none⟩ = some (.int .u64 tick) := (H2.out.new bd).at_ 1 _ rfl
  have d2 : W.drew.cell? ⟨r, 2, none⟩ = some (.bool is) := (H2.out.new bd).at_ 2 _ rfl
  have e2 := E2.out
  have e3 : (ov == ov) = true := by simp
  have e4 : (tick == tick) = true := by simp
  have e5 : (is == is) = true := by simp
  clear f0 f1 f2 f3
  go_wp2_with fail
  go_region_held3 (fun X => X.cell? ⟨F, 0, none⟩ = some (.pointer (some ⟨p, 0, none⟩)) ∧ X.cell? ⟨F, 2, none⟩ = some (.pointer (some ⟨r, 0, none⟩)) ∧ X.cell? ⟨r, 0, none⟩ = some (.int .i64 ln) ∧ X.cell? ⟨r, 1, none⟩ = some (.int .u64 tick) ∧ X.cell? ⟨r, 2, none⟩ = some (.bool is))
    (first | exact ⟨by assumption, by assumption, by assumption, by assumption, by assumption⟩)
    (first
      | (go_at_call 93; ((with_reducible refine (CO.out _ bd).mono ?_); rintro e w2 ⟨rfl, rfl⟩)))
  all_goals
    go_wp2_with fail
    go_ret
    exact ⟨rfl, bd⟩
set_option maxHeartbeats 1000000 in
set_option maxRecDepth 100000 in
theorem tk_sameG (h2 : Ob w r [.int .i64 ln]) (CO : ∀ X, Below w.heap.size w X → Calls Tryz.prog 91 #[.pointer (some ⟨p, 0, none⟩)] X fun e w' => e = .returned (.bool ov) ∧ X = w') (e2 : (ln == 0) = ov) :
    Calls Tryz.prog 23 #[.agg #[.pointer none, .pointer (some ⟨p, 0, none⟩), .pointer none, .pointer (some ⟨r, 0, none⟩)]] w fun e w' => e = .returned (.bool true) ∧ Below w.heap.size w w' := by
  have CO := Lib.hid CO
  have H2 := Lib.hid h2
  have E2 := Lib.hid e2
  clear h2 e2
  obtain ⟨F, hF⟩ : ∃ F, F = w.heap.size := ⟨_, rfl⟩
  go_enter Tryz.func23, Tryz.ntmps23
  go_upto_region 1 with (fail)
  generalize hW : World.alloc w _ = W
  have bW : Below w.heap.size w W := by rw [← hW]; exact bs_alloc (Below.refl _ _)
  have f0 : W.cell? ⟨F, 0, none⟩ = some (.pointer none) := by rw [← hW, hF]; exact new_at rfl rfl
  have f1 : W.cell? ⟨F, 1, none⟩ = some (.pointer (some ⟨p, 0, none⟩)) := by rw [← hW, hF]; exact new_at rfl rfl
  have f2 : W.cell? ⟨F, 2, none⟩ = some (.pointer none) := by rw [← hW, hF]; exact new_at rfl rfl
  have f3 : W.cell? ⟨F, 3, none⟩ = some (.pointer (some ⟨r, 0, none⟩)) := by rw [← hW, hF]; exact new_at rfl rfl
  rw [← hF]
  clear hW hF
  go_upto_region 2 with (fail)
  have bd : Below w.heap.size w W.drew := bW.drew
  have s1 : W.drew.cell? ⟨F, 1, none⟩ = some (.pointer (some ⟨p, 0, none⟩)) := f1
  have s3 : W.drew.cell? ⟨F, 3, none⟩ = some (.pointer (some ⟨r, 0, none⟩)) := f3
  have d0 : W.drew.cell? ⟨r, 0, none⟩ = some (.int .i64 ln) := (H2.out.new bd).at_ 0 _ rfl
  have e2 := E2.out
  have e3 : (ov == ov) = true := by simp
  clear f0 f1 f2 f3
  go_wp2_with fail
  go_region_held3 (fun X => X.cell? ⟨F, 1, none⟩ = some (.pointer (some ⟨p, 0, none⟩)) ∧ X.cell? ⟨F, 3, none⟩ = some (.pointer (some ⟨r, 0, none⟩)) ∧ X.cell? ⟨r, 0, none⟩ = some (.int .i64 ln))
    (first | exact ⟨by assumption, by assumption, by assumption⟩)
    (first
      | (go_at_call 91; ((with_reducible refine (CO.out _ bd).mono ?_); rintro e w2 ⟨rfl, rfl⟩)))
  all_goals
    go_wp2_with fail
    go_ret
    exact ⟨rfl, bd⟩
set_option maxHeartbeats 1000000 in
set_option maxRecDepth 100000 in
theorem tk_stepT {C C' D D' : List Value} (h : Hf G w A R V V) (hp : G p) (hr : G r) (hpr : p ≠ r) (h1 : Ob w p C) (h2 : Ob w r D) (hD : D'[0]? = some (.int .i64 ln)) (e2 : (ln == 0) = ov)
    (HR : ∀ G X, Hf G X A R V V → G r → Ob X r D → Calls Tryz.prog 90 #[.pointer (some ⟨r, 0, none⟩), .pointer (some ⟨R.p, 0, none⟩)] X (RoP G A R V V' r D' X))
    (HP : ∀ G X, Hf G X A R V V' → G p → Ob X p C → Calls Tryz.prog 82 #[.pointer (some ⟨p, 0, none⟩), .pointer (some ⟨A.p, 0, none⟩)] X fun e w' => e = .returned (.bool ov) ∧ Hf G w' A R V' V' ∧ Ob w' p C' ∧ Kp (fun j => G j ∧ j ≠ p) X w')
    (HS : ∀ X, Ob X p C' → Ob X r D' → Calls Tryz.prog 23 #[.agg #[.pointer (some ⟨p, 0, none⟩), .pointer none, .pointer (some ⟨r, 0, none⟩), .pointer none]] X fun e w' => e = .returned (.bool true) ∧ Below X.heap.size X w') :
    Calls Tryz.prog 22 #[.agg #[.pointer (some ⟨p, 0, none⟩), .pointer none, .pointer (some ⟨r, 0, none⟩), .pointer none], .agg #[.pointer (some ⟨A.p, 0, none⟩), .pointer (some ⟨R.p, 0, none⟩)]] w fun e w' => e = .returned (.bool true) ∧ Hf G w' A R V' V' ∧ Ob w' p C' ∧ Ob w' r D' ∧ Kp (fun j => G j ∧ ¬ (j = p ∨ j = r)) w w' := by
  obtain ⟨F, hF⟩ : ∃ F, F = w.heap.size := ⟨_, rfl⟩
  have hlp := h.lts p hp
  have hlr := h.lts r hr
  have HR := Lib.hid HR
  have HP := Lib.hid HP
  have HS := Lib.hid HS
  have HH := Lib.hid h
  have HO := Lib.hid (And.intro h1 h2)
  have HG := Lib.hid (And.intro hp hr)
  have HD := Lib.hid hD
  have E2 := Lib.hid e2
  clear h h1 h2 hp hr hD e2
  go_enter Tryz.func22, Tryz.ntmps22
  go_upto_region 1 with fail
  generalize hW1 : World.alloc w _ = W1
  generalize hW2 : World.alloc W1 _ = W2
  have b1 : Below w.heap.size w W1 := by rw [← hW1]; exact bs_alloc (Below.refl _ _)
  have b2 : Below W1.heap.size W1 W2 := by rw [← hW2]; exact bs_alloc (Below.refl _ _)
  have z1 : W1.heap.size = F + 1 := by rw [← hW1, hF]; simp
  have z2 : W2.heap.size = F + 2 := by rw [← hW2]; simp [z1]
  have HH1 := HH.out.add (q := F) b1 (by omega) (by omega)
  have HH2 := Lib.hid (HH1.add (q := F + 1) b2 (by omega) (by omega))
  have B2 := Lib.hid (below_then b1 b2)
  have q0 : W1.cell? ⟨F, 0, none⟩ = some (.pointer (some ⟨p, 0, none⟩)) := by rw [← hW1, hF]; exact new_at rfl rfl
  have q1 : W1.cell? ⟨F, 1, none⟩ = some (.pointer none) := by rw [← hW1, hF]; exact new_at rfl rfl
  have q2 : W1.cell? ⟨F, 2, none⟩ = some (.pointer (some ⟨r, 0, none⟩)) := by rw [← hW1, hF]; exact new_at rfl rfl
  have q3 : W1.cell? ⟨F, 3, none⟩ = some (.pointer none) := by rw [← hW1, hF]; exact new_at rfl rfl
  have t0 : W2.cell? ⟨F + 1, 0, none⟩ = some (.pointer (some ⟨A.p, 0, none⟩)) := by rw [← hW2]; exact new_at z1.symm rfl
  have t1 : W2.cell? ⟨F + 1, 1, none⟩ = some (.pointer (some ⟨R.p, 0, none⟩)) := by rw [← hW2]; exact new_at z1.symm rfl
  have u0 := (b2.cell (p := ⟨F, 0, none⟩) (World.block_lt_of_cell? _ _ q0)).trans q0
  have u1 := (b2.cell (p := ⟨F, 1, none⟩) (World.block_lt_of_cell? _ _ q1)).trans q1
  have u2 := (b2.cell (p := ⟨F, 2, none⟩) (World.block_lt_of_cell? _ _ q2)).trans q2
  have u3 := (b2.cell (p := ⟨F, 3, none⟩) (World.block_lt_of_cell? _ _ q3)).trans q3
  have FK := Lib.hid (show ∀ X, Keeps (fun j => j = p ∨ j = r ∨ ¬ ((G j ∨ j = F) ∨ j = F + 1)) W2 X → X.cell? ⟨F, 0, none⟩ = some (.pointer (some ⟨p, 0, none⟩)) ∧ X.cell? ⟨F, 1, none⟩ = some (.pointer none) ∧ X.cell? ⟨F, 2, none⟩ = some (.pointer (some ⟨r, 0, none⟩)) ∧ X.cell? ⟨F, 3, none⟩ = some (.pointer none) ∧ X.cell? ⟨F + 1, 0, none⟩ = some (.pointer (some ⟨A.p, 0, none⟩)) ∧ X.cell? ⟨F + 1, 1, none⟩ = some (.pointer (some ⟨R.p, 0, none⟩)) from fun X hk => by
    have nF : ¬ (F = p ∨ F = r ∨ ¬ ((G F ∨ F = F) ∨ F = F + 1)) := by
      rintro (e | e | e)
      · omega
      · omega
      · exact e (.inl (.inr rfl))
    have nF1 : ¬ (F + 1 = p ∨ F + 1 = r ∨ ¬ ((G (F + 1) ∨ F + 1 = F) ∨ F + 1 = F + 1)) := by
      rintro (e | e | e)
      · omega
      · omega
      · exact e (.inr rfl)
    exact ⟨hk.cell (p := ⟨F, 0, none⟩) nF u0, hk.cell (p := ⟨F, 1, none⟩) nF u1, hk.cell (p := ⟨F, 2, none⟩) nF u2, hk.cell (p := ⟨F, 3, none⟩) nF u3, hk.cell (p := ⟨F + 1, 0, none⟩) nF1 t0, hk.cell (p := ⟨F + 1, 1, none⟩) nF1 t1⟩)
  have HO2 := Lib.hid (And.intro (HO.out.1.new B2.out) (HO.out.2.new B2.out))
  rw [← hF]
  clear hW1 hW2 b1 b2 z1 z2 HH1 q0 q1 q2 q3 hF
  go_wp2_with fail
  refine (HR.out _ _ HH2.out (.inl (.inl HG.out.2)) HO2.out.2).mono ?_
  rintro e w3 ⟨rfl, h3, o3, k3⟩
  have K3 := Lib.hid (show Keeps (fun j => j = p ∨ j = r ∨ ¬ ((G j ∨ j = F) ∨ j = F + 1)) W2 w3 from k3.mono (fun j _ n => by
    by_cases e : j = r
    · exact .inr (.inl e)
    · exact .inr (.inr (fun g => n ⟨g, e⟩))))
  have O3 := Lib.hid o3
  have P3 := Lib.hid (HO2.out.1.keep k3 (fun n => n ⟨.inl (.inl HG.out.1), hpr⟩))
  have hd3 : Below w3.heap.size w3 w3.drew := (Below.refl _ _).drew
  have K3d := Lib.hid (K3.out.new hd3)
  have CP := Lib.hid (HP.out _ _ (h3.new hd3) (.inl (.inl HG.out.1)) (P3.out.new hd3))
  have l3 : w3.drew.cell? ⟨r, 0, none⟩ = some (.int .i64 ln) := (O3.out.new hd3).at_ 0 _ HD.out
  clear u0 u1 u2 u3 t0 t1 h3 o3 k3
  obtain ⟨u0, u1, u2, u3, t0, t1⟩ := FK.out _ K3.out
  go_upto_region 7 with (fail)
  clear u0 u1 u2 u3 t0 t1
  obtain ⟨u0, u1, u2, u3, t0, t1⟩ := FK.out _ K3d.out
  have e2 := E2.out
  have e3 : (ov == ov) = true := by simp
  go_wp2_with fail
  go_region_held3 (fun X => X.cell? ⟨F, 0, none⟩ = some (.pointer (some ⟨p, 0, none⟩)) ∧ X.cell? ⟨F, 1, none⟩ = some (.pointer none) ∧ X.cell? ⟨F, 2, none⟩ = some (.pointer (some ⟨r, 0, none⟩)) ∧ X.cell? ⟨F, 3, none⟩ = some (.pointer none) ∧ X.cell? ⟨F + 1, 0, none⟩ = some (.pointer (some ⟨A.p, 0, none⟩)) ∧ X.cell? ⟨F + 1, 1, none⟩ = some (.pointer (some ⟨R.p, 0, none⟩)) ∧ X.cell? ⟨r, 0, none⟩ = some (.int .i64 ln))
    (first | exact ⟨by assumption, by assumption, by assumption, by assumption, by assumption, by assumption, by assumption⟩)
    (first
      | (go_at_call 82; ((with_reducible refine CP.out.mono ?_); rintro e w4 ⟨rfl, h4, o4, k4⟩; have K4 := Lib.hid (K3d.out.trans (T := fun j => j = p ∨ j = r ∨ ¬ ((G j ∨ j = F) ∨ j = F + 1)) (k4.mono (fun j _ n => by
          by_cases e : j = p
          · exact .inl e
          · exact .inr (.inr (fun g => n ⟨g, e⟩)))) (fun _ _ s => s)); have H4 := Lib.hid h4; have P4 := Lib.hid o4; have O4 := Lib.hid ((O3.out.new hd3).keep k4 (fun n => n ⟨.inl (.inl HG.out.2), fun e => hpr e.symm⟩)); clear u0 u1 u2 u3 t0 t1 h4 o4 k4 l3; obtain ⟨u0, u1, u2, u3, t0, t1⟩ := FK.out _ K4.out; have l3 : w4.cell? ⟨r, 0, none⟩ = some (.int .i64 ln) := O4.out.at_ 0 _ HD.out; have CS := Lib.hid (HS.out _ P4.out O4.out)))
      | (go_at_call 23; ((with_reducible refine CS.out.mono ?_); rintro e w5 ⟨rfl, k5⟩; have K5 := Lib.hid (show Kp (fun j => G j ∧ ¬ (j = p ∨ j = r)) w w5 from Kp.to (Kp.to (Kp.of B2.out) (K4.out.mono (fun j _ n g => by
          rcases n with n | n | n
          · exact g.2 (.inl n)
          · exact g.2 (.inr n)
          · exact n (.inl (.inl g.1))))) (Kp.of k5)); have H5 := Lib.hid ((H4.out.new k5).less (G' := G) (fun j g => .inl (.inl g))); have P5 := Lib.hid (P4.out.new k5); have O5 := Lib.hid (O4.out.new k5); have K4b := Lib.hid (K4.out.new k5); clear u0 u1 u2 u3 t0 t1 k5 l3; obtain ⟨u0, u1, u2, u3, t0, t1⟩ := FK.out _ K4b.out; have l3 : w5.cell? ⟨r, 0, none⟩ = some (.int .i64 ln) := O5.out.at_ 0 _ HD.out)))
  all_goals
    clear u0 u1 u2 u3 t0 t1 l3
    go_wp2_with fail
    go_ret
    exact ⟨rfl, H5.out, P5.out, O5.out, K5.out⟩
set_option maxHeartbeats 1000000 in
set_option maxRecDepth 100000 in
theorem tk_stepG {C C' D D' : List Value} (h : Hf G w A R V V) (hp : G p) (hr : G r) (hpr : p ≠ r) (h1 : Ob w p C) (h2 : Ob w r D) (hD : D'[0]? = some (.int .i64 ln)) (e2 : (ln == 0) = ov)
    (HR : ∀ G X, Hf G X A R V V → G r → Ob X r D → Calls Tryz.prog 89 #[.pointer (some ⟨r, 0, none⟩), .pointer (some ⟨R.p, 0, none⟩)] X (RoP G A R V V' r D' X))
    (HP : ∀ G X, Hf G X A R V V' → G p → Ob X p C → Calls Tryz.prog 83 #[.pointer (some ⟨p, 0, none⟩), .pointer (some ⟨A.p, 0, none⟩)] X fun e w' => e = .returned (.bool ov) ∧ Hf G w' A R V' V' ∧ Ob w' p C' ∧ Kp (fun j => G j ∧ j ≠ p) X w')
    (HS : ∀ X, Ob X p C' → Ob X r D' → Calls Tryz.prog 23 #[.agg #[.pointer none, .pointer (some ⟨p, 0, none⟩), .pointer none, .pointer (some ⟨r, 0, none⟩)]] X fun e w' => e = .returned (.bool true) ∧ Below X.heap.size X w') :
    Calls Tryz.prog 22 #[.agg #[.pointer none, .pointer (some ⟨p, 0, none⟩), .pointer none, .pointer (some ⟨r, 0, none⟩)], .agg #[.pointer (some ⟨A.p, 0, none⟩), .pointer (some ⟨R.p, 0, none⟩)]] w fun e w' => e = .returned (.bool true) ∧ Hf G w' A R V' V' ∧ Ob w' p C' ∧ Ob w' r D' ∧ Kp (fun j => G j ∧ ¬ (j = p ∨ j = r)) w w' := by
  obtain ⟨F, hF⟩ : ∃ F, F = w.heap.size := ⟨_, rfl⟩
  have hlp := h.lts p hp
  have hlr := h.lts r hr
  have HR := Lib.hid HR
  have HP := Lib.hid HP
  have HS := Lib.hid HS
  have HH := Lib.hid h
  have HO := Lib.hid (And.intro h1 h2)
  have HG := Lib.hid (And.intro hp hr)
  have HD := Lib.hid hD
  have E2 := Lib.hid e2
  clear h h1 h2 hp hr hD e2
  go_enter Tryz.func22, Tryz.ntmps22
  go_upto_region 1 with fail
  generalize hW1 : World.alloc w _ = W1
  generalize hW2 : World.alloc W1 _ = W2
  have b1 : Below w.heap.size w W1 := by rw [← hW1]; exact bs_alloc (Below.refl _ _)
  have b2 : Below W1.heap.size W1 W2 := by rw [← hW2]; exact bs_alloc (Below.refl _ _)
  have z1 : W1.heap.size = F + 1 := by rw [← hW1, hF]; simp
  have z2 : W2.heap.size = F + 2 := by rw [← hW2]; simp [z1]
  have HH1 := HH.out.add (q := F) b1 (by omega) (by omega)
  have HH2 := Lib.hid (HH1.add (q := F + 1) b2 (by omega) (by omega))
  have B2 := Lib.hid (below_then b1 b2)
  have q0 : W1.cell? ⟨F, 0, none⟩ = some (.pointer none) := by rw [← hW1, hF]; exact new_at rfl rfl
  have q1 : W1.cell? ⟨F, 1, none⟩ = some (.pointer (some ⟨p, 0, none⟩)) := by rw [← hW1, hF]; exact new_at rfl rfl
  have q2 : W1.cell? ⟨F, 2, none⟩ = some (.pointer none) := by rw [← hW1, hF]; exact new_at rfl rfl
  have q3 : W1.cell? ⟨F, 3, none⟩ = some (.pointer (some ⟨r, 0, none⟩)) := by rw [← hW1, hF]; exact new_at rfl rfl
  have t0 : W2.cell? ⟨F + 1, 0, none⟩ = some (.pointer (some ⟨A.p, 0, none⟩)) := by rw [← hW2]; exact new_at z1.symm rfl
  have t1 : W2.cell? ⟨F + 1, 1, none⟩ = some (.pointer (some ⟨R.p, 0, none⟩)) := by rw [← hW2]; exact new_at z1.symm rfl
  have u0 := (b2.cell (p := ⟨F, 0, none⟩) (World.block_lt_of_cell? _ _ q0)).trans q0
  have u1 := (b2.cell (p := ⟨F, 1, none⟩) (World.block_lt_of_cell? _ _ q1)).trans q1
  have u2 := (b2.cell (p := ⟨F, 2, none⟩) (World.block_lt_of_cell? _ _ q2)).trans q2
  have u3 := (b2.cell (p := ⟨F, 3, none⟩) (World.block_lt_of_cell? _ _ q3)).trans q3
  have FK := Lib.hid (show ∀ X, Keeps (fun j => j = p ∨ j = r ∨ ¬ ((G j ∨ j = F) ∨ j = F + 1)) W2 X → X.cell? ⟨F, 0, none⟩ = some (.pointer none) ∧ X.cell? ⟨F, 1, none⟩ = some (.pointer (some ⟨p, 0, none⟩)) ∧ X.cell? ⟨F, 2, none⟩ = some (.pointer none) ∧ X.cell? ⟨F, 3, none⟩ = some (.pointer (some ⟨r, 0, none⟩)) ∧ X.cell? ⟨F + 1, 0, none⟩ = some (.pointer (some ⟨A.p, 0, none⟩)) ∧ X.cell? ⟨F + 1, 1, none⟩ = some (.pointer (some ⟨R.p, 0, none⟩)) from fun X hk => by
    have nF : ¬ (F = p ∨ F = r ∨ ¬ ((G F ∨ F = F) ∨ F = F + 1)) := by
      rintro (e | e | e)
      · omega
      · omega
      · exact e (.inl (.inr rfl))
    have nF1 : ¬ (F + 1 = p ∨ F + 1 = r ∨ ¬ ((G (F + 1) ∨ F + 1 = F) ∨ F + 1 = F + 1)) := by
      rintro (e | e | e)
      · omega
      · omega
      · exact e (.inr rfl)
    exact ⟨hk.cell (p := ⟨F, 0, none⟩) nF u0, hk.cell (p := ⟨F, 1, none⟩) nF u1, hk.cell (p := ⟨F, 2, none⟩) nF u2, hk.cell (p := ⟨F, 3, none⟩) nF u3, hk.cell (p := ⟨F + 1, 0, none⟩) nF1 t0, hk.cell (p := ⟨F + 1, 1, none⟩) nF1 t1⟩)
  have HO2 := Lib.hid (And.intro (HO.out.1.new B2.out) (HO.out.2.new B2.out))
  rw [← hF]
  clear hW1 hW2 b1 b2 z1 z2 HH1 q0 q1 q2 q3 hF
  go_wp2_with fail
  refine (HR.out _ _ HH2.out (.inl (.inl HG.out.2)) HO2.out.2).mono ?_
  rintro e w3 ⟨rfl, h3, o3, k3⟩
  have K3 := Lib.hid (show Keeps (fun j => j = p ∨ j = r ∨ ¬ ((G j ∨ j = F) ∨ j = F + 1)) W2 w3 from k3.mono (fun j _ n => by
    by_cases e : j = r
    · exact .inr (.inl e)
    · exact .inr (.inr (fun g => n ⟨g, e⟩))))
  have O3 := Lib.hid o3
  have P3 := Lib.hid (HO2.out.1.keep k3 (fun n => n ⟨.inl (.inl HG.out.1), hpr⟩))
  have hd3 : Below w3.heap.size w3 w3.drew := (Below.refl _ _).drew
  have K3d := Lib.hid (K3.out.new hd3)
  have CP := Lib.hid (HP.out _ _ (h3.new hd3) (.inl (.inl HG.out.1)) (P3.out.new hd3))
  have l3 : w3.drew.cell? ⟨r, 0, none⟩ = some (.int .i64 ln) := (O3.out.new hd3).at_ 0 _ HD.out
  clear u0 u1 u2 u3 t0 t1 h3 o3 k3
  obtain ⟨u0, u1, u2, u3, t0, t1⟩ := FK.out _ K3.out
  go_upto_region 3 with (fail)
  clear u0 u1 u2 u3 t0 t1
  obtain ⟨u0, u1, u2, u3, t0, t1⟩ := FK.out _ K3d.out
  have e2 := E2.out
  have e3 : (ov == ov) = true := by simp
  go_wp2_with fail
  go_region_held3 (fun X => X.cell? ⟨F, 0, none⟩ = some (.pointer none) ∧ X.cell? ⟨F, 1, none⟩ = some (.pointer (some ⟨p, 0, none⟩)) ∧ X.cell? ⟨F, 2, none⟩ = some (.pointer none) ∧ X.cell? ⟨F, 3, none⟩ = some (.pointer (some ⟨r, 0, none⟩)) ∧ X.cell? ⟨F + 1, 0, none⟩ = some (.pointer (some ⟨A.p, 0, none⟩)) ∧ X.cell? ⟨F + 1, 1, none⟩ = some (.pointer (some ⟨R.p, 0, none⟩)) ∧ X.cell? ⟨r, 0, none⟩ = some (.int .i64 ln))
    (first | exact ⟨by assumption, by assumption, by assumption, by assumption, by assumption, by assumption, by assumption⟩)
    (first
      | (go_at_call 83; ((with_reducible refine CP.out.mono ?_); rintro e w4 ⟨rfl, h4, o4, k4⟩; have K4 := Lib.hid (K3d.out.trans (T := fun j => j = p ∨ j = r ∨ ¬ ((G j ∨ j = F) ∨ j = F + 1)) (k4.mono (fun j _ n => by
          by_cases e : j = p
          · exact .inl e
          · exact .inr (.inr (fun g => n ⟨g, e⟩)))) (fun _ _ s => s)); have H4 := Lib.hid h4; have P4 := Lib.hid o4; have O4 := Lib.hid ((O3.out.new hd3).keep k4 (fun n => n ⟨.inl (.inl HG.out.2), fun e => hpr e.symm⟩)); clear u0 u1 u2 u3 t0 t1 h4 o4 k4 l3; obtain ⟨u0, u1, u2, u3, t0, t1⟩ := FK.out _ K4.out; have l3 : w4.cell? ⟨r, 0, none⟩ = some (.int .i64 ln) := O4.out.at_ 0 _ HD.out; have CS := Lib.hid (HS.out _ P4.out O4.out)))
      | (go_at_call 23; ((with_reducible refine CS.out.mono ?_); rintro e w5 ⟨rfl, k5⟩; have K5 := Lib.hid (show Kp (fun j => G j ∧ ¬ (j = p ∨ j = r)) w w5 from Kp.to (Kp.to (Kp.of B2.out) (K4.out.mono (fun j _ n g => by
          rcases n with n | n | n
          · exact g.2 (.inl n)
          · exact g.2 (.inr n)
          · exact n (.inl (.inl g.1))))) (Kp.of k5)); have H5 := Lib.hid ((H4.out.new k5).less (G' := G) (fun j g => .inl (.inl g))); have P5 := Lib.hid (P4.out.new k5); have O5 := Lib.hid (O4.out.new k5); have K4b := Lib.hid (K4.out.new k5); clear u0 u1 u2 u3 t0 t1 k5 l3; obtain ⟨u0, u1, u2, u3, t0, t1⟩ := FK.out _ K4b.out; have l3 : w5.cell? ⟨r, 0, none⟩ = some (.int .i64 ln) := O5.out.at_ 0 _ HD.out)))
  all_goals
    clear u0 u1 u2 u3 t0 t1 l3
    go_wp2_with fail
    go_ret
    exact ⟨rfl, H5.out, P5.out, O5.out, K5.out⟩
/-- Who waits, by the chapter. -/
def waitF (v s : Int) : Bool := if v = 0 then false else (IntKind.u64.wrap (v - 1) != s)
theorem wait_eq {v s : Int} (hv : isU v) (hs : isU s) (h0 : v ≠ 0) : (IntKind.u64.wrap (s + 1) != v) = (IntKind.u64.wrap (v - 1) != s) := by
  rw [IntKind.wrap_u64, IntKind.wrap_u64]
  unfold isU at *
  by_cases h : v - 1 = s
  · have e1 : (v - 1) % 18446744073709551616 = s := by omega
    have e2 : (s + 1) % 18446744073709551616 = v := by omega
    rw [e1, e2]
    simp
  · have e1 : (v - 1) % 18446744073709551616 ≠ s := by omega
    have e2 : (s + 1) % 18446744073709551616 ≠ v := by omega
    rw [bne_iff_ne.mpr e1, bne_iff_ne.mpr e2]
set_option maxHeartbeats 1000000 in
set_option maxRecDepth 100000 in
theorem waits0 {S : Nat → Prop} {n : Nat} (hn : n < 64) (h : Wd w A V S) (hv : V.tk n = 0) :
    Calls Tryz.prog 24 #[.pointer (some ⟨A.p, 0, none⟩), .int .i64 n] w fun e w' => e = .returned (.bool false) ∧ Below w.heap.size w w' := by
  have CT := isThread n w
  rw [show decide ((0 : Int) ≤ n ∧ (n : Int) < 64) = true from decide_eq_true ⟨by omega, by omega⟩] at CT
  have C := Lib.hid CT
  have b0 : w.cell? ⟨A.p, 8 + n, none⟩ = some (.int .u64 0) := hv ▸ h.box.ct n hn
  have n0 : (0 : Int) ≤ (n : Int) := by omega
  have n6 : (n : Int) < 64 := by omega
  clear CT h hv
  go_enter Tryz.func24, Tryz.ntmps24
  go_wp2_with (go_at_call 84; ((with_reducible refine C.out.mono ?_); rintro e w1 ⟨rfl, rfl⟩))
  go_ret
  exact ⟨rfl, Below.refl _ _⟩
set_option maxHeartbeats 1000000 in
set_option maxRecDepth 100000 in
theorem rwaits {S T : Nat → Prop} {n : Nat} (hn : n < 64) (h : Pw w A R V S T) (hv : isU (V.tk n)) :
    Calls Tryz.prog 25 #[.pointer (some ⟨R.p, 0, none⟩), .int .i64 n] w fun e w' => e = .returned (.bool (waitF (V.tk n) (V.f 1))) ∧ Below w.heap.size w w' := by
  have hd := (Below.refl w.heap.size w).drew
  have C := Lib.hid (pw_rpeek (h.new hd) (a := 1) ⟨by decide, by decide⟩)
  have hs : isU (V.f 1) := h.a.rng ⟨by decide, by decide⟩
  have KB : Hid (∀ X, Below w.heap.size w X → X.cell? ⟨R.p, 8 + n, none⟩ = some (.int .u64 (V.tk n))) := Lib.hid (fun X hb => by
    obtain ⟨L, ⟨TC, TI, TN, r⟩, -⟩ := (h.new hb).r
    exact r.box.ct n hn)
  clear h
  generalize V.f 1 = s at *
  generalize V.tk n = v at *
  have n0 : (0 : Int) ≤ (n : Int) := by omega
  have n6 : (n : Int) < 64 := by omega
  have d0 : decide ((n : Int) < 0) = false := decide_eq_false (by omega)
  have d1 : decide ((63 : Int) < (n : Int)) = false := decide_eq_false (by omega)
  by_cases h0 : v = 0
  · subst h0
    have e0 := KB.out _ (Below.refl _ _)
    clear C hs hv
    go_enter Tryz.func25, Tryz.ntmps25
    go_wp2_with fail
    go_ret
    exact ⟨rfl, Below.refl _ _⟩
  · have e0 := KB.out _ (Below.refl _ _)
    have v0 : (v == 0) = false := by simp [h0]
    have HW := Lib.hid (wait_eq hv hs h0)
    have H0 := Lib.hid h0
    clear hv hs h0
    go_enter Tryz.func25, Tryz.ntmps25
    go_upto_region 3 with (fail)
    clear e0
    have e0 := KB.out _ hd
    go_wp2_with fail
    go_region_held3 (fun X => X.cell? ⟨R.p, 8 + n, none⟩ = some (.int .u64 v))
      (first | assumption)
      (first | (go_at_call 94; ((with_reducible refine C.out.mono ?_); rintro e w2 ⟨rfl, n, rfl⟩; have hb2 := belowNd hd n; clear e0; have e0 := KB.out _ hb2)))
    all_goals
      clear e0
      go_wp2_with fail
      go_ret
      refine ⟨?_, belowNd (Below.refl _ _) _⟩
      unfold waitF
      rw [if_neg H0.out, ← HW.out]
      rfl
theorem pwaits {S T : Nat → Prop} {n : Nat} (hn : n < 64) (h : Pw w A R V S T) : Calls Tryz.prog 24 #[.pointer (some ⟨A.p, 0, none⟩), .int .i64 n] w fun e w' => e = .returned (.bool (waitF (V.tk n) (V.f 1))) ∧ Below w.heap.size w w' := by
  unfold waitF
  by_cases h0 : V.tk n = 0
  · rw [if_pos h0]
    exact waits0 hn h.a h0
  · rw [if_neg h0]
    exact waits hn h.a rfl (by simp [h0]) rfl rfl rfl
end
end Go.Proofs.YthlebfiedejhhaaGreat
