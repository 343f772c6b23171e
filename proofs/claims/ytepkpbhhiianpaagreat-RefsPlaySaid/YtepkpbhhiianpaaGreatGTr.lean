/- The chapter's touches, beside the program's, in a pair of worlds. -/
import Derived.Test.YtepkpbhhiianpaaGreatGPo
import Derived.Test.YtepkpbhhiianpaaGreatGTo
import Derived.Test.YtepkpbhhiianpaaGreatPlR
import Derived.Test.YtepkpbhhiianpaaGreatOpen
import Derived.Deep.QuietTactic
import Derived.BigQuiet
namespace Go.Proofs.YtepkpbhhiianpaaGreat
open Go.RowKit Go.Maps
set_option linter.unusedVariables false
section
variable {w : World} {R : Ad} {V : Wv} {T : Nat → Prop}
theorem rw_casg {L : List (Int × Int)} (h : Rw w R V L T) (hL : (L.length : Int) ≤ V.cnt + 1000000) (hl : IsLs L V.f) (hc0 : 0 ≤ V.cnt) (hc : V.cnt < 100000000) {a : Int} (ha : isU a) (was v : Int) {b : Bool} (hb : (V.f a == was) = b) :
    Calls Tryz.prog 60 #[.pointer (some ⟨R.p, 0, none⟩), .int .u64 a, .int .u64 was, .int .u64 v] w fun e w' => e = .returned (.tuple #[.int .u64 (V.f a), .bool b]) ∧ ∃ T', Turn T T' w w' ∧ Rw w' R (V.acc (upd V.f a (casI b v (V.f a))) 3 a (V.f a) (casI b v (V.f a))) (putL L a (casI b v (V.f a))) T' := by
  obtain ⟨TC, TI, TN, r⟩ := h
  have c0 := r.box.c0
  have C := Lib.hid (rg_cas r.cel (by omega) hc0 (by omega) (hl.peek ha) was v hb)
  have HR := Lib.hid r
  clear r hl hb
  generalize hz : V.f a = z at *
  go_enter Tryz.func60, Tryz.ntmps60
  go_wp2_with fail
  refine C.out.mono ?_
  rintro e w' ⟨rfl, hp⟩
  have HP := Lib.hid (HR.out.acc (f := upd V.f a (casI b v z)) hp)
  clear hp
  go_wp2_with fail
  go_ret2
  exact ⟨rfl, HP.out⟩
end
section
variable {G : Nat → Prop} {w W : World} {A R : Ad} {V V2 : Wv}
theorem casI_U {b : Bool} {x y : Int} (hx : isU x) (hy : isU y) : isU (casI b x y) := by
  cases b
  · exact hy
  · exact hx
theorem Hf.rcas (h : Hf G w A R V V2) (hc : V2.cnt < 100000000) {a was v : Int} (ha : isU a) (hv : isU v) {b : Bool} (hb : (V2.f a == was) = b) :
    Calls Tryz.prog 60 #[.pointer (some ⟨R.p, 0, none⟩), .int .u64 a, .int .u64 was, .int .u64 v] w fun e w' => e = .returned (.tuple #[.int .u64 (V2.f a), .bool b]) ∧ Hf G w' A R V (V2.acc (upd V2.f a (casI b v (V2.f a))) 3 a (V2.f a) (casI b v (V2.f a))) ∧ Kp G w w' := by
  obtain ⟨S, T, L, h1, ⟨r, hl, hn⟩, ⟨c0, cu⟩, hd, hg, hlt⟩ := h
  have hu := casI_U (b := b) hv (cu a ha)
  refine (rw_casg r hn hl c0 hc ha was v hb).mono ?_
  rintro e w' ⟨rfl, T', t, r'⟩
  refine ⟨rfl, Hf.rpost h1 hd hg hlt t r' (hl.put ha hu) ?_ ⟨?_, fun b' hb' => ?_⟩⟩
  · have := put_len a (casI b v (V2.f a)) L
    show ((putL L a (casI b v (V2.f a))).length : Int) ≤ V2.cnt + 1 + 1000000
    omega
  · show 0 ≤ V2.cnt + 1
    omega
  · show isU (upd V2.f a (casI b v (V2.f a)) b')
    unfold upd
    split
    · exact hu
    · exact cu b' hb'
theorem Tw.opw {q : Nat} {mark word left : Int} {done : Bool} (h : Opw G w A V q [.int .u64 mark, .int .u64 word, .int .i64 left, .bool done]) : Tw G w A V q mark word left done := by
  obtain ⟨S, h1, h2, h3, h4, h5, h6⟩ := h
  exact ⟨S, h1, h2, h3, ⟨h4.at_ 0 _ rfl, h4.at_ 1 _ rfl, h4.at_ 2 _ rfl, h4.at_ 3 _ rfl, fun j hj => h4.fz j (by simpa using hj)⟩, h5, h6⟩
theorem Tw.op {q : Nat} {mark word left : Int} {done : Bool} (h : Tw G w A V q mark word left done) : Opw G w A V q [.int .u64 mark, .int .u64 word, .int .i64 left, .bool done] := by
  obtain ⟨S, h1, h2, h3, h4, h5, h6⟩ := h
  refine ⟨S, h1, h2, h3, ⟨fun i v hv => ?_, fun i hi => h4.fz i (by simpa using hi), h4.lt⟩, h5, h6⟩
  match i, hv with
  | 0, hv => simp at hv; subst hv; exact h4.c0
  | 1, hv => simp at hv; subst hv; exact h4.c1
  | 2, hv => simp at hv; subst hv; exact h4.c2
  | 3, hv => simp at hv; subst hv; exact h4.c3
  | i + 4, hv => simp at hv
/-- A step of the program's touch, as the pair sees it. -/
theorem to_lift {q : Nat} {mark word left word' left' : Int} {done done' over : Bool} {V' : Wv}
    (hs : ∀ G : Nat → Prop, Tw G w A V q mark word left done → Calls Tryz.prog 19 #[.pointer (some ⟨q, 0, none⟩), .pointer (some ⟨A.p, 0, none⟩)] w (StP G w A V' q mark word' left' done' over))
    (h : Hf G w A R V V2) (hq : G q) (ho : Ob w q [.int .u64 mark, .int .u64 word, .int .i64 left, .bool done]) :
    Calls Tryz.prog 19 #[.pointer (some ⟨q, 0, none⟩), .pointer (some ⟨A.p, 0, none⟩)] w fun e w' => e = .returned (.bool over) ∧ Hf G w' A R V' V2 ∧ Ob w' q [.int .u64 mark, .int .u64 word', .int .i64 left', .bool done'] ∧ Kp (fun j => G j ∧ j ≠ q) w w' := by
  obtain ⟨T, h1, h2⟩ := h.opw hq ho
  refine (hs _ (Tw.opw h1)).mono ?_
  rintro e w' ⟨he, ht, hk⟩
  obtain ⟨a, b, c⟩ := h2 w' _ _ ht.op hk
  exact ⟨he, a, b, c⟩
end
/-- The chapter's touch. -/
def rtoC (ln : Int) (dn : Bool) (rf wd : Int) : List Value := [.int .i64 ln, .bool dn, .int .i64 rf, .int .u64 wd]
theorem rnewTo1 (rf : Int) (w : World) (h : 1 ≤ rf) : Calls Tryz.prog 12 #[.int .i64 rf] w (NwOb w (rtoC 1 false rf 0)) := by
  have d : decide (rf < 1) = false := decide_eq_false (by omega)
  go_enter Tryz.func12, Tryz.ntmps12
  go_wp2_with fail
  go_ret
  exact nwOb (ob_at rfl rfl) (by omega) (bs_alloc (Below.refl _ _))
theorem rnewTo0 (rf : Int) (w : World) (h : rf < 1) : Calls Tryz.prog 12 #[.int .i64 rf] w (NwOb w (rtoC 0 false 0 0)) := by
  have d : decide (rf < 1) = true := decide_eq_true h
  go_enter Tryz.func12, Tryz.ntmps12
  go_wp2_with fail
  go_ret
  exact nwOb (ob_at rfl rfl) (by omega) (bs_alloc (Below.refl _ _))
section
variable {G : Nat → Prop} {w : World} {A R : Ad} {V V2 : Wv} {q : Nat} {rf wd z : Int} {dn b : Bool}
theorem rt_s0 (h : Hf G w A R V V2) (ho : Ob w q (rtoC 0 dn rf wd)) :
    Calls Tryz.prog 18 #[.pointer (some ⟨q, 0, none⟩), .pointer (some ⟨R.p, 0, none⟩)] w (RoP G A R V V2 q (rtoC 0 dn rf wd) w) := by
  have c0 := ho.at_ 0 _ rfl
  have HH := Lib.hid (And.intro h ho)
  clear h ho
  go_enter Tryz.func18, Tryz.ntmps18
  go_wp2_with fail
  exact bodyPost_ret (v := .tuple #[]) (by simp [results, Tryz.results18, go_sem]) rfl ⟨rfl, HH.out.1, HH.out.2, Keeps.refl _ _⟩
theorem rmk22 (v : Int) (w : World) (h1 : 0 ≤ v) : Calls Tryz.prog 59 #[.int .u64 v] w fun e w' => e = .returned (.bool (v % 2 == 1)) ∧ w = w' := by
  go_enter Tryz.func59, Tryz.ntmps59
  go_wp2_with fail
  go_ret
  exact ⟨rfl, rfl⟩
theorem isU_reff {r : Int} (h : r ≤ 9223372036854775807) : isU (reff r) := by
  unfold reff isU
  split <;> omega
theorem Hf.rrng (h : Hf G w A R V V2) {a : Int} (ha : isU a) : isU (V2.f a) := by
  obtain ⟨S, T, L, -, -, ⟨-, hu⟩, -⟩ := h
  exact hu a ha
set_option maxHeartbeats 1000000 in
set_option maxRecDepth 100000 in
theorem rt_s1 (h : Hf G w A R V V2) (hq : G q) (ho : Ob w q (rtoC 1 dn rf wd)) (hr : rf ≤ 9223372036854775807) (hc : V2.cnt < 100000000) (hz : V2.f (reff rf) = z) (hb : (z % 2 == 1) = b) {l : Int} (hl : l = if b then 0 else 2) :
    Calls Tryz.prog 18 #[.pointer (some ⟨q, 0, none⟩), .pointer (some ⟨R.p, 0, none⟩)] w (RoP G A R V (V2.acc V2.f 1 (reff rf) z z) q (rtoC l dn rf z) w) := by
  have hua := isU_reff hr
  have hzu : isU z := hz ▸ h.rrng hua
  have CR := Lib.hid (fun W => rref rf W hr)
  have CL := h.rload hc hua
  rw [hz] at CL
  have C := Lib.hid CL
  have CM := Lib.hid (fun W => rmk22 z W hzu.1)
  rw [hb] at CM
  have HG := Lib.hid hq
  have HO := Lib.hid ho
  have c0 := ho.at_ 0 _ rfl
  have c2 := ho.at_ 2 _ rfl
  generalize reff rf = a at *
  generalize hV1 : V2.acc V2.f 1 a z z = V1 at *
  clear hV1 CL h ho hq hz hb
  cases b
  all_goals
    simp only [Bool.false_eq_true, if_false, if_true] at hl
    subst hl
    go_enter Tryz.func18, Tryz.ntmps18
    go_upto_region 2 with (fail)
    clear c0
    go_upto_region 4 with (first
      | (go_at_call 15; ((with_reducible refine (CR.out _).mono ?_); rintro e w0 ⟨rfl, rfl⟩))
      | (go_at_call 58; ((with_reducible refine C.out.mono ?_); rintro e w1 ⟨rfl, h1, k1⟩; have o1 := HO.out.keep k1 (fun n => n HG.out); clear c2; have f3 := o1.fz 3 (by simp [rtoC]); have f0 := o1.fz 0 (by simp [rtoC]); have y3 := o1.at_ 3 _ rfl; have y0 := o1.at_ 0 _ rfl; have H1 := Lib.hid h1; have O1 := Lib.hid o1; have K1 := Lib.hid (k1.less (G' := fun j => G j ∧ j ≠ q) (fun j g => g.1)); clear h1 k1 o1)))
    obtain ⟨h2, k2⟩ := Hf.set (i := 3) H1.out HG.out (.int .u64 z)
    have o2 := O1.out.set 3 (.int .u64 z) (by simp [rtoC]) (C' := rtoC 1 dn rf z) rfl
    obtain ⟨h3, k3⟩ := Hf.set (i := 0) h2 HG.out (.int .i64 2)
    have o3 := o2.set 0 (.int .i64 2) (by simp [rtoC]) (C' := rtoC 2 dn rf z) rfl
    have K3 := Kp.to K1.out (Kp.to k2 k3)
    clear h2 k2 o2 k3 f3 f0 y3 y0 H1 O1 K1
    generalize World.setCell (World.setCell w1 _ _) _ _ = w3 at *
    have y0 := o3.at_ 0 _ rfl
    have y3 := o3.at_ 3 _ rfl
    have f0 := o3.fz 0 (by simp [rtoC])
  · have H2 := Lib.hid h3
    have O2 := Lib.hid o3
    have K2 := Lib.hid K3
    clear h3 o3 K3
    go_wp2_with (go_at_call 59; ((with_reducible refine (CM.out _).mono ?_); rintro e w4 ⟨rfl, rfl⟩))
    exact bodyPost_ret (v := .tuple #[]) (by simp [results, Tryz.results18, go_sem]) rfl ⟨rfl, H2.out, O2.out, K2.out⟩
  · obtain ⟨h4, k4⟩ := Hf.set (i := 0) h3 HG.out (.int .i64 0)
    have H2 := Lib.hid h4
    have O2 := Lib.hid (o3.set 0 (.int .i64 0) (by simp [rtoC]) (C' := rtoC 0 dn rf z) rfl)
    have K2 := Lib.hid (Kp.to K3 k4)
    clear h3 o3 K3 h4 k4
    go_wp2_with (go_at_call 59; ((with_reducible refine (CM.out _).mono ?_); rintro e w4 ⟨rfl, rfl⟩))
    exact bodyPost_ret (v := .tuple #[]) (by simp [results, Tryz.results18, go_sem]) rfl ⟨rfl, H2.out, O2.out, K2.out⟩
set_option maxHeartbeats 1000000 in
set_option maxRecDepth 100000 in
theorem rt_s2 (h : Hf G w A R V V2) (hq : G q) (ho : Ob w q (rtoC 2 dn rf wd)) (hc : V2.cnt < 100000000) (hz : V2.f 5 = z) (hb : (z == 0) = b) {l : Int} (hl : l = if b then 3 else 0) :
    Calls Tryz.prog 18 #[.pointer (some ⟨q, 0, none⟩), .pointer (some ⟨R.p, 0, none⟩)] w (RoP G A R V (V2.acc V2.f 1 5 z z) q (rtoC l dn rf wd) w) := by
  have c0 := ho.at_ 0 _ rfl
  have f0 := ho.fz 0 (by simp [rtoC])
  obtain ⟨h1, k1⟩ := Hf.set (i := 0) h hq (.int .i64 3)
  have O1 := Lib.hid (ho.set 0 (.int .i64 3) (by simp [rtoC]) (C' := rtoC 3 dn rf wd) rfl)
  have CL := h1.rload hc (a := 5) ⟨by decide, by decide⟩
  rw [hz] at CL
  have C := Lib.hid CL
  have HG := Lib.hid hq
  have K1 := Lib.hid k1
  have t0 : (z != 0) = !b := by rw [← hb]; rfl
  generalize hV1 : V2.acc V2.f 1 5 z z = V1 at *
  clear hV1 CL h ho hq hz hb h1 k1
  cases b
  all_goals
    simp only [Bool.false_eq_true, if_false, if_true] at hl
    subst hl
    go_enter Tryz.func18, Tryz.ntmps18
    go_upto_region 8 with (fail)
    clear c0 f0
    go_upto_region 9 with (go_at_call 58; ((with_reducible refine C.out.mono ?_); rintro e w2 ⟨rfl, h2, k2⟩; have o2 := O1.out.keep k2 (fun n => n HG.out); have y0 := o2.at_ 0 _ rfl; have f0 := o2.fz 0 (by simp [rtoC]); have K2' := Lib.hid (Kp.to K1.out (k2.less (fun j g => g.1)))))
  · obtain ⟨h4, k4⟩ := Hf.set (i := 0) h2 HG.out (.int .i64 0)
    have H2 := Lib.hid h4
    have O2 := Lib.hid (o2.set 0 (.int .i64 0) (by simp [rtoC]) (C' := rtoC 0 dn rf wd) rfl)
    have K2 := Lib.hid (Kp.to K2'.out k4)
    clear h2 o2 k2 h4 k4
    go_wp2_with fail
    exact bodyPost_ret (v := .tuple #[]) (by simp [results, Tryz.results18, go_sem]) rfl ⟨rfl, H2.out, O2.out, K2.out⟩
  · have H2 := Lib.hid h2
    have O2 := Lib.hid o2
    have K2 := K2'
    clear h2 o2 k2
    go_wp2_with fail
    exact bodyPost_ret (v := .tuple #[]) (by simp [results, Tryz.results18, go_sem]) rfl ⟨rfl, H2.out, O2.out, K2.out⟩
set_option maxHeartbeats 1000000 in
set_option maxRecDepth 100000 in
theorem rt_s3 (h : Hf G w A R V V2) (hq : G q) (ho : Ob w q (rtoC 3 dn rf wd)) (hr : rf ≤ 9223372036854775807) (hw : 0 ≤ wd) (hw2 : wd < 18446744073709551615) (hc : V2.cnt < 100000000) (hz : V2.f (reff rf) = z) (hb : (z == wd) = b) :
    Calls Tryz.prog 18 #[.pointer (some ⟨q, 0, none⟩), .pointer (some ⟨R.p, 0, none⟩)] w (RoP G A R V (V2.acc (upd V2.f (reff rf) (casI b (wd + 1) z)) 3 (reff rf) z (casI b (wd + 1) z)) q (rtoC 0 b rf wd) w) := by
  have hua := isU_reff hr
  have CR := Lib.hid (fun W => rref rf W hr)
  have hd := (Below.refl w.heap.size w).drew
  have CL := (h.new hd).rcas hc (was := wd) (v := wd + 1) hua ⟨by omega, by omega⟩ (b := b) (by rw [hz]; exact hb)
  rw [hz] at CL
  have C := Lib.hid CL
  have HG := Lib.hid hq
  have HO := Lib.hid ho
  have HD := Lib.hid hd
  have c0 := ho.at_ 0 _ rfl
  have c2 : w.drew.cell? ⟨q, 2, none⟩ = some (.int .i64 rf) := ho.at_ 2 _ rfl
  have c3 : w.drew.cell? ⟨q, 3, none⟩ = some (.int .u64 wd) := ho.at_ 3 _ rfl
  generalize reff rf = a at *
  obtain ⟨w1, hw1⟩ : ∃ w1, w1 = wd + 1 := ⟨_, rfl⟩
  rw [← hw1] at C ⊢
  have yw : IntKind.u64.wrap (wd + 1) = w1 := by rw [IntWalk.u64_in _ (by omega)]; exact hw1.symm
  generalize hV1 : V2.acc (upd V2.f a (casI b w1 z)) 3 a z (casI b w1 z) = V1 at *
  clear hV1 CL h ho hq hz hb hd hw hw2 hw1
  go_enter Tryz.func18, Tryz.ntmps18
  go_upto_region 11 with (fail)
  clear c0
  go_region_held3 (fun X => X.cell? ⟨q, 2, none⟩ = some (.int .i64 rf) ∧ X.cell? ⟨q, 3, none⟩ = some (.int .u64 wd))
    (first | exact ⟨by assumption, by assumption⟩ | exact ⟨set_other (by decide) (by assumption), set_other (by decide) (by assumption)⟩)
    (first
      | (go_at_call 15; ((with_reducible refine (CR.out _).mono ?_); rintro e w2 ⟨rfl, rfl⟩))
      | (go_at_call 60; ((with_reducible refine C.out.mono ?_); rintro e w3 ⟨rfl, h3, k3⟩; have o3 := (HO.out.new HD.out).keep k3 (fun n => n HG.out); have H3 := Lib.hid h3; have O3 := Lib.hid o3; have K3 := Lib.hid (Kp.to (Kp.of HD.out) (k3.less (G' := fun j => G j ∧ j ≠ q) (fun j g => g.1))); clear c2 c3; have c2 := o3.at_ 2 _ rfl; have c3 := o3.at_ 3 _ rfl; have y1 := o3.at_ 1 _ rfl; have f1 := o3.fz 1 (by simp [rtoC]); clear h3 o3 k3)))
  obtain ⟨h4, k4⟩ := Hf.set (i := 1) H3.out HG.out (.bool b)
  have o4 := O3.out.set 1 (.bool b) (by simp [rtoC]) (C' := rtoC 3 b rf wd) rfl
  obtain ⟨h5, k5⟩ := Hf.set (i := 0) h4 HG.out (.int .i64 0)
  have H2 := Lib.hid h5
  have O2 := Lib.hid (o4.set 0 (.int .i64 0) (by simp [rtoC]) (C' := rtoC 0 b rf wd) rfl)
  have K2 := Lib.hid (Kp.to K3.out (Kp.to k4 k5))
  have y0 := o4.at_ 0 _ rfl
  have f0 := o4.fz 0 (by simp [rtoC])
  clear h4 k4 o4 h5 k5
  go_wp2_with fail
  exact bodyPost_ret (v := .tuple #[]) (by simp [results, Tryz.results18, go_sem]) rfl ⟨rfl, H2.out, O2.out, K2.out⟩
end
/-- A touch beside the chapter's. -/
def TrS (w : World) (x : Ox) : Prop := ∃ (p r : Nat) (mark word left ln rf wd : Int) (dn : Bool), x.vals = [.pointer (some ⟨p, 0, none⟩), .pointer (some ⟨r, 0, none⟩)] ∧ x.own = (fun j => j = p ∨ j = r) ∧ p ≠ r ∧ Ob w p [.int .u64 mark, .int .u64 word, .int .i64 left, .bool dn] ∧ Ob w r (rtoC ln dn rf wd) ∧ rf ≤ 9223372036854775807 ∧
  ((left = 0 ∧ ln = 0) ∨ (mark = reff rf ∧ isU word ∧ wd = word ∧ ((left = 3 ∧ ln = 1) ∨ (left = 2 ∧ ln = 2 ∧ word % 2 = 0) ∨ (left = 1 ∧ ln = 3 ∧ word % 2 = 0))))
theorem stabTr : Stab TrS := by
  intro w W x U ⟨p, r, mark, word, left, ln, rf, wd, dn, hv, ho, hn, h1, h2, h3, h4⟩ hk hU
  exact ⟨p, r, mark, word, left, ln, rf, wd, dn, hv, ho, hn, h1.keep hk (hU p (by rw [ho]; exact .inl rfl)), h2.keep hk (hU r (by rw [ho]; exact .inr rfl)), h3, h4⟩
theorem ob_to {w : World} {q : Nat} {mark word left : Int} {done : Bool} (h : Ob w q [.int .u64 mark, .int .u64 word, .int .i64 left, .bool done]) : IsTo w q mark word left done :=
  ⟨h.at_ 0 _ rfl, h.at_ 1 _ rfl, h.at_ 2 _ rfl, h.at_ 3 _ rfl, fun j hj => h.fz j (by simpa using hj)⟩
theorem to_step0 {w : World} {q : Nat} {mark word : Int} {done : Bool} (h : IsTo w q mark word 0 done) (x : Value) : Calls Tryz.prog 19 #[.pointer (some ⟨q, 0, none⟩), x] w fun e w' => e = .returned (.bool true) ∧ w = w' := by
  have C1 := Lib.hid (overw h rfl)
  clear h
  go_enter Tryz.func19, Tryz.ntmps19
  go_wp2_with (go_at_call 55; ((with_reducible refine C1.out.mono ?_); rintro e w1 ⟨rfl, rfl⟩))
  go_ret
  exact ⟨rfl, rfl⟩
/-- What one tells. -/
def TrT (w : World) (x : Ox) (p r : Nat) (ln : Int) (ov dn : Bool) : Prop := x.vals = [.pointer (some ⟨p, 0, none⟩), .pointer (some ⟨r, 0, none⟩)] ∧ ((ln == 0) = ov) ∧ ∀ X, Below w.heap.size w X → X.cell? ⟨r, 0, none⟩ = some (.int .i64 ln) ∧ X.cell? ⟨r, 1, none⟩ = some (.bool dn) ∧ (Calls Tryz.prog 55 #[.pointer (some ⟨p, 0, none⟩)] X fun e w' => e = .returned (.bool ov) ∧ X = w') ∧ Calls Tryz.prog 49 #[.pointer (some ⟨p, 0, none⟩)] X fun e w' => e = .returned (.bool dn) ∧ X = w'
theorem tr_tells {w : World} {x : Ox} (h : TrS w x) : ∃ p r ln ov dn, TrT w x p r ln ov dn := by
  obtain ⟨p, r, mark, word, left, ln, rf, wd, dn, hv, ho, hn, h1, h2, h3, h4⟩ := h
  refine ⟨p, r, ln, (ln == 0), dn, hv, rfl, fun X hb => ⟨(h2.new hb).at_ 0 _ rfl, (h2.new hb).at_ 1 _ rfl, ?_, donew (ob_to (h1.new hb))⟩⟩
  rcases h4 with ⟨rfl, rfl⟩ | ⟨-, -, -, ⟨rfl, rfl⟩ | ⟨rfl, rfl, -⟩ | ⟨rfl, rfl, -⟩⟩
  · exact overw (ob_to (h1.new hb)) rfl
  · exact overn (ob_to (h1.new hb)) (by decide)
  · exact overn (ob_to (h1.new hb)) (by decide)
  · exact overn (ob_to (h1.new hb)) (by decide)
section
variable {G : Nat → Prop} {w Y : World} {A R : Ad} {V : Wv} {x : Ox}
/-- A step of both. -/
theorem tr_two (h : Hf G Y A R V V) (hx : TrS Y x) (ho : ∀ k, x.own k → G k) (hc : V.cnt < 100000000) : ∃ (p r : Nat) (ln : Int) (ov dn : Bool) (V' : Wv), x.vals = [.pointer (some ⟨p, 0, none⟩), .pointer (some ⟨r, 0, none⟩)] ∧ ((ln == 0) = ov) ∧ (V'.M = V.M ∧ V'.I = V.I ∧ V'.cnt ≤ V.cnt + 1) ∧
    Calls Tryz.prog 18 #[.pointer (some ⟨r, 0, none⟩), .pointer (some ⟨R.p, 0, none⟩)] Y fun e Z => e = .returned (.tuple #[]) ∧ Hf G Z A R V V' ∧ Z.cell? ⟨r, 0, none⟩ = some (.int .i64 ln) ∧ Kp (fun j => G j ∧ ¬ x.own j) Y Z ∧
      ∀ Z', Below Z.heap.size Z Z' → Calls Tryz.prog 19 #[.pointer (some ⟨p, 0, none⟩), .pointer (some ⟨A.p, 0, none⟩)] Z' fun e U => e = .returned (.bool ov) ∧ Hf G U A R V' V' ∧ TrS U x ∧ TrT U x p r ln ov dn ∧ Kp (fun j => G j ∧ ¬ x.own j) Z' U := by
  obtain ⟨p, r, mark, word, left, ln, rf, wd, dn, hv, hown, hpr, h1, h2, hrf, h4⟩ := hx
  have gp : G p := ho p (by rw [hown]; exact .inl rfl)
  have gr : G r := ho r (by rw [hown]; exact .inr rfl)
  have nor : ∀ k, ¬ x.own k → k ≠ r := fun k n e => n (by rw [hown, e]; exact .inr rfl)
  have nop : ∀ k, ¬ x.own k → k ≠ p := fun k n e => n (by rw [hown, e]; exact .inl rfl)
  -- what both leave, once both contracts are there
  have both : ∀ (word' left' ln' wd' : Int) (dn' ov : Bool) (V' : Wv), ((ln' == 0) = ov) → (V'.M = V.M ∧ V'.I = V.I ∧ V'.cnt ≤ V.cnt + 1) →
      ((left' = 0 ∧ ln' = 0) ∨ (mark = reff rf ∧ isU word' ∧ wd' = word' ∧ ((left' = 3 ∧ ln' = 1) ∨ (left' = 2 ∧ ln' = 2 ∧ word' % 2 = 0) ∨ (left' = 1 ∧ ln' = 3 ∧ word' % 2 = 0)))) →
      Calls Tryz.prog 18 #[.pointer (some ⟨r, 0, none⟩), .pointer (some ⟨R.p, 0, none⟩)] Y (RoP G A R V V' r (rtoC ln' dn' rf wd') Y) →
      (∀ Z', Hf G Z' A R V V' → Ob Z' p [.int .u64 mark, .int .u64 word, .int .i64 left, .bool dn] → Calls Tryz.prog 19 #[.pointer (some ⟨p, 0, none⟩), .pointer (some ⟨A.p, 0, none⟩)] Z' fun e w' => e = .returned (.bool ov) ∧ Hf G w' A R V' V' ∧ Ob w' p [.int .u64 mark, .int .u64 word', .int .i64 left', .bool dn'] ∧ Kp (fun j => G j ∧ j ≠ p) Z' w') →
      ∃ (p r : Nat) (ln : Int) (ov dn : Bool) (V' : Wv), x.vals = [.pointer (some ⟨p, 0, none⟩), .pointer (some ⟨r, 0, none⟩)] ∧ ((ln == 0) = ov) ∧ (V'.M = V.M ∧ V'.I = V.I ∧ V'.cnt ≤ V.cnt + 1) ∧
        Calls Tryz.prog 18 #[.pointer (some ⟨r, 0, none⟩), .pointer (some ⟨R.p, 0, none⟩)] Y fun e Z => e = .returned (.tuple #[]) ∧ Hf G Z A R V V' ∧ Z.cell? ⟨r, 0, none⟩ = some (.int .i64 ln) ∧ Kp (fun j => G j ∧ ¬ x.own j) Y Z ∧
          ∀ Z', Below Z.heap.size Z Z' → Calls Tryz.prog 19 #[.pointer (some ⟨p, 0, none⟩), .pointer (some ⟨A.p, 0, none⟩)] Z' fun e U => e = .returned (.bool ov) ∧ Hf G U A R V' V' ∧ TrS U x ∧ TrT U x p r ln ov dn ∧ Kp (fun j => G j ∧ ¬ x.own j) Z' U := by
    intro word' left' ln' wd' dn' ov V' hov hV hst hR hP
    refine ⟨p, r, ln', ov, dn', V', hv, hov, hV, hR.mono ?_⟩
    rintro e Z ⟨rfl, hf, hor, hk⟩
    refine ⟨rfl, hf, hor.at_ 0 _ rfl, hk.less (fun k g => ⟨g.1, nor k g.2⟩), fun Z' hb => ?_⟩
    have hkb : Kp (fun j => G j ∧ j ≠ r) Y Z' := Kp.to hk (Kp.of hb)
    refine (hP Z' (hf.new hb) (h1.keep hkb (fun n => n ⟨gp, hpr⟩))).mono ?_
    rintro e U ⟨rfl, hfu, ou, hku⟩
    have hx' : TrS U x := ⟨p, r, mark, word', left', ln', rf, wd', dn', hv, hown, hpr, ou, (hor.new hb).keep hku (fun n => n ⟨gr, fun e => hpr e.symm⟩), hrf, hst⟩
    refine ⟨rfl, hfu, hx', ?_, hku.less (fun k g => ⟨g.1, nop k g.2⟩)⟩
    refine ⟨hv, hov, fun X hX => ?_⟩
    have hor' := ((hor.new hb).keep hku (fun n => n ⟨gr, fun e => hpr e.symm⟩)).new hX
    refine ⟨hor'.at_ 0 _ rfl, hor'.at_ 1 _ rfl, ?_, donew (ob_to (ou.new hX))⟩
    rw [← hov]
    rcases hst with ⟨rfl, rfl⟩ | ⟨-, -, -, ⟨rfl, rfl⟩ | ⟨rfl, rfl, -⟩ | ⟨rfl, rfl, -⟩⟩
    · exact overw (ob_to (ou.new hX)) rfl
    · exact overn (ob_to (ou.new hX)) (by decide)
    · exact overn (ob_to (ou.new hX)) (by decide)
    · exact overn (ob_to (ou.new hX)) (by decide)
  have hmU := isU_reff hrf
  rcases h4 with ⟨rfl, rfl⟩ | ⟨rfl, hwU, rfl, ⟨rfl, rfl⟩ | ⟨rfl, rfl, hev⟩ | ⟨rfl, rfl, hev⟩⟩
  · refine both word 0 0 wd dn true V rfl ⟨rfl, rfl, by omega⟩ (.inl ⟨rfl, rfl⟩) (rt_s0 h h2) (fun Z' hf o => ?_)
    refine (to_step0 (ob_to o) _).mono ?_
    rintro e U ⟨rfl, rfl⟩
    exact ⟨rfl, hf, o, Keeps.refl _ _⟩
  · by_cases hb : (V.f (reff rf) % 2 == 1) = true
    · have hR := rt_s1 h gr h2 hrf hc rfl hb (l := 0) rfl
      refine both (V.f (reff rf)) 0 0 _ dn true _ rfl ?_ (.inl ⟨rfl, rfl⟩) hR (fun Z' hf o => to_lift (fun G' ht => step3m ht hmU (by omega) hb) hf gp o)
      exact ⟨rfl, rfl, by show V.cnt + 1 ≤ _; omega⟩
    · have hb' : (V.f (reff rf) % 2 == 1) = false := by simpa using hb
      have hev : V.f (reff rf) % 2 = 0 := by
        have : ¬ V.f (reff rf) % 2 = 1 := by simpa using hb'
        omega
      have hR := rt_s1 h gr h2 hrf hc rfl hb' (l := 2) rfl
      refine both (V.f (reff rf)) 2 2 _ dn false _ rfl ?_ (.inr ⟨rfl, h.rng hmU, rfl, .inr (.inl ⟨rfl, rfl, hev⟩)⟩) hR (fun Z' hf o => to_lift (fun G' ht => step3u ht hmU (by omega) hb') hf gp o)
      exact ⟨rfl, rfl, by show V.cnt + 1 ≤ _; omega⟩
  · by_cases hb : (V.f 5 == 0) = true
    · have hR := rt_s2 h gr h2 hc rfl hb (l := 3) rfl
      refine both wd 1 3 _ dn false _ rfl ?_ (.inr ⟨rfl, hwU, rfl, .inr (.inr ⟨rfl, rfl, hev⟩)⟩) hR (fun Z' hf o => to_lift (fun G' ht => step2u ht (by omega) hb) hf gp o)
      exact ⟨rfl, rfl, by show V.cnt + 1 ≤ _; omega⟩
    · have hb' : (V.f 5 == 0) = false := by simpa using hb
      have hR := rt_s2 h gr h2 hc rfl hb' (l := 0) rfl
      refine both wd 0 0 _ dn true _ rfl ?_ (.inl ⟨rfl, rfl⟩) hR (fun Z' hf o => to_lift (fun G' ht => step2s ht (by omega) hb') hf gp o)
      exact ⟨rfl, rfl, by show V.cnt + 1 ≤ _; omega⟩
  · have hw2 : wd < 18446744073709551615 := by have := hwU.2; omega
    have hR := rt_s3 h gr h2 hrf hwU.1 hw2 hc rfl rfl
    refine both wd 0 0 _ (V.f (reff rf) == wd) true _ rfl ?_ (.inl ⟨rfl, rfl⟩) hR (fun Z' hf o => to_lift (fun G' ht => step1 ht hmU hwU.1 hw2 (by omega) rfl) hf gp o)
    exact ⟨rfl, rfl, by show V.cnt + 1 ≤ _; omega⟩
end
end Go.Proofs.YtepkpbhhiianpaaGreat
/- Next: Touches beside the chapter's: how one begins, whether both tell the same; acts that came in. -/
namespace Go.Proofs.YtepkpbhhiianpaaGreat
open Go.RowKit Go.Maps
set_option linter.unusedVariables false
theorem nto (r : Int) (w : World) (h : r ≤ 9223372036854775807) {l : Int} (hl : l = if 1 ≤ r then 3 else 0) : Calls Tryz.prog 11 #[.int .i64 r] w (NwOb w [.int .u64 (reff r), .int .u64 0, .int .i64 l, .bool false]) := by
  have C := Lib.hid (fun W => refw r W h)
  generalize reff r = m at *
  by_cases c : 1 ≤ r
  · rw [if_pos c] at hl
    subst hl
    have d : decide (0 < r) = true := decide_eq_true (by omega)
    have d' : decide (1 ≤ r) = true := decide_eq_true c
    go_enter Tryz.func11, Tryz.ntmps11
    go_wp2_with fail
    refine (C.out _).mono ?_
    rintro e w1 ⟨rfl, rfl⟩
    go_wp2_with fail
    go_ret
    exact nwOb (ob_at rfl rfl) (by omega) (bs_alloc (Below.refl _ _))
  · rw [if_neg c] at hl
    subst hl
    have d : decide (0 < r) = false := decide_eq_false (by omega)
    have d' : decide (1 ≤ r) = false := decide_eq_false c
    go_enter Tryz.func11, Tryz.ntmps11
    go_wp2_with fail
    refine (C.out _).mono ?_
    rintro e w1 ⟨rfl, rfl⟩
    go_wp2_with fail
    go_ret
    exact nwOb (ob_at rfl rfl) (by omega) (bs_alloc (Below.refl _ _))
theorem rnto (r : Int) (w : World) {l f : Int} (hl : l = if 1 ≤ r then 1 else 0) (hf : f = if 1 ≤ r then r else 0) : Calls Tryz.prog 12 #[.int .i64 r] w (NwOb w (rtoC l false f 0)) := by
  by_cases c : 1 ≤ r
  · rw [if_pos c] at hl hf
    subst hl; subst hf
    exact rnewTo1 _ w c
  · rw [if_neg c] at hl hf
    subst hl; subst hf
    exact rnewTo0 r w (by omega)
theorem tr_begin {w : World} {p r : Nat} {rf l3 l1 f : Int} (h : rf ≤ 9223372036854775807) (h3 : l3 = if 1 ≤ rf then 3 else 0) (h1 : l1 = if 1 ≤ rf then 1 else 0) (hf : f = if 1 ≤ rf then rf else 0) (hp : Ob w p [.int .u64 (reff rf), .int .u64 0, .int .i64 l3, .bool false]) (hr : Ob w r (rtoC l1 false f 0)) (hpr : p ≠ r) :
    TrS w ⟨[.pointer (some ⟨p, 0, none⟩), .pointer (some ⟨r, 0, none⟩)], fun j => j = p ∨ j = r⟩ := by
  by_cases c : 1 ≤ rf
  · rw [if_pos c] at h3 h1 hf
    subst h3; subst h1; subst hf
    exact ⟨p, r, _, 0, 3, 1, _, 0, false, rfl, rfl, hpr, hp, hr, h, .inr ⟨rfl, ⟨by decide, by decide⟩, rfl, .inl ⟨rfl, rfl⟩⟩⟩
  · rw [if_neg c] at h3 h1 hf
    subst h3; subst h1; subst hf
    exact ⟨p, r, _, 0, 0, 0, 0, 0, false, rfl, rfl, hpr, hp, hr, by omega, .inl ⟨rfl, rfl⟩⟩
theorem tr_same {w : World} {x : Ox} {p r : Nat} {ln : Int} {ov dn : Bool} (h : TrT w x p r ln ov dn) : Calls Tryz.prog 13 #[.agg #[.pointer (some ⟨p, 0, none⟩), .pointer (some ⟨r, 0, none⟩)]] w fun e w' => e = .returned (.bool true) ∧ Below w.heap.size w w' := by
  obtain ⟨-, hov, hX⟩ := h
  have HX := Lib.hid hX
  clear hX
  obtain ⟨F, hF⟩ : ∃ F, F = w.heap.size := ⟨_, rfl⟩
  go_enter Tryz.func13, Tryz.ntmps13
  go_upto_region 1 with (fail)
  generalize hW : World.alloc w _ = W
  have bW : Below w.heap.size w W := by rw [← hW]; exact bs_alloc (Below.refl _ _)
  have f0 : W.cell? ⟨F, 0, none⟩ = some (.pointer (some ⟨p, 0, none⟩)) := by rw [← hW, hF]; exact new_at rfl rfl
  have f1 : W.cell? ⟨F, 1, none⟩ = some (.pointer (some ⟨r, 0, none⟩)) := by rw [← hW, hF]; exact new_at rfl rfl
  have HBW := Lib.hid bW
  obtain ⟨r0, r1, -, -⟩ := HX.out W bW
  have CO := Lib.hid (fun n => (HX.out (W.drewN n) (below_then bW (belowNd (Below.refl _ _) n))).2.2.1)
  have CD := Lib.hid (fun n => (HX.out (W.drewN n) (below_then bW (belowNd (Below.refl _ _) n))).2.2.2)
  rw [← hF]
  clear hW bW hF HX
  go_quiet ((first
    | (go_at_call 55; with_reducible exact quiet_left (CO.out _))
    | (go_at_call 49; with_reducible exact quiet_left (CD.out _))))
  go_wp2_with fail
  go_ret
  exact ⟨rfl, below_then HBW.out (belowNd (Below.refl _ _) _)⟩
/-- An act of this chapter's law, as it lies. -/
def Act22 (w : World) (b o : Nat) : Prop := ∃ x0 x1 x2 x3 x4 : Int, (0 ≤ x0 ∧ x0 ≤ 255) ∧ (0 ≤ x1 ∧ x1 ≤ 255) ∧ x2 ≤ 9223372036854775807 ∧ isU x3 ∧ isU x4 ∧ w.cell? ⟨b, o, none⟩ = some (.int .u8 x0) ∧ w.cell? ⟨b, o + 1, none⟩ = some (.int .u8 x1) ∧ w.cell? ⟨b, o + 2, none⟩ = some (.int .i64 x2) ∧ w.cell? ⟨b, o + 3, none⟩ = some (.int .u64 x3) ∧ w.cell? ⟨b, o + 4, none⟩ = some (.int .u64 x4)
theorem reads_acts22 {w : World} {t e : TypeId} {a : Option Addr} {len cap : Nat} (ht : Tryz.prog.underlying t = some (.slice e)) (hk : leaves Tryz.prog 9 e = some [.inl .u8, .inl .u8, .inl .i64, .inl .u64, .inl .u64]) (hc : Tryz.prog.cellsOf e = 5) (h : Reads Tryz.prog w t (.slice a len cap)) :
    len ≤ 9223372036854775807 ∧ ∃ b off, (0 < len → len ≤ cap ∧ a = some ⟨b, off, none⟩) ∧ ∀ i, i < len → Act22 w b (off + i * 5) := by
  rcases Reads.slice ht hk h with ⟨_, rfl, _⟩ | ⟨b, off, sp, rfl, h1, h2, h3, h4⟩
  · exact ⟨by omega, 0, 0, fun h => by omega, fun i hi => by omega⟩
  · refine ⟨by unfold maxLen at h2; omega, b, off, fun h => ⟨h1, by rw [h3 (by omega) (by omega)]⟩, fun i hi => ?_⟩
    obtain ⟨l, hl, hll, hx⟩ := h4 i (by omega)
    obtain ⟨_, _, rfl, ⟨x0, rfl, y0⟩, g0⟩ := all2_cons hl
    obtain ⟨_, _, rfl, ⟨x1, rfl, y1⟩, g1⟩ := all2_cons g0
    obtain ⟨_, _, rfl, ⟨x2, rfl, y2⟩, g2⟩ := all2_cons g1
    obtain ⟨_, _, rfl, ⟨x3, rfl, y3⟩, g3⟩ := all2_cons g2
    obtain ⟨_, _, rfl, ⟨x4, rfl, y4⟩, g4⟩ := all2_cons g3
    obtain rfl := all2_nil g4
    rw [hc] at hx
    have b0 := bounds_u8 y0
    have b1 := bounds_u8 y1
    have b2 := bounds_i64 y2
    have b3 := bounds_u64 y3
    have b4 := bounds_u64 y4
    exact ⟨x0, x1, x2, x3, x4, by omega, by omega, by omega, ⟨b3.1, by omega⟩, ⟨b4.1, by omega⟩, hx 0 _ rfl, hx 1 _ rfl, hx 2 _ rfl, hx 3 _ rfl, hx 4 _ rfl⟩
theorem Act22.new {w W : World} {b o : Nat} (h : Act22 w b o) (hb : Below w.heap.size w W) : Act22 W b o := by
  obtain ⟨x0, x1, x2, x3, x4, r1, r2, r3, r4, r5, c0, c1, c2, c3, c4⟩ := h
  have up : ∀ {o v}, w.cell? ⟨b, o, none⟩ = some v → W.cell? ⟨b, o, none⟩ = some v := fun {o v} hc => (hb.cell (p := ⟨b, o, none⟩) (World.block_lt_of_cell? _ _ hc)).trans hc
  exact ⟨x0, x1, x2, x3, x4, r1, r2, r3, r4, r5, up c0, up c1, up c2, up c3, up c4⟩
theorem info_op22 : (Tryz.prog.info? 48).map (fun i => (i.zero, i.size, i.bytes)) = some (some (.agg #[.pointer none, .pointer none]), 2, 16) := by kernel_rfl
theorem tr_ptrs {w : World} {x : Ox} {v0 v1 : Value} (hx : TrS w x) (hv : x.vals = [v0, v1]) : ∃ q r, v0 = .pointer (some ⟨q, 0, none⟩) ∧ v1 = .pointer (some ⟨r, 0, none⟩) := by
  obtain ⟨p, r, mark, word, left, ln, rf, wd, dn, hv', -⟩ := hx
  rw [hv'] at hv
  injection hv with e0 hv
  injection hv with e1 hv
  exact ⟨p, r, e0.symm, e1.symm⟩
theorem tr_len {w : World} {x : Ox} (hx : TrS w x) : ∃ v0 v1, x.vals = [v0, v1] := by
  obtain ⟨p, r, mark, word, left, ln, rf, wd, dn, hv', -⟩ := hx
  exact ⟨_, _, hv'⟩
theorem lessF_U {z : Int} (h : isU z) : isU (lessF z) := by
  unfold lessF
  split
  · rw [IntKind.wrap_u64]
    exact ⟨by omega, by omega⟩
  · exact h
theorem rls22 (v : Int) (w : World) (h1 : 0 ≤ v) : Calls Tryz.prog 16 #[.int .u64 v] w fun e w' => e = .returned (.int .u64 (lessF v)) ∧ w = w' := by
  by_cases hv : v % 2 = 1
  · have hb : (v % 2 == 1) = true := by simpa using hv
    have e : lessF v = IntKind.u64.wrap (v + 1) := by unfold lessF; rw [if_pos hv]
    rw [e]
    clear e hv
    go_enter Tryz.func16, Tryz.ntmps16
    go_wp2_with fail
    go_ret
    exact ⟨rfl, rfl⟩
  · have hb : (v % 2 == 1) = false := by simpa using hv
    have e : lessF v = v := by unfold lessF; rw [if_neg hv]
    rw [e]
    clear e hv
    go_enter Tryz.func16, Tryz.ntmps16
    go_wp2_with fail
    go_ret
    exact ⟨rfl, rfl⟩
theorem PlR.peek {e : TypeId} {size : Nat} {PS : World → Ox → Prop} {B P : Nat} {W X : World} {A R : Ad} {s : Value} {k : Nat} {c : Int} (h : PlR e size PS B P W A R X s k c) {a : Int} (ha : isU a) : ∃ z, isU z ∧ ∀ Y, Below X.heap.size X Y → Calls Tryz.prog 17 #[.pointer (some ⟨R.p, 0, none⟩), .int .u64 a] Y fun e w' => e = .returned (.int .u64 z) ∧ Below Y.heap.size Y w' := by
  obtain ⟨V, L, G, GL, h1, -⟩ := h
  refine ⟨V.f a, h1.rng ha, fun Y hb => ?_⟩
  obtain ⟨S, T, LL, -, ⟨r, hl, -⟩, -⟩ := h1.new hb
  refine (rw_peek r hl ha).mono ?_
  rintro e w' ⟨rfl, n, rfl⟩
  exact ⟨rfl, belowNd (Below.refl _ _) n⟩
theorem sm_eqX {l : List Value} {W : World} {g i : Nat} {v0 v1 : Value} (h : l.length = 2) (hc : ∀ j u, l[j]? = some u → W.cell? ⟨g, i * 2 + j, none⟩ = some u) (h0 : W.cell? ⟨g, i * 2, none⟩ = some v0) (h1 : W.cell? ⟨g, i * 2 + 1, none⟩ = some v1) : l = [v0, v1] := by
  match l, h with
  | [a, b], _ =>
    have e0 := hc 0 a rfl
    have e1 := hc 1 b rfl
    obtain rfl : v0 = a := Option.some.inj (h0.symm.trans e0)
    obtain rfl : v1 = b := Option.some.inj (h1.symm.trans e1)
    rfl
theorem kal {w : World} {o : Obj} {p : Addr} {v : Value} (h : w.cell? p = some v) : (w.alloc o).cell? p = some v := (World.cell?_alloc_lt w o p (World.block_lt_of_cell? _ _ h)).trans h
theorem kst {w W : World} {i : Nat} {u : Value} {p : Addr} {v : Value} (h : w.cell? p = some v) (hW : W.cell? p = some v) : (W.setCell ⟨w.heap.size, i, none⟩ u).cell? p = some v :=
  (World.cell?_setCell_other W ⟨w.heap.size, i, none⟩ p u (by intro e; have := World.block_lt_of_cell? _ _ h; rw [← e] at this; simp at this)).trans hW
theorem sz_lt {w : World} {o : Obj} {n : Nat} (h : n = w.heap.size) : n < (w.alloc o).heap.size := by subst h; simp
theorem nfz {w : World} {cs : Array Value} {t : TypeId} {n i : Nat} (h : n = w.heap.size) : (w.alloc (.cells cs t)).frozen? ⟨n, i, none⟩ = false := by subst h; simp
theorem kstN {w W : World} {n i : Nat} {u : Value} {p : Addr} {v : Value} (hn : n = w.heap.size) (h : w.cell? p = some v) (hW : W.cell? p = some v) : (W.setCell ⟨n, i, none⟩ u).cell? p = some v := by
  subst hn
  exact kst h hW
theorem ntoX (r : Int) (w : World) (h : r ≤ 9223372036854775807) {l m : Int} (hl : l = if 1 ≤ r then 3 else 0) (hm : m = reff r) : Calls Tryz.prog 11 #[.int .i64 r] w fun e w' => e = .returned (.pointer (some ⟨w.heap.size, 0, none⟩)) ∧ w' = w.alloc (.cells #[.int .u64 m, .int .u64 0, .int .i64 l, .bool false] 142) := by
  have C := Lib.hid (fun W => refw r W h)
  rw [← hm] at C
  clear hm
  by_cases c : 1 ≤ r
  · rw [if_pos c] at hl
    subst hl
    have d : decide (0 < r) = true := decide_eq_true (by omega)
    have d' : decide (1 ≤ r) = true := decide_eq_true c
    go_enter Tryz.func11, Tryz.ntmps11
    go_wp2_with fail
    refine (C.out _).mono ?_
    rintro e w1 ⟨rfl, rfl⟩
    go_wp2_with fail
    go_ret
    exact ⟨rfl, rfl⟩
  · rw [if_neg c] at hl
    subst hl
    have d : decide (0 < r) = false := decide_eq_false (by omega)
    have d' : decide (1 ≤ r) = false := decide_eq_false c
    go_enter Tryz.func11, Tryz.ntmps11
    go_wp2_with fail
    refine (C.out _).mono ?_
    rintro e w1 ⟨rfl, rfl⟩
    go_wp2_with fail
    go_ret
    exact ⟨rfl, rfl⟩
theorem rntoX (r : Int) (w : World) {l f : Int} (hl : l = if 1 ≤ r then 1 else 0) (hf : f = if 1 ≤ r then r else 0) : Calls Tryz.prog 12 #[.int .i64 r] w fun e w' => e = .returned (.pointer (some ⟨w.heap.size, 0, none⟩)) ∧ w' = w.alloc (.cells #[.int .i64 l, .bool false, .int .i64 f, .int .u64 0] 56) := by
  by_cases c : 1 ≤ r
  · rw [if_pos c] at hl hf
    subst hl
    have d : decide (r < 1) = false := decide_eq_false (by omega)
    rw [hf]
    clear hf
    go_enter Tryz.func12, Tryz.ntmps12
    go_wp2_with fail
    go_ret
    exact ⟨rfl, rfl⟩
  · rw [if_neg c] at hl hf
    subst hl
    have d : decide (r < 1) = true := decide_eq_true (by omega)
    rw [hf]
    clear hf
    go_enter Tryz.func12, Tryz.ntmps12
    go_wp2_with fail
    go_ret
    exact ⟨rfl, rfl⟩
theorem three_ob {W : World} {C1 C2 C3 : Array Value} {T1 T2 T3 : TypeId} {L1 L2 L3 : List Value} (h1 : L1 = C1.toList) (h2 : L2 = C2.toList) (h3 : L3 = C3.toList) : Ob (((W.alloc (.cells C1 T1)).alloc (.cells C2 T2)).alloc (.cells C3 T3)).drew W.heap.size L1 ∧ Ob (((W.alloc (.cells C1 T1)).alloc (.cells C2 T2)).alloc (.cells C3 T3)).drew (W.heap.size + 1) L2 ∧ Ob (((W.alloc (.cells C1 T1)).alloc (.cells C2 T2)).alloc (.cells C3 T3)).drew (W.heap.size + 1 + 1) L3 ∧ Below W.heap.size W (((W.alloc (.cells C1 T1)).alloc (.cells C2 T2)).alloc (.cells C3 T3)).drew := by
  have b2 : Below (W.alloc (.cells C1 T1)).heap.size (W.alloc (.cells C1 T1)) ((W.alloc (.cells C1 T1)).alloc (.cells C2 T2)) := bs_alloc (Below.refl _ _)
  have b3 : Below ((W.alloc (.cells C1 T1)).alloc (.cells C2 T2)).heap.size ((W.alloc (.cells C1 T1)).alloc (.cells C2 T2)) (((W.alloc (.cells C1 T1)).alloc (.cells C2 T2)).alloc (.cells C3 T3)).drew := (bs_alloc (Below.refl _ _)).drew
  exact ⟨(ob_at rfl h1).new (below_then b2 b3), (ob_at (by simp) h2).new b3, (ob_at (by simp) h3).new (Below.refl _ _).drew, below_then (bs_alloc (Below.refl _ _)) (below_then b2 b3)⟩
theorem news2X {W : World} {v0 v1 : Value} {t : TypeId} {j : Nat} {u : Value} (hj : [v0, v1][j]? = some u) : (W.alloc (.cells #[v0, v1] t)).cell? ((⟨W.heap.size, 0, none⟩ : Addr).add j) = some u :=
  World.news_of_block (B := W.heap.size) (cs := #[v0, v1]) (t := t) (fr := (0, 0)) (by show (W.heap.push _)[W.heap.size]? = _; simp) j u hj
section
variable {e : TypeId} {size : Nat} {PS : World → Ox → Prop} {B P : Nat} {W X Y X0 : World} {A R : Ad} {s : Value} {k k' : Nat} {c c' : Int}
/-- One of them, and what a change of it by others leaves. -/
theorem PlR.at2X {g n cap i : Nat} (h : PlR e size PS B P W A R X (.slice (some ⟨g, 0, none⟩) n cap) k c) (hP : Stab PS) (hi : i < n) (hb : Below X.heap.size X Y) : ∃ (V : Wv) (x : Ox) (G : Nat → Prop), Hf G Y A R V V ∧ PS Y x ∧ (∀ j, x.own j → G j) ∧ V.cnt ≤ c ∧ x.vals.length = size ∧ (∀ j u, x.vals[j]? = some u → Y.cell? ⟨g, i * size + j, none⟩ = some u) ∧ (∀ j, (X.heap.size ≤ j ∧ j < Y.heap.size) ∨ (j < B ∨ j = P) → G j ∧ ¬ x.own j) ∧
    ∀ Z V', Hf G Z A R V' V' → PS Z x → Kp (fun j => G j ∧ ¬ x.own j) Y Z → V'.M = V.M → V'.I = V.I → V'.cnt ≤ V.cnt + 1 → PlR e size PS B P W A R Z (.slice (some ⟨g, 0, none⟩) n cap) k (c + 1) := by
  obtain ⟨V, L, G, GL, h1, h2, h3, h4, h5, ⟨m1, m2, m3⟩, h7⟩ := h
  have lt0 := h1.lts
  have hln : L.length = n := by
    obtain ⟨_, ⟨h, h0⟩ | ⟨g', cap', h, -⟩⟩ := Lst.of_own h3.row
    · simp at h
    · simp at h
      exact h.2.1.symm
  obtain ⟨x, hx⟩ : ∃ x, L[i]? = some x := ⟨_, List.getElem?_eq_getElem (by omega)⟩
  have hxm := List.mem_of_getElem? hx
  have h3' := h3.keep hP (Keeps.of_new (S := fun _ => False) hb) (fun _ _ s => s)
  have ho : ∀ j, x.own j → G j := fun j o => (h4 j ((h3.all x hxm).2 j o)).1
  refine ⟨V, x, _, h1.addN hb, (h3'.all x hxm).1, fun j o => .inl (ho j o), m3, h3.len x hxm, fun j u hu => ?_, fun j hj => ?_, fun Z V' hf hx' hk r1 r2 r3 => ?_⟩
  · obtain ⟨g', cap', hs, -, -, -, hat⟩ := h3'.at_ hx
    simp at hs
    obtain ⟨rfl, -, rfl⟩ := hs
    exact hat j u hu
  · rcases hj with hj | hj
    · exact ⟨.inr hj, fun o => by have := lt0 j (ho j o); omega⟩
    · exact ⟨.inl (h2 j hj), fun o => (h4 j ((h3.all x hxm).2 j o)).2 hj⟩
  · have hk' : Kp (fun j => j < B ∨ j = P) Y Z := hk.less (fun j hj => ⟨.inl (h2 j hj), fun o => (h4 j ((h3.all x hxm).2 j o)).2 hj⟩)
    have h3'' := h3'.step hP hx hk (fun j g n => Classical.byContradiction (fun no => n ⟨.inl (h4 j g).1, no⟩)) hx'
    exact ⟨V', L, G, GL, hf.less (fun j g => .inl g), h2, h3'', h4, Kp.to (Kp.to h5 (Kp.of hb)) hk', ⟨r1.trans m1, by rw [r2]; exact m2, by omega⟩, h7⟩
end
end Go.Proofs.YtepkpbhhiianpaaGreat
