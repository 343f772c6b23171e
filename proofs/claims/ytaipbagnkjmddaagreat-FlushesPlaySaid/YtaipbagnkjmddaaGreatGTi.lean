/- Takes and Gives of the lock. -/
import Derived.Test.YtaipbagnkjmddaaGreatOb
import Derived.Laws.EntriesVeiled
import Derived.Deep.Cut
import Derived.Deep.CutBlock
import Derived.Deep.RegionHeld3
namespace Go.Proofs.YtaipbagnkjmddaaGreat
open Go.RowKit Go.Maps
set_option linter.unusedVariables false
theorem isThread (t : Int) (w : World) : Calls Tryz.prog 82 #[.int .i64 t] w fun e w' => e = .returned (.bool (decide (0 ≤ t ∧ t < 64))) ∧ w = w' := by
  by_cases h1 : 0 ≤ t
  · by_cases h2 : t < 64
    · have d1 : decide (0 ≤ t) = true := decide_eq_true h1
      have d2 : decide (t < 64) = true := decide_eq_true h2
      have d : decide (0 ≤ t ∧ t < 64) = true := decide_eq_true ⟨h1, h2⟩
      rw [d]
      go_enter Tryz.func82, Tryz.ntmps82
      go_wp2_with fail
      go_ret
      exact ⟨rfl, rfl⟩
    · have d1 : decide (0 ≤ t) = true := decide_eq_true h1
      have d2 : decide (t < 64) = false := decide_eq_false h2
      have d : decide (0 ≤ t ∧ t < 64) = false := decide_eq_false (fun h => h2 h.2)
      rw [d]
      go_enter Tryz.func82, Tryz.ntmps82
      go_wp2_with fail
      go_ret
      exact ⟨rfl, rfl⟩
  · have d1 : decide (0 ≤ t) = false := decide_eq_false h1
    have d : decide (0 ≤ t ∧ t < 64) = false := decide_eq_false (fun h => h1 h.1)
    rw [d]
    go_enter Tryz.func82, Tryz.ntmps82
    go_wp2_with fail
    go_ret
    exact ⟨rfl, rfl⟩
/-- A Take's cells. -/
def tkC (t tick : Int) (dr : Bool) (nx : Value) : List Value := [.int .i64 t, .int .u64 tick, .bool dr, nx]
theorem newTake_no (t : Int) (ht : decide (0 ≤ t ∧ t < 64) = false) (w : World) : Calls Tryz.prog 33 #[.int .i64 t] w fun e w' => e = .returned (.pointer (some ⟨w.heap.size, 0, none⟩)) ∧ Ob w' w.heap.size (tkC t 0 false .nilFunc) ∧ Below w.heap.size w w' := by
  have CT := fun W => isThread t W
  rw [ht] at CT
  have C := Lib.hid CT
  clear CT ht
  go_enter Tryz.func33, Tryz.ntmps33
  go_wp2_with fail
  refine (C.out _).mono ?_
  rintro e w1 ⟨rfl, rfl⟩
  go_wp2_with fail
  go_ret
  exact ⟨rfl, ob_new rfl, (Below.refl _ _).alloc (Nat.le_refl _) _⟩
/-- What comes next: a method of the block. -/
def mV (f : FuncId) (q : Nat) : Value := .func (.func f) #[.pointer (some ⟨q, 0, none⟩)] #[]
theorem newTake (t : Int) (ht : decide (0 ≤ t ∧ t < 64) = true) (w : World) : Calls Tryz.prog 33 #[.int .i64 t] w fun e w' => e = .returned (.pointer (some ⟨w.heap.size, 0, none⟩)) ∧ Ob w' w.heap.size (tkC t 0 false (mV 83 w.heap.size)) ∧ Below w.heap.size w w' := by
  have CT := fun W => isThread t W
  rw [ht] at CT
  have C := Lib.hid CT
  clear CT ht
  go_enter Tryz.func33, Tryz.ntmps33
  go_wp2_with fail
  refine (C.out _).mono ?_
  rintro e w1 ⟨rfl, rfl⟩
  go_wp2_with fail
  go_ret
  exact ⟨rfl, ob_new rfl, (Below.refl _ _).alloc (Nat.le_refl _) _⟩
theorem tk_over_nil (w : World) : Calls Tryz.prog 34 #[.pointer none] w fun e w' => e = .returned (.bool true) ∧ w = w' := by
  go_enter Tryz.func34, Tryz.ntmps34
  go_wp2_with fail
  go_ret
  exact ⟨rfl, rfl⟩
section
variable {G : Nat → Prop} {w : World} {A : Ad} {V : Wv} {q : Nat} {t tick : Int} {dr : Bool}
set_option maxRecDepth 100000 in
theorem tk_over (h : Ob w q (tkC t tick dr .nilFunc)) : Calls Tryz.prog 34 #[.pointer (some ⟨q, 0, none⟩)] w fun e w' => e = .returned (.bool true) ∧ w = w' := by
  have hq : ∀ W, (binOp .eql 62 .nilFunc .nilFunc).run Tryz.prog W = .ok (.bool true) W := fun W => by kernel_rfl
  have c3 := h.at_ 3 _ rfl
  clear h
  go_enter Tryz.func34, Tryz.ntmps34
  go_wp2_with fail
  go_ret
  exact ⟨rfl, rfl⟩
set_option maxRecDepth 100000 in
theorem tk_overn {f : FuncId} (h : Ob w q (tkC t tick dr (mV f q))) : Calls Tryz.prog 34 #[.pointer (some ⟨q, 0, none⟩)] w fun e w' => e = .returned (.bool false) ∧ w = w' := by
  have c3 := h.at_ 3 _ rfl
  unfold mV at c3
  have hq : ∀ W, (binOp .eql 62 (.func (.func f) #[.pointer (some ⟨q, 0, none⟩)] #[]) .nilFunc).run Tryz.prog W = .ok (.bool false) W := fun W => by kernel_rfl
  clear h
  go_enter Tryz.func34, Tryz.ntmps34
  go_wp2_with fail
  go_ret
  exact ⟨rfl, rfl⟩
set_option maxHeartbeats 1000000 in
set_option maxRecDepth 100000 in
theorem tk_draw {n : Nat} (hn : n < 64) (h : Opw G w A V q (tkC n tick dr (mV 83 q))) (hc : V.cnt < 1000000000) {z u : Int} (hz : V.f 0 = z) (hu : IntKind.u64.wrap (z + 1) = u) :
    Calls Tryz.prog 83 #[.pointer (some ⟨q, 0, none⟩), .pointer (some ⟨A.p, 0, none⟩)] w fun e w' => e = .returned (.tuple #[]) ∧ Opw G w' A ((V.acc (upd V.f 0 u) 4 0 z u).tkset n u) q (tkC n z true (mV 116 q)) ∧ Kp G w w' := by
  have c0 := h.box.c0
  subst hz
  have C := Lib.hid (h.add (a := 0) (v := 1) ⟨by decide, by decide⟩ hc hu)
  have HU := Lib.hid hu
  generalize hz : V.f 0 = z at *
  generalize hV1 : V.acc (upd V.f 0 u) 4 0 z u = V1 at *
  clear hV1 h
  go_enter Tryz.func83, Tryz.ntmps83
  go_wp2_with fail
  refine C.out.mono ?_
  rintro e w1 ⟨rfl, h1, k1⟩
  have d1 := h1.ob.at_ 1 _ rfl
  have f1 := h1.ob.fz 1 (by simp [tkC])
  obtain ⟨h2, k2⟩ := h1.set 1 (.int .u64 z) (by simp [tkC]) (C' := tkC n z dr (mV 83 q)) rfl
  have H2 := Lib.hid h2
  have K2 := Lib.hid (Kp.to k1 k2)
  clear h1 k1 h2 k2 c0 hz hu C
  go_upto_region 1 with (fail)
  generalize hW2 : World.setCell w1 _ _ = W2 at *
  clear hW2 d1 f1
  have d2 := H2.out.ob.at_ 2 _ rfl
  have f2 := H2.out.ob.fz 2 (by simp [tkC])
  obtain ⟨h3, k3⟩ := H2.out.set 2 (.bool true) (by simp [tkC]) (C' := tkC n z true (mV 83 q)) rfl
  have H3 := Lib.hid h3
  have K3 := Lib.hid (Kp.to K2.out k3)
  clear h3 k3
  go_upto_region 2 with (fail)
  generalize hW3 : World.setCell W2 _ _ = W3 at *
  clear hW3 d2 f2
  have d0 : W3.drew.cell? ⟨q, 0, none⟩ = some (.int .i64 n) := H3.out.ob.at_ 0 _ rfl
  have d1 : W3.drew.cell? ⟨q, 1, none⟩ = some (.int .u64 z) := H3.out.ob.at_ 1 _ rfl
  have b0 := H3.out.box.ct n hn
  have bf := H3.out.box.fz (8 + n) (by omega)
  generalize V1.tk n = old at b0
  have b1 : W3.drew.cell? ⟨A.p, 8 + n, none⟩ = some (.int .u64 old) := b0
  have bg : W3.drew.frozen? ⟨A.p, 8 + n, none⟩ = false := bf
  have n0 : (0 : Int) ≤ (n : Int) := by omega
  have n6 : (n : Int) < 64 := by omega
  have hu := HU.out
  have hne := H3.out.ne
  obtain ⟨h4, k4⟩ := H3.out.tkset n hn u
  have H4 := Lib.hid (h4.new (Below.refl _ _).drew)
  have K4 := Lib.hid (Kp.to (Kp.to K3.out k4) (Kp.of (Below.refl _ _).drew))
  clear h4 k4
  go_region_held3 (fun X => X.cell? ⟨q, 0, none⟩ = some (.int .i64 n) ∧ X.cell? ⟨q, 1, none⟩ = some (.int .u64 z))
    (first | exact ⟨by assumption, by assumption⟩ | exact ⟨(World.cell?_setCell_other _ ⟨A.p, 8 + n, none⟩ ⟨q, 0, none⟩ _ (by intro e; injection e with e _; exact hne e)).trans d0, (World.cell?_setCell_other _ ⟨A.p, 8 + n, none⟩ ⟨q, 1, none⟩ _ (by intro e; injection e with e _; exact hne e)).trans d1⟩)
    (fail)
  generalize hW4 : World.drew (World.setCell W3 _ _) = W4 at *
  clear hW4 d0 d1 b0 b1 bf bg hu hne
  have d3 := H4.out.ob.at_ 3 _ rfl
  have f3 := H4.out.ob.fz 3 (by simp [tkC])
  unfold mV at d3
  obtain ⟨h5, k5⟩ := H4.out.set 3 (mV 116 q) (by simp [tkC]) (C' := tkC n z true (mV 116 q)) rfl
  have H5 := Lib.hid h5
  have K5 := Lib.hid (Kp.to K4.out k5)
  clear h5 k5
  go_wp2_with fail
  go_end0
  exact ⟨rfl, H5.out, K5.out⟩
set_option maxHeartbeats 1000000 in
set_option maxRecDepth 100000 in
theorem tk_await_no (h : Opw G w A V q (tkC t tick dr (mV 116 q))) (hc : V.cnt < 1000000000) {s : Int} (hs : V.f 1 = s) (hn : (s != tick) = true) :
    Calls Tryz.prog 116 #[.pointer (some ⟨q, 0, none⟩), .pointer (some ⟨A.p, 0, none⟩)] w fun e w' => e = .returned (.tuple #[]) ∧ Opw G w' A (V.acc V.f 1 1 s s) q (tkC t tick dr (mV 116 q)) ∧ Kp G w w' := by
  subst hs
  have h0 := h.new (Below.refl w.heap.size w).drew
  have c0 : w.drew.cell? ⟨A.p, 0, none⟩ = some (.pointer (some ⟨A.pc, 0, none⟩)) := h.box.c0
  have c1 : w.drew.cell? ⟨q, 1, none⟩ = some (.int .u64 tick) := h.ob.at_ 1 _ rfl
  have C := Lib.hid (h0.load (a := 1) ⟨by decide, by decide⟩ hc)
  generalize V.f 1 = s at *
  clear h h0
  go_enter Tryz.func116, Tryz.ntmps116
  go_wp2_with fail
  go_region_held3 (fun X => X.cell? ⟨A.p, 0, none⟩ = some (.pointer (some ⟨A.pc, 0, none⟩)) ∧ X.cell? ⟨q, 1, none⟩ = some (.int .u64 tick))
    (first | exact ⟨by assumption, by assumption⟩)
    (first
      | (go_at_call 85; ((with_reducible refine C.out.mono ?_); rintro e w1 ⟨rfl, h1, k1⟩; replace c0 := h1.box.c0; replace c1 := h1.ob.at_ 1 _ rfl; have H1 := Lib.hid h1; have K1 := Lib.hid (Kp.to (Kp.of (Below.refl w.heap.size w).drew) k1); clear h1 k1)))
  go_wp2_with fail
  exact bodyPost_ret (v := .tuple #[]) (by simp [results, Tryz.results116, go_sem]) rfl ⟨rfl, H1.out, K1.out⟩
set_option maxHeartbeats 1000000 in
set_option maxRecDepth 100000 in
theorem tk_await {n : Nat} (hn : n < 64) (h : Opw G w A V q (tkC n tick dr (mV 116 q))) (hc : V.cnt < 1000000000) (hs : V.f 1 = tick) :
    Calls Tryz.prog 116 #[.pointer (some ⟨q, 0, none⟩), .pointer (some ⟨A.p, 0, none⟩)] w fun e w' => e = .returned (.tuple #[]) ∧ Opw G w' A (((V.acc V.f 1 1 tick tick).tkset n 0).hset n) q (tkC n tick dr .nilFunc) ∧ Kp G w w' := by
  subst hs
  have h0 := h.new (Below.refl w.heap.size w).drew
  have c0 : w.drew.cell? ⟨A.p, 0, none⟩ = some (.pointer (some ⟨A.pc, 0, none⟩)) := h.box.c0
  have c1 : w.drew.cell? ⟨q, 1, none⟩ = some (.int .u64 (V.f 1)) := h.ob.at_ 1 _ rfl
  have C := Lib.hid (h0.load (a := 1) ⟨by decide, by decide⟩ hc)
  generalize hV1 : V.acc V.f 1 1 (V.f 1) (V.f 1) = V1 at *
  generalize V.f 1 = s at *
  have hss : (s != s) = false := by simp
  clear h h0 hV1
  go_enter Tryz.func116, Tryz.ntmps116
  go_wp2_with fail
  go_region_held3 (fun X => X.cell? ⟨A.p, 0, none⟩ = some (.pointer (some ⟨A.pc, 0, none⟩)) ∧ X.cell? ⟨q, 1, none⟩ = some (.int .u64 s))
    (first | exact ⟨by assumption, by assumption⟩)
    (first
      | (go_at_call 85; ((with_reducible refine C.out.mono ?_); rintro e w1 ⟨rfl, h1, k1⟩; replace c0 := h1.box.c0; replace c1 := h1.ob.at_ 1 _ rfl; have H1 := Lib.hid h1; have K1 := Lib.hid (Kp.to (Kp.of (Below.refl w.heap.size w).drew) k1); clear h1 k1)))
  clear c0 c1 C
  go_upto_region 1 with (fail)
  have d0 : w1.drew.cell? ⟨q, 0, none⟩ = some (.int .i64 n) := H1.out.ob.at_ 0 _ rfl
  have b0 := H1.out.box.ct n hn
  have bf := H1.out.box.fz (8 + n) (by omega)
  generalize V1.tk n = old at b0
  have b1 : w1.drew.cell? ⟨A.p, 8 + n, none⟩ = some (.int .u64 old) := b0
  have bg : w1.drew.frozen? ⟨A.p, 8 + n, none⟩ = false := bf
  have n0 : (0 : Int) ≤ (n : Int) := by omega
  have n6 : (n : Int) < 64 := by omega
  have hne := H1.out.ne
  obtain ⟨h4, k4⟩ := H1.out.tkset n hn 0
  have H4 := Lib.hid (h4.new (Below.refl _ _).drew)
  have K4 := Lib.hid (Kp.to (Kp.to K1.out k4) (Kp.of (Below.refl _ _).drew))
  clear h4 k4
  go_region_held3 (fun X => X.cell? ⟨q, 0, none⟩ = some (.int .i64 n))
    (first | assumption | exact (World.cell?_setCell_other _ ⟨A.p, 8 + n, none⟩ ⟨q, 0, none⟩ _ (by intro e; injection e with e _; exact hne e)).trans d0)
    (fail)
  generalize hW4 : World.drew (World.setCell w1 _ _) = W4 at *
  clear hW4 d0 b0 b1 bf bg hne
  have d0 := H4.out.ob.at_ 0 _ rfl
  have e72 := H4.out.box.ch
  have f72 := H4.out.box.fz 72 (by decide)
  generalize (V1.tkset n 0).h = oh at e72
  obtain ⟨h5, k5⟩ := H4.out.hset n
  have H5 := Lib.hid h5
  have K5 := Lib.hid (Kp.to K4.out k5)
  clear h5 k5
  go_upto_region 3 with (fail)
  generalize hW5 : World.setCell W4 _ _ = W5 at *
  clear hW5 d0 e72 f72
  have d3 := H5.out.ob.at_ 3 _ rfl
  have f3 := H5.out.ob.fz 3 (by simp [tkC])
  unfold mV at d3
  obtain ⟨h6, k6⟩ := H5.out.set 3 .nilFunc (by simp [tkC]) (C' := tkC n s dr .nilFunc) rfl
  have H6 := Lib.hid h6
  have K6 := Lib.hid (Kp.to K5.out k6)
  clear h6 k6
  go_wp2_with fail
  go_end0
  exact ⟨rfl, H6.out, K6.out⟩
end
end Go.Proofs.YtaipbagnkjmddaaGreat
/- Next: Takes and Gives of the lock: steps. -/
namespace Go.Proofs.YtaipbagnkjmddaaGreat
open Go.RowKit Go.Maps
set_option linter.unusedVariables false
/-- What a step leaves. -/
def OpP (G : Nat → Prop) (w : World) (A : Ad) (V : Wv) (q : Nat) (C : List Value) (over : Bool) (e : Ending) (w' : World) : Prop := e = .returned (.bool over) ∧ Opw G w' A V q C ∧ Kp G w w'
section
variable {G : Nat → Prop} {w : World} {A : Ad} {V : Wv} {q : Nat} {t tick : Int} {dr : Bool}
set_option maxHeartbeats 1000000 in
set_option maxRecDepth 100000 in
theorem tk_step1 {n : Nat} (hn : n < 64) (h : Opw G w A V q (tkC n tick dr (mV 83 q))) (hc : V.cnt < 1000000000) {z u : Int} (hz : V.f 0 = z) (hu : IntKind.u64.wrap (z + 1) = u) :
    Calls Tryz.prog 36 #[.pointer (some ⟨q, 0, none⟩), .pointer (some ⟨A.p, 0, none⟩)] w (OpP G w A ((V.acc (upd V.f 0 u) 4 0 z u).tkset n u) q (tkC n z true (mV 116 q)) false) := by
  have C1 := Lib.hid (tk_overn h.ob)
  have C2 := Lib.hid (tk_draw hn h hc hz hu)
  have c3 := h.ob.at_ 3 _ rfl
  unfold mV at c3
  generalize (V.acc (upd V.f 0 u) 4 0 z u).tkset n u = V2 at *
  clear h hz hu
  go_enter Tryz.func36, Tryz.ntmps36
  go_wp2_with (first
    | (go_at_call 34; ((with_reducible refine C1.out.mono ?_); rintro e w1 ⟨rfl, rfl⟩))
    | (go_at_call 83; refine C2.out.mono ?_; rintro e w2 ⟨rfl, h2, k2⟩; have C1 := Lib.hid (tk_overn h2.ob); have H2 := Lib.hid h2; have K2 := Lib.hid k2; clear h2 k2 c3))
  go_ret
  exact ⟨rfl, H2.out, K2.out⟩
set_option maxHeartbeats 1000000 in
set_option maxRecDepth 100000 in
theorem tk_step2n (h : Opw G w A V q (tkC t tick dr (mV 116 q))) (hc : V.cnt < 1000000000) {s : Int} (hs : V.f 1 = s) (hn : (s != tick) = true) :
    Calls Tryz.prog 36 #[.pointer (some ⟨q, 0, none⟩), .pointer (some ⟨A.p, 0, none⟩)] w (OpP G w A (V.acc V.f 1 1 s s) q (tkC t tick dr (mV 116 q)) false) := by
  have C1 := Lib.hid (tk_overn h.ob)
  have C2 := Lib.hid (tk_await_no h hc hs hn)
  have c3 := h.ob.at_ 3 _ rfl
  unfold mV at c3
  generalize V.acc V.f 1 1 s s = V2 at *
  clear h hs hn
  go_enter Tryz.func36, Tryz.ntmps36
  go_wp2_with (first
    | (go_at_call 34; ((with_reducible refine C1.out.mono ?_); rintro e w1 ⟨rfl, rfl⟩))
    | (go_at_call 116; refine C2.out.mono ?_; rintro e w2 ⟨rfl, h2, k2⟩; have C1 := Lib.hid (tk_overn h2.ob); have H2 := Lib.hid h2; have K2 := Lib.hid k2; clear h2 k2 c3))
  go_ret
  exact ⟨rfl, H2.out, K2.out⟩
set_option maxHeartbeats 1000000 in
set_option maxRecDepth 100000 in
theorem tk_step2 {n : Nat} (hn : n < 64) (h : Opw G w A V q (tkC n tick dr (mV 116 q))) (hc : V.cnt < 1000000000) (hs : V.f 1 = tick) :
    Calls Tryz.prog 36 #[.pointer (some ⟨q, 0, none⟩), .pointer (some ⟨A.p, 0, none⟩)] w (OpP G w A (((V.acc V.f 1 1 tick tick).tkset n 0).hset n) q (tkC n tick dr .nilFunc) true) := by
  have C1 := Lib.hid (tk_overn h.ob)
  have C2 := Lib.hid (tk_await hn h hc hs)
  have c3 := h.ob.at_ 3 _ rfl
  unfold mV at c3
  generalize ((V.acc V.f 1 1 tick tick).tkset n 0).hset n = V2 at *
  clear h hs
  go_enter Tryz.func36, Tryz.ntmps36
  go_wp2_with (first
    | (go_at_call 34; first | ((with_reducible refine C1.out.mono ?_); rintro e w1 ⟨rfl, rfl⟩) | (refine C3.out.mono ?_; rintro e w1 ⟨rfl, rfl⟩))
    | (go_at_call 116; refine C2.out.mono ?_; rintro e w2 ⟨rfl, h2, k2⟩; have C3 := Lib.hid (tk_over h2.ob); have H2 := Lib.hid h2; have K2 := Lib.hid k2; clear h2 k2 c3 C1))
  go_ret
  exact ⟨rfl, H2.out, K2.out⟩
/-- Nothing is done by one that is over. -/
theorem tk_step0 (h : Ob w q (tkC t tick dr .nilFunc)) (x : Value) : Calls Tryz.prog 36 #[.pointer (some ⟨q, 0, none⟩), x] w fun e w' => e = .returned (.bool true) ∧ w = w' := by
  have C1 := Lib.hid (tk_over h)
  clear h
  go_enter Tryz.func36, Tryz.ntmps36
  go_wp2_with (go_at_call 34; ((with_reducible refine C1.out.mono ?_); rintro e w1 ⟨rfl, rfl⟩))
  go_ret
  exact ⟨rfl, rfl⟩
theorem tk_step_nil (x : Value) (w : World) : Calls Tryz.prog 36 #[.pointer none, x] w fun e w' => e = .returned (.bool true) ∧ w = w' := by
  have C1 := Lib.hid (tk_over_nil w)
  go_enter Tryz.func36, Tryz.ntmps36
  go_wp2_with (go_at_call 34; ((with_reducible refine C1.out.mono ?_); rintro e w1 ⟨rfl, rfl⟩))
  go_ret
  exact ⟨rfl, rfl⟩
theorem tk_step_no {f : FuncId} (h : Ob w q (tkC t tick dr (mV f q))) : Calls Tryz.prog 36 #[.pointer (some ⟨q, 0, none⟩), .pointer none] w fun e w' => e = .returned (.bool false) ∧ w = w' := by
  have C1 := Lib.hid (tk_overn h)
  clear h
  go_enter Tryz.func36, Tryz.ntmps36
  go_wp2_with (go_at_call 34; ((with_reducible refine C1.out.mono ?_); rintro e w1 ⟨rfl, rfl⟩))
  go_ret
  exact ⟨rfl, rfl⟩
end
end Go.Proofs.YtaipbagnkjmddaaGreat
/- Next: Gives of the lock; who waits. -/
namespace Go.Proofs.YtaipbagnkjmddaaGreat
open Go.RowKit Go.Maps
set_option linter.unusedVariables false
theorem newGive (w : World) : Calls Tryz.prog 86 #[] w fun e w' => e = .returned (.pointer (some ⟨w.heap.size, 0, none⟩)) ∧ Ob w' w.heap.size [mV 118 w.heap.size] ∧ Below w.heap.size w w' := by
  go_enter Tryz.func86, Tryz.ntmps86
  go_wp2_with fail
  go_ret
  exact ⟨rfl, ob_new rfl, (Below.refl _ _).alloc (Nat.le_refl _) _⟩
theorem gv_over_nil (w : World) : Calls Tryz.prog 119 #[.pointer none] w fun e w' => e = .returned (.bool true) ∧ w = w' := by
  go_enter Tryz.func119, Tryz.ntmps119
  go_wp2_with fail
  go_ret
  exact ⟨rfl, rfl⟩
section
variable {G : Nat → Prop} {w : World} {A : Ad} {V : Wv} {q : Nat}
set_option maxRecDepth 100000 in
theorem gv_over (h : Ob w q [.nilFunc]) : Calls Tryz.prog 119 #[.pointer (some ⟨q, 0, none⟩)] w fun e w' => e = .returned (.bool true) ∧ w = w' := by
  have hq : ∀ W, (binOp .eql 62 .nilFunc .nilFunc).run Tryz.prog W = .ok (.bool true) W := fun W => by kernel_rfl
  have c3 := h.at_ 0 _ rfl
  clear h
  go_enter Tryz.func119, Tryz.ntmps119
  go_wp2_with fail
  go_ret
  exact ⟨rfl, rfl⟩
set_option maxRecDepth 100000 in
theorem gv_overn {f : FuncId} (h : Ob w q [mV f q]) : Calls Tryz.prog 119 #[.pointer (some ⟨q, 0, none⟩)] w fun e w' => e = .returned (.bool false) ∧ w = w' := by
  have c3 := h.at_ 0 _ rfl
  unfold mV at c3
  have hq : ∀ W, (binOp .eql 62 (.func (.func f) #[.pointer (some ⟨q, 0, none⟩)] #[]) .nilFunc).run Tryz.prog W = .ok (.bool false) W := fun W => by kernel_rfl
  clear h
  go_enter Tryz.func119, Tryz.ntmps119
  go_wp2_with fail
  go_ret
  exact ⟨rfl, rfl⟩
set_option maxHeartbeats 1000000 in
set_option maxRecDepth 100000 in
theorem gv_serve (h : Opw G w A V q [mV 118 q]) (hc : V.cnt < 1000000000) {z u : Int} (hz : V.f 1 = z) (hu : IntKind.u64.wrap (z + 1) = u) :
    Calls Tryz.prog 118 #[.pointer (some ⟨q, 0, none⟩), .pointer (some ⟨A.p, 0, none⟩)] w fun e w' => e = .returned (.tuple #[]) ∧ Opw G w' A ((V.acc (upd V.f 1 u) 4 1 z u).hset (-1)) q [.nilFunc] ∧ Kp G w w' := by
  have c0 := h.box.c0
  subst hz
  have C := Lib.hid (h.add (a := 1) (v := 1) ⟨by decide, by decide⟩ hc hu)
  generalize hz : V.f 1 = z at *
  generalize hV1 : V.acc (upd V.f 1 u) 4 1 z u = V1 at *
  clear hV1 h hz hu
  go_enter Tryz.func118, Tryz.ntmps118
  go_wp2_with fail
  refine C.out.mono ?_
  rintro e w1 ⟨rfl, h1, k1⟩
  have e72 := h1.box.ch
  have f72 := h1.box.fz 72 (by decide)
  generalize V1.h = oh at e72
  obtain ⟨h2, k2⟩ := h1.hset (-1)
  have H2 := Lib.hid h2
  have K2 := Lib.hid (Kp.to k1 k2)
  clear h1 k1 h2 k2 c0 C
  go_upto_region 2 with (fail)
  generalize hW2 : World.setCell w1 _ _ = W2 at *
  clear hW2 e72 f72
  have d3 := H2.out.ob.at_ 0 _ rfl
  have f3 := H2.out.ob.fz 0 (by simp)
  unfold mV at d3
  obtain ⟨h3, k3⟩ := H2.out.set 0 .nilFunc (by simp) (C' := [.nilFunc]) rfl
  have H3 := Lib.hid h3
  have K3 := Lib.hid (Kp.to K2.out k3)
  clear h3 k3
  go_wp2_with fail
  go_end0
  exact ⟨rfl, H3.out, K3.out⟩
set_option maxHeartbeats 1000000 in
set_option maxRecDepth 100000 in
theorem gv_step (h : Opw G w A V q [mV 118 q]) (hc : V.cnt < 1000000000) {z u : Int} (hz : V.f 1 = z) (hu : IntKind.u64.wrap (z + 1) = u) :
    Calls Tryz.prog 88 #[.pointer (some ⟨q, 0, none⟩), .pointer (some ⟨A.p, 0, none⟩)] w (OpP G w A ((V.acc (upd V.f 1 u) 4 1 z u).hset (-1)) q [.nilFunc] true) := by
  have C1 := Lib.hid (gv_overn h.ob)
  have C2 := Lib.hid (gv_serve h hc hz hu)
  have c3 := h.ob.at_ 0 _ rfl
  unfold mV at c3
  generalize (V.acc (upd V.f 1 u) 4 1 z u).hset (-1) = V2 at *
  clear h hz hu
  go_enter Tryz.func88, Tryz.ntmps88
  go_wp2_with (first
    | (go_at_call 119; first | ((with_reducible refine C1.out.mono ?_); rintro e w1 ⟨rfl, rfl⟩) | (refine C3.out.mono ?_; rintro e w1 ⟨rfl, rfl⟩))
    | (go_at_call 118; refine C2.out.mono ?_; rintro e w2 ⟨rfl, h2, k2⟩; have C3 := Lib.hid (gv_over h2.ob); have H2 := Lib.hid h2; have K2 := Lib.hid k2; clear h2 k2 c3 C1))
  go_ret
  exact ⟨rfl, H2.out, K2.out⟩
theorem gv_step0 (h : Ob w q [.nilFunc]) (x : Value) : Calls Tryz.prog 88 #[.pointer (some ⟨q, 0, none⟩), x] w fun e w' => e = .returned (.bool true) ∧ w = w' := by
  have C1 := Lib.hid (gv_over h)
  clear h
  go_enter Tryz.func88, Tryz.ntmps88
  go_wp2_with (go_at_call 119; ((with_reducible refine C1.out.mono ?_); rintro e w1 ⟨rfl, rfl⟩))
  go_ret
  exact ⟨rfl, rfl⟩
theorem gv_step_nil (x : Value) (w : World) : Calls Tryz.prog 88 #[.pointer none, x] w fun e w' => e = .returned (.bool true) ∧ w = w' := by
  have C1 := Lib.hid (gv_over_nil w)
  go_enter Tryz.func88, Tryz.ntmps88
  go_wp2_with (go_at_call 119; ((with_reducible refine C1.out.mono ?_); rintro e w1 ⟨rfl, rfl⟩))
  go_ret
  exact ⟨rfl, rfl⟩
theorem gv_step_no {f : FuncId} (h : Ob w q [mV f q]) : Calls Tryz.prog 88 #[.pointer (some ⟨q, 0, none⟩), .pointer none] w fun e w' => e = .returned (.bool false) ∧ w = w' := by
  have C1 := Lib.hid (gv_overn h)
  clear h
  go_enter Tryz.func88, Tryz.ntmps88
  go_wp2_with (go_at_call 119; ((with_reducible refine C1.out.mono ?_); rintro e w1 ⟨rfl, rfl⟩))
  go_ret
  exact ⟨rfl, rfl⟩
end
end Go.Proofs.YtaipbagnkjmddaaGreat
