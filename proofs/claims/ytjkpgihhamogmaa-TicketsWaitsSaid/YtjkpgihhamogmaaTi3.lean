/- Gives of the lock; who waits. -/
import Derived.Test.YtjkpgihhamogmaaTi2
namespace Go.Proofs.Ytjkpgihhamogmaa
open Go.RowKit Go.Maps
set_option linter.unusedVariables false
theorem newGive (w : World) : Calls Try.prog 16 #[] w fun e w' => e = .returned (.pointer (some ⟨w.heap.size, 0, none⟩)) ∧ Ob w' w.heap.size [mV 40 w.heap.size] ∧ Below w.heap.size w w' := by
  go_enter Try.func16, Try.ntmps16
  go_wp2_with fail
  go_ret
  exact ⟨rfl, ob_new rfl, (Below.refl _ _).alloc (Nat.le_refl _) _⟩
theorem gv_over_nil (w : World) : Calls Try.prog 41 #[.pointer none] w fun e w' => e = .returned (.bool true) ∧ w = w' := by
  go_enter Try.func41, Try.ntmps41
  go_wp2_with fail
  go_ret
  exact ⟨rfl, rfl⟩
section
variable {G : Nat → Prop} {w : World} {A : Ad} {V : Wv} {q : Nat}
set_option maxRecDepth 100000 in
theorem gv_over (h : Ob w q [.nilFunc]) : Calls Try.prog 41 #[.pointer (some ⟨q, 0, none⟩)] w fun e w' => e = .returned (.bool true) ∧ w = w' := by
  have hq : ∀ W, (binOp .eql 87 .nilFunc .nilFunc).run Try.prog W = .ok (.bool true) W := fun W => by kernel_rfl
  have c3 := h.at_ 0 _ rfl
  clear h
  go_enter Try.func41, Try.ntmps41
  go_wp2_with fail
  go_ret
  exact ⟨rfl, rfl⟩
set_option maxRecDepth 100000 in
theorem gv_overn {f : FuncId} (h : Ob w q [mV f q]) : Calls Try.prog 41 #[.pointer (some ⟨q, 0, none⟩)] w fun e w' => e = .returned (.bool false) ∧ w = w' := by
  have c3 := h.at_ 0 _ rfl
  unfold mV at c3
  have hq : ∀ W, (binOp .eql 87 (.func (.func f) #[.pointer (some ⟨q, 0, none⟩)] #[]) .nilFunc).run Try.prog W = .ok (.bool false) W := fun W => by kernel_rfl
  clear h
  go_enter Try.func41, Try.ntmps41
  go_wp2_with fail
  go_ret
  exact ⟨rfl, rfl⟩
set_option maxHeartbeats 1000000 in
set_option maxRecDepth 100000 in
theorem gv_serve (h : Opw G w A V q [mV 40 q]) (hc : V.cnt < 1000000000) {z u : Int} (hz : V.f 1 = z) (hu : IntKind.u64.wrap (z + 1) = u) :
    Calls Try.prog 40 #[.pointer (some ⟨q, 0, none⟩), .pointer (some ⟨A.p, 0, none⟩)] w fun e w' => e = .returned (.tuple #[]) ∧ Opw G w' A ((V.acc (upd V.f 1 u) 4 1 z u).hset (-1)) q [.nilFunc] ∧ Kp G w w' := by
  have c0 := h.box.c0
  subst hz
  have C := Lib.hid (h.add (a := 1) (v := 1) ⟨by decide, by decide⟩ hc hu)
  generalize hz : V.f 1 = z at *
  generalize hV1 : V.acc (upd V.f 1 u) 4 1 z u = V1 at *
  clear hV1 h hz hu
  go_enter Try.func40, Try.ntmps40
  go_wp2_with fail
  refine C.out.mono ?_
  rintro e w1 ⟨rfl, h1, k1⟩
  have e72 := h1.box.ch
  have f72 := h1.box.fz 72 (by decide)
  generalize V1.h = oh at e72
  obtain ⟨h2, k2⟩ := h1.hset (-1)
  have H2 := Lib.hid h2
  have K2 := Lib.hid (Kp.to k1 k2)
  clear h1 k1 h2 k2 c0 C
  go_upto_region 2 with (fail)
  generalize hW2 : World.setCell w1 _ _ = W2 at *
  clear hW2 e72 f72
  have d3 := H2.out.ob.at_ 0 _ rfl
  have f3 := H2.out.ob.fz 0 (by simp)
  unfold mV at d3
  obtain ⟨h3, k3⟩ := H2.out.set 0 .nilFunc (by simp) (C' := [.nilFunc]) rfl
  have H3 := Lib.hid h3
  have K3 := Lib.hid (Kp.to K2.out k3)
  clear h3 k3
  go_wp2_with fail
  go_end0
  exact ⟨rfl, H3.out, K3.out⟩
set_option maxHeartbeats 1000000 in
set_option maxRecDepth 100000 in
theorem gv_step (h : Opw G w A V q [mV 40 q]) (hc : V.cnt < 1000000000) {z u : Int} (hz : V.f 1 = z) (hu : IntKind.u64.wrap (z + 1) = u) :
    Calls Try.prog 17 #[.pointer (some ⟨q, 0, none⟩), .pointer (some ⟨A.p, 0, none⟩)] w (OpP G w A ((V.acc (upd V.f 1 u) 4 1 z u).hset (-1)) q [.nilFunc] true) := by
  have C1 := Lib.hid (gv_overn h.ob)
  have C2 := Lib.hid (gv_serve h hc hz hu)
  have c3 := h.ob.at_ 0 _ rfl
  unfold mV at c3
  generalize (V.acc (upd V.f 1 u) 4 1 z u).hset (-1) = V2 at *
  clear h hz hu
  go_enter Try.func17, Try.ntmps17
  go_wp2_with (first
    | (go_at_call 41; first | ((with_reducible refine C1.out.mono ?_); rintro e w1 ⟨rfl, rfl⟩) | (refine C3.out.mono ?_; rintro e w1 ⟨rfl, rfl⟩))
    | (go_at_call 40; refine C2.out.mono ?_; rintro e w2 ⟨rfl, h2, k2⟩; have C3 := Lib.hid (gv_over h2.ob); have H2 := Lib.hid h2; have K2 := Lib.hid k2; clear h2 k2 c3 C1))
  go_ret
  exact ⟨rfl, H2.out, K2.out⟩
theorem gv_step0 (h : Ob w q [.nilFunc]) (x : Value) : Calls Try.prog 17 #[.pointer (some ⟨q, 0, none⟩), x] w fun e w' => e = .returned (.bool true) ∧ w = w' := by
  have C1 := Lib.hid (gv_over h)
  clear h
  go_enter Try.func17, Try.ntmps17
  go_wp2_with (go_at_call 41; ((with_reducible refine C1.out.mono ?_); rintro e w1 ⟨rfl, rfl⟩))
  go_ret
  exact ⟨rfl, rfl⟩
theorem gv_step_nil (x : Value) (w : World) : Calls Try.prog 17 #[.pointer none, x] w fun e w' => e = .returned (.bool true) ∧ w = w' := by
  have C1 := Lib.hid (gv_over_nil w)
  go_enter Try.func17, Try.ntmps17
  go_wp2_with (go_at_call 41; ((with_reducible refine C1.out.mono ?_); rintro e w1 ⟨rfl, rfl⟩))
  go_ret
  exact ⟨rfl, rfl⟩
theorem gv_step_no {f : FuncId} (h : Ob w q [mV f q]) : Calls Try.prog 17 #[.pointer (some ⟨q, 0, none⟩), .pointer none] w fun e w' => e = .returned (.bool false) ∧ w = w' := by
  have C1 := Lib.hid (gv_overn h)
  clear h
  go_enter Try.func17, Try.ntmps17
  go_wp2_with (go_at_call 41; ((with_reducible refine C1.out.mono ?_); rintro e w1 ⟨rfl, rfl⟩))
  go_ret
  exact ⟨rfl, rfl⟩
end
theorem waits_nil (t : Int) (w : World) : Calls Try.prog 12 #[.pointer none, .int .i64 t] w fun e w' => e = .returned (.bool false) ∧ w = w' := by
  go_enter Try.func12, Try.ntmps12
  go_wp2_with fail
  go_ret
  exact ⟨rfl, rfl⟩
theorem waits_no (p : Nat) (t : Int) (ht : decide (0 ≤ t ∧ t < 64) = false) (w : World) : Calls Try.prog 12 #[.pointer (some ⟨p, 0, none⟩), .int .i64 t] w fun e w' => e = .returned (.bool false) ∧ w = w' := by
  have CT := isThread t w
  rw [ht] at CT
  have C := Lib.hid CT
  clear CT ht
  go_enter Try.func12, Try.ntmps12
  go_wp2_with (go_at_call 35; ((with_reducible refine C.out.mono ?_); rintro e w1 ⟨rfl, rfl⟩))
  go_ret
  exact ⟨rfl, rfl⟩
set_option maxHeartbeats 1000000 in
set_option maxRecDepth 100000 in
theorem waits {w : World} {A : Ad} {V : Wv} {S : Nat → Prop} {n : Nat} (hn : n < 64) (h : Wd w A V S) {v s u : Int} {b : Bool} (hv : V.tk n = v) (h0 : (v == 0) = false) (hu : IntKind.u64.wrap (v - 1) = u) (hs : V.f 1 = s) (hb : (u != s) = b) :
    Calls Try.prog 12 #[.pointer (some ⟨A.p, 0, none⟩), .int .i64 n] w fun e w' => e = .returned (.bool b) ∧ Below w.heap.size w w' := by
  have CT := isThread n w
  rw [show decide ((0 : Int) ≤ n ∧ (n : Int) < 64) = true from decide_eq_true ⟨by omega, by omega⟩] at CT
  have C := Lib.hid CT
  have b0 : w.cell? ⟨A.p, 8 + n, none⟩ = some (.int .u64 v) := hv ▸ h.box.ct n hn
  have b1 : w.drew.cell? ⟨A.p, 8 + n, none⟩ = some (.int .u64 v) := b0
  have c0 : w.drew.cell? ⟨A.p, 0, none⟩ = some (.pointer (some ⟨A.pc, 0, none⟩)) := h.box.c0
  have CP := wpeek (h.new (Below.refl w.heap.size w).drew) (a := 1) ⟨by decide, by decide⟩
  rw [hs] at CP
  have C2 := Lib.hid CP
  have n0 : (0 : Int) ≤ (n : Int) := by omega
  have n6 : (n : Int) < 64 := by omega
  have v0 : decide (v = 0) = false := by simpa using h0
  clear CT CP h hv hs
  go_enter Try.func12, Try.ntmps12
  go_wp2_with (go_at_call 35; ((with_reducible refine C.out.mono ?_); rintro e w1 ⟨rfl, rfl⟩))
  go_region_held3 (fun X => X.cell? ⟨A.p, 0, none⟩ = some (.pointer (some ⟨A.pc, 0, none⟩)) ∧ X.cell? ⟨A.p, 8 + n, none⟩ = some (.int .u64 v))
    (first | exact ⟨by assumption, by assumption⟩)
    (first
      | (go_at_call 14; ((with_reducible refine C2.out.mono ?_); rintro e w1 ⟨rfl, rfl⟩)))
  all_goals
    go_wp2_with fail
    go_ret
    exact ⟨rfl, (Below.refl _ _).drew⟩
end Go.Proofs.Ytjkpgihhamogmaa
