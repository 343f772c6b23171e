/- Worlds: steps, full, grows, tick. -/
import Derived.Test.YthlebfiedejhhaaGreatWd2
import Derived.Test.YthlebfiedejhhaaGreatGEp
import Derived.Deep.QuietTactic
import Derived.BigQuiet
namespace Go.Proofs.YthlebfiedejhhaaGreat
open Go.RowKit Go.Maps
set_option linter.unusedVariables false

theorem belowWd {B : Nat} {a w : World} (h : Below B a w) (n : Nat) : Below B a (w.drewN n) := by
  induction n with
  | zero => exact h
  | succ n ih => exact ih.drew
theorem wsteps {w : World} {A : Ad} {V : Wv} {S : Nat → Prop} (h : Wd w A V S) :
    Calls Tryz.prog 56 #[.pointer (some ⟨A.p, 0, none⟩)] w fun e w' => e = .returned (.int .i64 V.cnt) ∧ w = w' := by
  have c0 := h.box.c0
  have C := Lib.hid (wcount h)
  clear h
  go_enter Tryz.func56, Tryz.ntmps56
  go_wp2_with fail
  refine C.out.mono ?_
  rintro e w' ⟨rfl, rfl⟩
  go_wp2_with fail
  go_ret
  exact ⟨rfl, rfl⟩
set_option maxHeartbeats 1000000 in
set_option maxRecDepth 100000 in
theorem wfull {w : World} {A : Ad} {V : Wv} {S : Nat → Prop} (h : Wd w A V S) (hb : 0 ≤ V.c.budget) (hb2 : V.c.budget ≤ 9223372036854775807) :
    Calls Tryz.prog 75 #[.pointer (some ⟨A.p, 0, none⟩)] w fun e w' => e = .returned (.bool (decide (V.c.budget ≤ V.f 6))) ∧ Below w.heap.size w w' := by
  have c0 := h.box.c0
  have c4 := h.box.c4
  obtain ⟨u1, u2⟩ := h.rng (a := 6) ⟨by decide, by decide⟩
  have CDD := Lib.hid (wpeek (h.new (Below.refl w.heap.size w).drew) (a := 6) ⟨by decide, by decide⟩)
  clear h
  generalize V.f 6 = z at *
  generalize V.c.budget = b at *
  have hbn : decide (b < 0) = false := decide_eq_false (by omega)
  go_enter Tryz.func75, Tryz.ntmps75
  go_wp2_with fail
  have c4d : w.drew.cell? ⟨A.p, 4, none⟩ = some (.int .i64 b) := c4
  have CD : Hid (Calls Tryz.prog 35 #[.pointer (some ⟨A.pc, 0, none⟩), .int .u64 6] w.drew fun e w' => e = .returned (.int .u64 z) ∧ w.drew = w') := CDD
  go_region_held3 (fun w' => w'.cell? ⟨A.p, 4, none⟩ = some (.int .i64 b))
    (first | assumption)
    (first
      | (go_at_call 35; ((with_reducible refine CD.out.mono ?_); rintro e w2 ⟨rfl, rfl⟩)))
  clear c4 c4d
  go_wp2_with fail
  go_ret
  have hwb : IntKind.u64.wrap b = b := by rw [IntKind.wrap_u64]; omega
  exact ⟨ret_bool (a := decide (IntKind.u64.wrap b ≤ z)) (by rw [hwb]), (Below.refl _ _).drew⟩
/-- May the tables grow? -/
def growsF (V : Wv) : Bool := (asN (V.f 2) == 0) && mayf V.c.bits V.c.budget (asO (V.f 2))
set_option maxHeartbeats 1000000 in
set_option maxRecDepth 100000 in
theorem wgrows {w : World} {A : Ad} {V : Wv} {S : Nat → Prop} (h : Wd w A V S) :
    Calls Tryz.prog 57 #[.pointer (some ⟨A.p, 0, none⟩)] w fun e w' => e = .returned (.bool (growsF V)) ∧ Below w.heap.size w w' := by
  have c0 := h.box.c0
  have c3 := h.box.c3
  have c4 := h.box.c4
  have hlt := h.box.lt
  obtain ⟨u1, u2⟩ := h.rng (a := 2) ⟨by decide, by decide⟩
  have C := Lib.hid (wpeek h (a := 2) ⟨by decide, by decide⟩)
  have CA := Lib.hid (fun W => asw (V.f 2) W u1 (by omega))
  unfold growsF
  clear h
  generalize V.f 2 = z at *
  generalize V.c.budget = b at *
  generalize V.c.bits = f at *
  generalize asO z = o at *
  generalize asN z = m at *
  by_cases hm : m = 0
  · have hmb : (m == 0) = true := by simpa using hm
    have e1 : (m == 0 && mayf f b o) = mayf f b o := by rw [hmb]; rfl
    rw [e1]
    clear e1 hm
    generalize hr : mayf f b o = r
    have CM := Lib.hid (fun W => mayw f b o W)
    rw [hr] at CM
    clear hr
    go_enter Tryz.func57, Tryz.ntmps57
    go_wp2_with fail
    refine C.out.mono ?_
    rintro e w' ⟨rfl, rfl⟩
    go_wp2_with fail
    refine (CA.out _).mono ?_
    rintro e w1 ⟨rfl, K1⟩
    replace c3 := (K1.cell (p := ⟨A.p, 3, none⟩) hlt).trans c3
    replace c4 := (K1.cell (p := ⟨A.p, 4, none⟩) hlt).trans c4
    have HK := Lib.hid K1
    clear K1 c0
    go_wp2_with fail
    go_quiet ((go_at_call 127; exact quiet_left (CM.out _)))
    go_wp2_with fail
    go_ret
    exact ⟨rfl, belowWd HK.out nq⟩
  · have hmb : (m == 0) = false := by simpa using hm
    have e1 : (m == 0 && mayf f b o) = false := by rw [hmb]; rfl
    rw [e1]
    clear e1 hm
    go_enter Tryz.func57, Tryz.ntmps57
    go_wp2_with fail
    refine C.out.mono ?_
    rintro e w' ⟨rfl, rfl⟩
    go_wp2_with fail
    refine (CA.out _).mono ?_
    rintro e w1 ⟨rfl, K1⟩
    have HK := Lib.hid K1
    clear K1 c0 c3 c4
    go_wp2_with fail
    go_quiet (fail)
    go_wp2_with fail
    go_ret
    exact ⟨rfl, belowWd HK.out nq⟩
theorem isU_tick (x : Int) : isU (tickf x) := by
  obtain ⟨⟨a1, a2⟩, ⟨a3, a4⟩, ⟨a5, a6⟩⟩ := ep_range x
  unfold tickf
  generalize nowf x = n at *
  generalize atf x = a at *
  generalize genf x = g at *
  unfold putf isU
  split <;> split <;> (try split) <;> constructor <;> omega
set_option maxHeartbeats 1000000 in
set_option maxRecDepth 100000 in
theorem wtick {w : World} {A : Ad} {V : Wv} {S : Nat → Prop} (h : Wd w A V S) (hc : V.cnt < 1000000000) :
    Calls Tryz.prog 58 #[.pointer (some ⟨A.p, 0, none⟩)] w fun e w' => e = .returned (.tuple #[]) ∧ WdPost w A (V.acc (upd V.f 8 (tickf (V.f 8))) 3 8 (V.f 8) (tickf (V.f 8))) S w' := by
  have c0 := h.box.c0
  have hlt := h.box.lt
  obtain ⟨u1, u2⟩ := h.rng (a := 8) ⟨by decide, by decide⟩
  have C := Lib.hid (wpeek h (a := 8) ⟨by decide, by decide⟩)
  have CT := Lib.hid (fun W => tickw (V.f 8) W u1 (by omega))
  have CC : Hid (∀ W, Below w.heap.size w W → Calls Tryz.prog 128 #[.pointer (some ⟨A.pc, 0, none⟩), .int .u64 8, .int .u64 (V.f 8), .int .u64 (tickf (V.f 8))] W fun e w' => e = .returned (.tuple #[.int .u64 (V.f 8), .bool true]) ∧ WdPost W A (V.acc (upd V.f 8 (tickf (V.f 8))) 3 8 (V.f 8) (tickf (V.f 8))) S w') :=
    Lib.hid (fun W hb => wcas (h.new hb) (a := 8) ⟨by decide, by decide⟩ (isU_tick _) hc (r := true) (by simp))
  clear h
  generalize V.acc _ _ _ _ _ = V' at *
  generalize tickf (V.f 8) = t at *
  generalize V.f 8 = z at *
  go_enter Tryz.func58, Tryz.ntmps58
  go_wp2_with fail
  refine C.out.mono ?_
  rintro e w' ⟨rfl, rfl⟩
  go_wp2_with fail
  have c0d : w.drew.cell? ⟨A.p, 0, none⟩ = some (.pointer (some ⟨A.pc, 0, none⟩)) := c0
  go_region_held3 (fun w' => w'.cell? ⟨A.p, 0, none⟩ = some (.pointer (some ⟨A.pc, 0, none⟩)))
    (first | assumption)
    (first
      | (go_at_call 129; ((with_reducible refine (CT.out _).mono ?_); rintro e w1 ⟨rfl, K1⟩; have hK := ((Below.refl w.heap.size w).drew.trans K1); replace c0 := (hK.cell (p := ⟨A.p, 0, none⟩) hlt).trans c0; have C2 := Lib.hid (CC.out _ hK); have HK := Lib.hid hK; clear K1 hK c0d))
      | (go_at_call 128; ((with_reducible refine C2.out.mono ?_); rintro e w2 ⟨rfl, S', ht, hw⟩; have HT := Lib.hid ht; have HW := Lib.hid hw; replace c0 := hw.box.c0; clear C2 ht hw)))
  clear c0
  go_wp2_with fail
  go_end0
  exact ⟨rfl, S', Turn.after HK.out HT.out, HW.out⟩
end Go.Proofs.YthlebfiedejhhaaGreat
