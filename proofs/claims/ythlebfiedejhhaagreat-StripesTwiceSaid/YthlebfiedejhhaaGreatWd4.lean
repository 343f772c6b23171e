/- The examples of chapter 10. -/
import Derived.Test.YthlebfiedejhhaaGreatWd3
namespace Go.Proofs.YthlebfiedejhhaaGreat
open Go.RowKit Go.Maps
set_option linter.unusedVariables false

theorem WdB.new {w W : World} {A : Ad} {V : Wv} {B : Nat} (h : WdB w A V B) (hk : Below w.heap.size w W) : WdB W A V B := by
  obtain ⟨S, h1, h2⟩ := h
  exact ⟨S, h1.new hk, h2⟩
theorem WdB.box {w : World} {A : Ad} {V : Wv} {B : Nat} (h : WdB w A V B) : IsBox w A V.c V.tk V.h := by
  obtain ⟨S, h1, h2⟩ := h
  exact h1.box
theorem WdB.post {w w' : World} {A : Ad} {V V' : Wv} {B : Nat} {S : Nat → Prop} (hS : ∀ k, S k → B ≤ k) (hB : B ≤ w.heap.size) (hp : WdPost w A V' S w') : WdB w' A V' B ∧ Below B w w' := by
  obtain ⟨S', t, q⟩ := hp
  obtain ⟨b1, b2⟩ := t.to_below hS hB
  exact ⟨⟨S', q, b2⟩, b1⟩
theorem bload {w : World} {A : Ad} {V : Wv} {B : Nat} (h : WdB w A V B) (hB : B ≤ w.heap.size) {a : Int} (ha : isU a) (hc : V.cnt < 1000000000) :
    Calls Tryz.prog 72 #[.pointer (some ⟨A.pc, 0, none⟩), .int .u64 a] w fun e w' => e = .returned (.int .u64 (V.f a)) ∧ WdB w' A (V.acc V.f 1 a (V.f a) (V.f a)) B ∧ Below B w w' := by
  obtain ⟨S, h1, h2⟩ := h
  exact (wload h1 ha hc).mono fun e w' ⟨he, hp⟩ => ⟨he, WdB.post (V := V) h2 hB hp⟩
theorem bstore {w : World} {A : Ad} {V : Wv} {B : Nat} (h : WdB w A V B) (hB : B ≤ w.heap.size) {a v : Int} (ha : isU a) (hv : isU v) (hc : V.cnt < 1000000000) :
    Calls Tryz.prog 87 #[.pointer (some ⟨A.pc, 0, none⟩), .int .u64 a, .int .u64 v] w fun e w' => e = .returned (.int .u64 (V.f a)) ∧ WdB w' A (V.acc (upd V.f a v) 2 a (V.f a) v) B ∧ Below B w w' := by
  obtain ⟨S, h1, h2⟩ := h
  exact (wstore h1 ha hv hc).mono fun e w' ⟨he, hp⟩ => ⟨he, WdB.post (V := V) h2 hB hp⟩
theorem badd {w : World} {A : Ad} {V : Wv} {B : Nat} (h : WdB w A V B) (hB : B ≤ w.heap.size) {a v : Int} (ha : isU a) (hc : V.cnt < 1000000000) :
    Calls Tryz.prog 98 #[.pointer (some ⟨A.pc, 0, none⟩), .int .u64 a, .int .u64 v] w fun e w' => e = .returned (.int .u64 (V.f a)) ∧ WdB w' A (V.acc (upd V.f a (IntKind.u64.wrap (V.f a + v))) 4 a (V.f a) (IntKind.u64.wrap (V.f a + v))) B ∧ Below B w w' := by
  obtain ⟨S, h1, h2⟩ := h
  exact (wadd h1 ha hc).mono fun e w' ⟨he, hp⟩ => ⟨he, WdB.post (V := V) h2 hB hp⟩
theorem bcas {w : World} {A : Ad} {V : Wv} {B : Nat} (h : WdB w A V B) (hB : B ≤ w.heap.size) {a was is : Int} (ha : isU a) (hv : isU is) (hc : V.cnt < 1000000000) {r : Bool} (hr : (V.f a == was) = r) :
    Calls Tryz.prog 128 #[.pointer (some ⟨A.pc, 0, none⟩), .int .u64 a, .int .u64 was, .int .u64 is] w fun e w' => e = .returned (.tuple #[.int .u64 (V.f a), .bool r]) ∧ WdB w' A (V.acc (upd V.f a (casI r is (V.f a))) 3 a (V.f a) (casI r is (V.f a))) B ∧ Below B w w' := by
  obtain ⟨S, h1, h2⟩ := h
  exact (wcas h1 ha hv hc hr).mono fun e w' ⟨he, hp⟩ => ⟨he, WdB.post (V := V) h2 hB hp⟩
theorem bpeek {w : World} {A : Ad} {V : Wv} {B : Nat} (h : WdB w A V B) {a : Int} (ha : isU a) :
    Calls Tryz.prog 35 #[.pointer (some ⟨A.pc, 0, none⟩), .int .u64 a] w fun e w' => e = .returned (.int .u64 (V.f a)) ∧ w = w' := by
  obtain ⟨S, h1, h2⟩ := h
  exact wpeek h1 ha
theorem bsteps {w : World} {A : Ad} {V : Wv} {B : Nat} (h : WdB w A V B) :
    Calls Tryz.prog 56 #[.pointer (some ⟨A.p, 0, none⟩)] w fun e w' => e = .returned (.int .i64 V.cnt) ∧ w = w' := by
  obtain ⟨S, h1, h2⟩ := h
  exact wsteps h1
theorem bfull {w : World} {A : Ad} {V : Wv} {B : Nat} (h : WdB w A V B) (hb : 0 ≤ V.c.budget) (hb2 : V.c.budget ≤ 9223372036854775807) :
    Calls Tryz.prog 75 #[.pointer (some ⟨A.p, 0, none⟩)] w fun e w' => e = .returned (.bool (decide (V.c.budget ≤ V.f 6))) ∧ Below w.heap.size w w' := by
  obtain ⟨S, h1, h2⟩ := h
  exact wfull h1 hb hb2
theorem bgrows {w : World} {A : Ad} {V : Wv} {B : Nat} (h : WdB w A V B) :
    Calls Tryz.prog 57 #[.pointer (some ⟨A.p, 0, none⟩)] w fun e w' => e = .returned (.bool (growsF V)) ∧ Below w.heap.size w w' := by
  obtain ⟨S, h1, h2⟩ := h
  exact wgrows h1
theorem btick {w : World} {A : Ad} {V : Wv} {B : Nat} (h : WdB w A V B) (hB : B ≤ w.heap.size) (hc : V.cnt < 1000000000) :
    Calls Tryz.prog 58 #[.pointer (some ⟨A.p, 0, none⟩)] w fun e w' => e = .returned (.tuple #[]) ∧ WdB w' A (V.acc (upd V.f 8 (tickf (V.f 8))) 3 8 (V.f 8) (tickf (V.f 8))) B ∧ Below B w w' := by
  obtain ⟨S, h1, h2⟩ := h
  exact (wtick h1 hc).mono fun e w' ⟨he, hp⟩ => ⟨he, WdB.post (V := V) h2 hB hp⟩
theorem acc_upd (V : Wv) (f : Int → Int) (a v k x y b : Int) : (V.acc (upd f a v) k b x y).f a = v := upd_same f a v
theorem acc_other (V : Wv) (f : Int → Int) {a v k x y b z : Int} (h : z ≠ a) : (V.acc (upd f a v) k b x y).f z = f z := upd_other h
def V10 : Wv := V0 ⟨2, 8, 3, 1, 16⟩
theorem v10_facts : V10.f 2 = 2 ∧ V10.cnt = 0 ∧ growsF V10 = true ∧ V10.f 8 = 0 ∧ tickf 0 = 1 := by
  refine ⟨rfl, rfl, by decide, rfl, by decide⟩
set_option maxHeartbeats 1000000 in
set_option maxRecDepth 100000 in
theorem lives10 (w : World) : Calls Tryz.prog 11 #[] w fun e w' => e = .returned (.bool true) ∧ Below w.heap.size w w' := by
  have C1 := Lib.hid (fun W => newW 2 8 3 1 16 W (by decide))
  have C2 := Lib.hid (fun W => newW_no 0 8 3 1 16 W (by decide))
  obtain ⟨v1, v2, v3, v4, v5⟩ := v10_facts
  have HV1 := Lib.hid v1
  have HV2 := Lib.hid v2
  have HV3 := Lib.hid v3
  have HV4 := Lib.hid v4
  have HV5 := Lib.hid v5
  clear v1 v2 v3 v4 v5
  go_enter Tryz.func11, Tryz.ntmps11
  go_wp2_with fail
  refine (C1.out _).mono ?_
  rintro e w1 ⟨A, rfl, hW1, K1⟩
  change WdB w1 A V10 w.heap.size at hW1
  have HW1 := Lib.hid hW1
  have HK1 := Lib.hid K1
  clear hW1 K1
  go_wp2_with fail
  refine (C2.out _).mono ?_
  rintro e w2 ⟨rfl, K2⟩
  have hW2 := HW1.out.new K2
  have HK2 := Lib.hid (below_then HK1.out K2)
  have hs2 : w.heap.size ≤ w2.heap.size := HK2.out.size
  have c0 := hW2.box.c0
  have hlt := hW2.box.lt
  have CP := bpeek hW2 (a := 2) ⟨by decide, by decide⟩
  rw [HV1.out] at CP
  have CS := bsteps hW2
  rw [HV2.out] at CS
  have CG := bgrows hW2
  rw [HV3.out] at CG
  have HCP := Lib.hid CP
  have HCS := Lib.hid CS
  have HCG := Lib.hid CG
  have HW2 := Lib.hid hW2
  clear CP CS CG hW2 K2
  go_wp2_with fail
  refine HCP.out.mono ?_
  rintro e w3 ⟨rfl, rfl⟩
  go_wp2_with fail
  refine HCS.out.mono ?_
  rintro e w3 ⟨rfl, rfl⟩
  go_wp2_with fail
  refine HCG.out.mono ?_
  rintro e w3 ⟨rfl, K3⟩
  have hW3 := HW2.out.new K3
  have HK3 := Lib.hid (below_then HK2.out K3)
  have hs3 : w.heap.size ≤ w3.heap.size := HK3.out.size
  have CT := btick hW3 hs3 (by rw [HV2.out]; decide)
  rw [HV4.out, HV5.out] at CT
  have HCT := Lib.hid CT
  clear CT hW3 K3 c0
  go_wp2_with fail
  refine HCT.out.mono ?_
  rintro e w4 ⟨rfl, hW4, K4⟩
  have HK4 := Lib.hid (HK3.out.trans K4)
  have c0 := hW4.box.c0
  have CP := bpeek hW4 (a := 8) ⟨by decide, by decide⟩
  have CS := bsteps hW4
  rw [show (V10.acc (upd V10.f 8 1) 3 8 0 1).f 8 = 1 by show upd V10.f 8 1 8 = 1; exact upd_same _ _ _] at CP
  rw [show (V10.acc (upd V10.f 8 1) 3 8 0 1).cnt = 1 from rfl] at CS
  have HCP := Lib.hid CP
  have HCS := Lib.hid CS
  clear CP CS hW4 K4
  go_wp2_with fail
  refine HCP.out.mono ?_
  rintro e w5 ⟨rfl, rfl⟩
  go_wp2_with fail
  refine HCS.out.mono ?_
  rintro e w5 ⟨rfl, rfl⟩
  go_wp2_with fail
  go_ret
  exact ⟨rfl, HK4.out⟩
end Go.Proofs.YthlebfiedejhhaaGreat
