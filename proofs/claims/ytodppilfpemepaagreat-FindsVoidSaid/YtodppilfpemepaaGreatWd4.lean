/- The examples of chapter 10. -/
import Derived.Test.YtodppilfpemepaaGreatWd3
namespace Go.Proofs.YtodppilfpemepaaGreat
open Go.RowKit Go.Maps
set_option linter.unusedVariables false

theorem WdB.new {w W : World} {A : Ad} {V : Wv} {B : Nat} (h : WdB w A V B) (hk : Below w.heap.size w W) : WdB W A V B := by
  obtain ⟨S, h1, h2⟩ := h
  exact ⟨S, h1.new hk, h2⟩
theorem WdB.box {w : World} {A : Ad} {V : Wv} {B : Nat} (h : WdB w A V B) : IsBox w A V.c V.tk V.h := by
  obtain ⟨S, h1, h2⟩ := h
  exact h1.box
theorem WdB.post {w w' : World} {A : Ad} {V V' : Wv} {B : Nat} {S : Nat → Prop} (hS : ∀ k, S k → B ≤ k) (hB : B ≤ w.heap.size) (hp : WdPost w A V' S w') : WdB w' A V' B ∧ Below B w w' := by
  obtain ⟨S', t, q⟩ := hp
  obtain ⟨b1, b2⟩ := t.to_below hS hB
  exact ⟨⟨S', q, b2⟩, b1⟩
theorem bload {w : World} {A : Ad} {V : Wv} {B : Nat} (h : WdB w A V B) (hB : B ≤ w.heap.size) {a : Int} (ha : isU a) (hc : V.cnt < 1000000000) :
    Calls Tryz.prog 50 #[.pointer (some ⟨A.pc, 0, none⟩), .int .u64 a] w fun e w' => e = .returned (.int .u64 (V.f a)) ∧ WdB w' A (V.acc V.f 1 a (V.f a) (V.f a)) B ∧ Below B w w' := by
  obtain ⟨S, h1, h2⟩ := h
  exact (wload h1 ha hc).mono fun e w' ⟨he, hp⟩ => ⟨he, WdB.post (V := V) h2 hB hp⟩
theorem bstore {w : World} {A : Ad} {V : Wv} {B : Nat} (h : WdB w A V B) (hB : B ≤ w.heap.size) {a v : Int} (ha : isU a) (hv : isU v) (hc : V.cnt < 1000000000) :
    Calls Tryz.prog 39 #[.pointer (some ⟨A.pc, 0, none⟩), .int .u64 a, .int .u64 v] w fun e w' => e = .returned (.int .u64 (V.f a)) ∧ WdB w' A (V.acc (upd V.f a v) 2 a (V.f a) v) B ∧ Below B w w' := by
  obtain ⟨S, h1, h2⟩ := h
  exact (wstore h1 ha hv hc).mono fun e w' ⟨he, hp⟩ => ⟨he, WdB.post (V := V) h2 hB hp⟩
theorem badd {w : World} {A : Ad} {V : Wv} {B : Nat} (h : WdB w A V B) (hB : B ≤ w.heap.size) {a v : Int} (ha : isU a) (hc : V.cnt < 1000000000) :
    Calls Tryz.prog 220 #[.pointer (some ⟨A.pc, 0, none⟩), .int .u64 a, .int .u64 v] w fun e w' => e = .returned (.int .u64 (V.f a)) ∧ WdB w' A (V.acc (upd V.f a (IntKind.u64.wrap (V.f a + v))) 4 a (V.f a) (IntKind.u64.wrap (V.f a + v))) B ∧ Below B w w' := by
  obtain ⟨S, h1, h2⟩ := h
  exact (wadd h1 ha hc).mono fun e w' ⟨he, hp⟩ => ⟨he, WdB.post (V := V) h2 hB hp⟩
theorem bcas {w : World} {A : Ad} {V : Wv} {B : Nat} (h : WdB w A V B) (hB : B ≤ w.heap.size) {a was is : Int} (ha : isU a) (hv : isU is) (hc : V.cnt < 1000000000) {r : Bool} (hr : (V.f a == was) = r) :
    Calls Tryz.prog 106 #[.pointer (some ⟨A.pc, 0, none⟩), .int .u64 a, .int .u64 was, .int .u64 is] w fun e w' => e = .returned (.tuple #[.int .u64 (V.f a), .bool r]) ∧ WdB w' A (V.acc (upd V.f a (casI r is (V.f a))) 3 a (V.f a) (casI r is (V.f a))) B ∧ Below B w w' := by
  obtain ⟨S, h1, h2⟩ := h
  exact (wcas h1 ha hv hc hr).mono fun e w' ⟨he, hp⟩ => ⟨he, WdB.post (V := V) h2 hB hp⟩
theorem bpeek {w : World} {A : Ad} {V : Wv} {B : Nat} (h : WdB w A V B) {a : Int} (ha : isU a) :
    Calls Tryz.prog 79 #[.pointer (some ⟨A.pc, 0, none⟩), .int .u64 a] w fun e w' => e = .returned (.int .u64 (V.f a)) ∧ w = w' := by
  obtain ⟨S, h1, h2⟩ := h
  exact wpeek h1 ha
theorem bsteps {w : World} {A : Ad} {V : Wv} {B : Nat} (h : WdB w A V B) :
    Calls Tryz.prog 72 #[.pointer (some ⟨A.p, 0, none⟩)] w fun e w' => e = .returned (.int .i64 V.cnt) ∧ w = w' := by
  obtain ⟨S, h1, h2⟩ := h
  exact wsteps h1
theorem btick {w : World} {A : Ad} {V : Wv} {B : Nat} (h : WdB w A V B) (hB : B ≤ w.heap.size) (hc : V.cnt < 1000000000) :
    Calls Tryz.prog 67 #[.pointer (some ⟨A.p, 0, none⟩)] w fun e w' => e = .returned (.tuple #[]) ∧ WdB w' A (V.acc (upd V.f 8 (tickf (V.f 8))) 3 8 (V.f 8) (tickf (V.f 8))) B ∧ Below B w w' := by
  obtain ⟨S, h1, h2⟩ := h
  exact (wtick h1 hc).mono fun e w' ⟨he, hp⟩ => ⟨he, WdB.post (V := V) h2 hB hp⟩
theorem acc_upd (V : Wv) (f : Int → Int) (a v k x y b : Int) : (V.acc (upd f a v) k b x y).f a = v := upd_same f a v
theorem acc_other (V : Wv) (f : Int → Int) {a v k x y b z : Int} (h : z ≠ a) : (V.acc (upd f a v) k b x y).f z = f z := upd_other h
def V10 : Wv := V0 ⟨2, 8, 3, 1, 16⟩
theorem v10_facts : V10.f 2 = 2 ∧ V10.cnt = 0 ∧ growsF V10 = true ∧ V10.f 8 = 0 ∧ tickf 0 = 1 := by
  refine ⟨rfl, rfl, by decide, rfl, by decide⟩
end Go.Proofs.YtodppilfpemepaaGreat
