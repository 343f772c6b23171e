/- A world: its block, its cells, items and notes. -/
import Derived.Test.YtodppilfpemepaaGreatGCl
import Derived.Test.YtodppilfpemepaaGreatGAr
import Derived.Test.YtodppilfpemepaaGreatGNl
namespace Go.Proofs.YtodppilfpemepaaGreat
open Go.RowKit Go.Maps
set_option linter.unusedVariables false

structure Cfg where
  bits : Int
  budget : Int
  tries : Int
  quantum : Int
  way : Int
/-- Where a world lies. -/
structure Ad where
  p : Nat
  pc : Nat
  pi : Nat
  pn : Nat
/-- What a world has. -/
structure Wv where
  c : Cfg
  tk : Nat → Int
  h : Int
  f : Int → Int
  cnt : Int
  k : Int
  a : Int
  x : Int
  y : Int
  I : List It
  M : List Nv
/-- A world's own block. -/
structure IsBox (w : World) (A : Ad) (c : Cfg) (tk : Nat → Int) (h : Int) : Prop where
  c0 : w.cell? ⟨A.p, 0, none⟩ = some (.pointer (some ⟨A.pc, 0, none⟩))
  c1 : w.cell? ⟨A.p, 1, none⟩ = some (.pointer (some ⟨A.pi, 0, none⟩))
  c2 : w.cell? ⟨A.p, 2, none⟩ = some (.pointer (some ⟨A.pn, 0, none⟩))
  c3 : w.cell? ⟨A.p, 3, none⟩ = some (.int .i64 c.bits)
  c4 : w.cell? ⟨A.p, 4, none⟩ = some (.int .i64 c.budget)
  c5 : w.cell? ⟨A.p, 5, none⟩ = some (.int .i64 c.tries)
  c6 : w.cell? ⟨A.p, 6, none⟩ = some (.int .i64 c.quantum)
  c7 : w.cell? ⟨A.p, 7, none⟩ = some (.int .i64 c.way)
  ct : ∀ i, i < 64 → w.cell? ⟨A.p, 8 + i, none⟩ = some (.int .u64 (tk i))
  ch : w.cell? ⟨A.p, 72, none⟩ = some (.int .i64 h)
  fz : ∀ j, j < 73 → w.frozen? ⟨A.p, j, none⟩ = false
theorem IsBox.lt {w : World} {A : Ad} {c : Cfg} {tk : Nat → Int} {h : Int} (b : IsBox w A c tk h) : A.p < w.heap.size := World.block_lt_of_cell? _ _ b.c0
theorem IsBox.keep {w W : World} {A : Ad} {c : Cfg} {tk : Nat → Int} {h : Int} {T : Nat → Prop} (b : IsBox w A c tk h) (hk : Keeps T w W) (hT : ¬ T A.p) : IsBox W A c tk h := by
  have hl := b.lt
  obtain ⟨c0, c1, c2, c3, c4, c5, c6, c7, ct, ch, fz⟩ := b
  exact ⟨hk.cell (p := ⟨A.p, 0, none⟩) hT c0, hk.cell (p := ⟨A.p, 1, none⟩) hT c1, hk.cell (p := ⟨A.p, 2, none⟩) hT c2, hk.cell (p := ⟨A.p, 3, none⟩) hT c3, hk.cell (p := ⟨A.p, 4, none⟩) hT c4, hk.cell (p := ⟨A.p, 5, none⟩) hT c5, hk.cell (p := ⟨A.p, 6, none⟩) hT c6, hk.cell (p := ⟨A.p, 7, none⟩) hT c7, fun i hi => hk.cell (p := ⟨A.p, 8 + i, none⟩) hT (ct i hi), hk.cell (p := ⟨A.p, 72, none⟩) hT ch, fun j hj => hk.frozen (p := ⟨A.p, j, none⟩) hT hl (fz j hj)⟩
/-- A world, and all that it owns. -/
structure WdAt (w : World) (A : Ad) (V : Wv) (n : Nat) (S SC SI SN : Nat → Prop) : Prop where
  box : IsBox w A V.c V.tk V.h
  cel : Cel w A.pc V.f V.cnt V.k V.a V.x V.y n SC
  it : Ars w A.pi V.I SI
  nt : Nts w A.pn V.M SN
  cnt0 : 0 ≤ V.cnt
  cntn : (n : Int) ≤ V.cnt + 1000000
  here : S A.p
  sc : ∀ k, SC k → S k ∧ k ≠ A.p ∧ ¬ SI k ∧ ¬ SN k
  si : ∀ k, SI k → S k ∧ k ≠ A.p ∧ ¬ SN k
  sn : ∀ k, SN k → S k ∧ k ≠ A.p
  lt : ∀ k, S k → k < w.heap.size
def Wd (w : World) (A : Ad) (V : Wv) (S : Nat → Prop) : Prop := ∃ n SC SI SN, WdAt w A V n S SC SI SN
theorem Wd.keep {w W : World} {A : Ad} {V : Wv} {S T : Nat → Prop} (h : Wd w A V S) (hk : Keeps T w W) (hT : ∀ k, S k → ¬ T k) : Wd W A V S := by
  obtain ⟨n, SC, SI, SN, b, c, i, m, h0, h1, h2, h3, h4, h5, h6⟩ := h
  exact ⟨n, SC, SI, SN, b.keep hk (hT _ h2), c.keep hk (fun k s => hT k (h3 k s).1), i.keep hk (fun k s => hT k (h4 k s).1), m.keep hk (fun k s => hT k (h5 k s).1), h0, h1, h2, h3, h4, h5, fun k s => Nat.lt_of_lt_of_le (h6 k s) hk.size⟩
theorem Wd.new {w W : World} {A : Ad} {V : Wv} {S : Nat → Prop} (h : Wd w A V S) (hk : Below w.heap.size w W) : Wd W A V S := h.keep (Keeps.of_new (S := fun _ => False) hk) (fun _ _ s => s)
theorem Wd.box {w : World} {A : Ad} {V : Wv} {S : Nat → Prop} (h : Wd w A V S) : IsBox w A V.c V.tk V.h := by
  obtain ⟨n, SC, SI, SN, h⟩ := h
  exact h.box
theorem Wd.lt {w : World} {A : Ad} {V : Wv} {S : Nat → Prop} (h : Wd w A V S) : ∀ k, S k → k < w.heap.size := by
  obtain ⟨n, SC, SI, SN, h⟩ := h
  exact h.lt
/-- What an access leaves. -/
def Wv.acc (V : Wv) (f : Int → Int) (k a x y : Int) : Wv := { V with f := f, cnt := V.cnt + 1, k := k, a := a, x := x, y := y }
def WdPost (w : World) (A : Ad) (V : Wv) (S : Nat → Prop) (w' : World) : Prop := ∃ S', Turn S S' w w' ∧ Wd w' A V S'
theorem WdAt.acc {w w' : World} {A : Ad} {V : Wv} {n : Nat} {S SC SI SN : Nat → Prop} (h : WdAt w A V n S SC SI SN) {f : Int → Int} {k a x y : Int} (hp : AccPost w A.pc f (V.cnt + 1) k a x y (n + 1) SC w') : WdPost w A (V.acc f k a x y) S w' := by
  obtain ⟨SC', t, q⟩ := hp
  have hsz := t.keeps.size
  have hne : ∀ k, SC' k → SC k ∨ w.heap.size ≤ k := fun k s => (t.only k s).imp id (fun h => h.1)
  refine ⟨fun k => S k ∨ SC' k, ⟨t.keeps.mono (fun k _ s => (h.sc k s).1), fun k s => ?_⟩, n + 1, SC', SI, SN, h.box.keep t.keeps (fun s => (h.sc _ s).2.1 rfl), q, h.it.keep t.keeps (fun k s s' => (h.sc k s').2.2.1 s), h.nt.keep t.keeps (fun k s s' => (h.sc k s').2.2.2 s), by have := h.cnt0; simp [Wv.acc]; omega, by have := h.cntn; simp [Wv.acc]; omega, .inl h.here, fun k s => ?_, fun k s => ⟨.inl (h.si k s).1, (h.si k s).2⟩, fun k s => ⟨.inl (h.sn k s).1, (h.sn k s).2⟩, fun k s => ?_⟩
  · rcases s with s | s
    · exact .inl s
    · rcases t.only k s with s | s
      · exact .inl (h.sc k s).1
      · exact .inr s
  · refine ⟨.inr s, ?_⟩
    rcases hne k s with s | s
    · exact (h.sc k s).2
    · refine ⟨fun e => ?_, fun s' => ?_, fun s' => ?_⟩
      · have := h.box.lt; omega
      · have := h.lt k (h.si k s').1; omega
      · have := h.lt k (h.sn k s').1; omega
  · rcases s with s | s
    · have := h.lt k s; omega
    · rcases t.only k s with s | s
      · have := h.lt k (h.sc k s).1; omega
      · exact s.2
theorem wload {w : World} {A : Ad} {V : Wv} {S : Nat → Prop} (h : Wd w A V S) {a : Int} (ha : isU a) (hc : V.cnt < 1000000000) :
    Calls Tryz.prog 50 #[.pointer (some ⟨A.pc, 0, none⟩), .int .u64 a] w fun e w' => e = .returned (.int .u64 (V.f a)) ∧ WdPost w A (V.acc V.f 1 a (V.f a) (V.f a)) S w' := by
  obtain ⟨n, SC, SI, SN, h⟩ := h
  have h0 := h.cnt0
  have h1 := h.cntn
  exact (load_any h.cel ha (by omega) h0 (by omega)).mono fun e w' ⟨he, hp⟩ => ⟨he, h.acc hp⟩
theorem wstore {w : World} {A : Ad} {V : Wv} {S : Nat → Prop} (h : Wd w A V S) {a v : Int} (ha : isU a) (hv : isU v) (hc : V.cnt < 1000000000) :
    Calls Tryz.prog 39 #[.pointer (some ⟨A.pc, 0, none⟩), .int .u64 a, .int .u64 v] w fun e w' => e = .returned (.int .u64 (V.f a)) ∧ WdPost w A (V.acc (upd V.f a v) 2 a (V.f a) v) S w' := by
  obtain ⟨n, SC, SI, SN, h⟩ := h
  have h0 := h.cnt0
  have h1 := h.cntn
  exact (store_any h.cel ha hv (by omega) h0 (by omega)).mono fun e w' ⟨he, hp⟩ => ⟨he, h.acc hp⟩
theorem wadd {w : World} {A : Ad} {V : Wv} {S : Nat → Prop} (h : Wd w A V S) {a v : Int} (ha : isU a) (hc : V.cnt < 1000000000) :
    Calls Tryz.prog 220 #[.pointer (some ⟨A.pc, 0, none⟩), .int .u64 a, .int .u64 v] w fun e w' => e = .returned (.int .u64 (V.f a)) ∧ WdPost w A (V.acc (upd V.f a (IntKind.u64.wrap (V.f a + v))) 4 a (V.f a) (IntKind.u64.wrap (V.f a + v))) S w' := by
  obtain ⟨n, SC, SI, SN, h⟩ := h
  have h0 := h.cnt0
  have h1 := h.cntn
  exact (add_any h.cel ha (by omega) h0 (by omega)).mono fun e w' ⟨he, hp⟩ => ⟨he, h.acc hp⟩
theorem wcas {w : World} {A : Ad} {V : Wv} {S : Nat → Prop} (h : Wd w A V S) {a was is : Int} (ha : isU a) (hv : isU is) (hc : V.cnt < 1000000000) {r : Bool} (hr : (V.f a == was) = r) :
    Calls Tryz.prog 106 #[.pointer (some ⟨A.pc, 0, none⟩), .int .u64 a, .int .u64 was, .int .u64 is] w fun e w' => e = .returned (.tuple #[.int .u64 (V.f a), .bool r]) ∧ WdPost w A (V.acc (upd V.f a (casI r is (V.f a))) 3 a (V.f a) (casI r is (V.f a))) S w' := by
  obtain ⟨n, SC, SI, SN, h⟩ := h
  have h0 := h.cnt0
  have h1 := h.cntn
  exact (cas_any h.cel (fun k s => h.lt k (h.sc k s).1) ha hv (by omega) h0 (by omega) hr).mono fun e w' ⟨he, hp⟩ => ⟨he, h.acc hp⟩
theorem wpeek {w : World} {A : Ad} {V : Wv} {S : Nat → Prop} (h : Wd w A V S) {a : Int} (ha : isU a) :
    Calls Tryz.prog 79 #[.pointer (some ⟨A.pc, 0, none⟩), .int .u64 a] w fun e w' => e = .returned (.int .u64 (V.f a)) ∧ w = w' := by
  obtain ⟨n, SC, SI, SN, h⟩ := h
  exact peek_any h.cel a ha
theorem wcount {w : World} {A : Ad} {V : Wv} {S : Nat → Prop} (h : Wd w A V S) :
    Calls Tryz.prog 78 #[.pointer (some ⟨A.pc, 0, none⟩)] w fun e w' => e = .returned (.int .i64 V.cnt) ∧ w = w' := by
  obtain ⟨n, SC, SI, SN, h⟩ := h
  exact count_any h.cel
theorem Wd.rng {w : World} {A : Ad} {V : Wv} {S : Nat → Prop} (h : Wd w A V S) {a : Int} (ha : isU a) : isU (V.f a) := by
  obtain ⟨n, SC, SI, SN, h⟩ := h
  exact h.cel.rng a ha
end Go.Proofs.YtodppilfpemepaaGreat
