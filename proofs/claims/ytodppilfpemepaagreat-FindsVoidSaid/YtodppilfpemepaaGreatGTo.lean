/- Touches of an item: their steps. -/
import Derived.Test.YtodppilfpemepaaGreatWd4
import Derived.Test.YtodppilfpemepaaGreatBits
import Derived.Laws.EntriesVeiled
import Derived.LoopTactic
namespace Go.Proofs.YtodppilfpemepaaGreat
open Go.RowKit Go.Maps
set_option linter.unusedVariables false

/-- A touch. -/
structure IsTo (w : World) (q : Nat) (mark word left : Int) (done : Bool) : Prop where
  c0 : w.cell? ⟨q, 0, none⟩ = some (.int .u64 mark)
  c1 : w.cell? ⟨q, 1, none⟩ = some (.int .u64 word)
  c2 : w.cell? ⟨q, 2, none⟩ = some (.int .i64 left)
  c3 : w.cell? ⟨q, 3, none⟩ = some (.bool done)
  fz : ∀ j, j < 4 → w.frozen? ⟨q, j, none⟩ = false
theorem IsTo.lt {w : World} {q : Nat} {mark word left : Int} {done : Bool} (h : IsTo w q mark word left done) : q < w.heap.size := World.block_lt_of_cell? _ _ h.c0
theorem IsTo.keep {w W : World} {q : Nat} {mark word left : Int} {done : Bool} {T : Nat → Prop} (h : IsTo w q mark word left done) (hk : Keeps T w W) (hT : ¬ T q) : IsTo W q mark word left done := by
  have hl := h.lt
  obtain ⟨c0, c1, c2, c3, fz⟩ := h
  exact ⟨hk.cell (p := ⟨q, 0, none⟩) hT c0, hk.cell (p := ⟨q, 1, none⟩) hT c1, hk.cell (p := ⟨q, 2, none⟩) hT c2, hk.cell (p := ⟨q, 3, none⟩) hT c3, fun j hj => hk.frozen (p := ⟨q, j, none⟩) hT hl (fz j hj)⟩
theorem set_other {w : World} {q i j : Nat} {u v : Value} (h : i ≠ j) (hc : w.cell? ⟨q, j, none⟩ = some v) : (w.setCell ⟨q, i, none⟩ u).cell? ⟨q, j, none⟩ = some v :=
  (World.cell?_setCell_other w ⟨q, i, none⟩ ⟨q, j, none⟩ u (by intro e; injection e with _ e; exact h e)).trans hc
theorem IsTo.word {w : World} {q : Nat} {mark word left : Int} {done : Bool} (h : IsTo w q mark word left done) (v : Int) : IsTo (w.setCell ⟨q, 1, none⟩ (.int .u64 v)) q mark v left done :=
  ⟨set_other (by decide) h.c0, World.cell?_setCell_same _ _ _ h.c1, set_other (by decide) h.c2, set_other (by decide) h.c3, fun j hj => by rw [World.frozen?_setCell]; exact h.fz j hj⟩
theorem IsTo.left {w : World} {q : Nat} {mark word left : Int} {done : Bool} (h : IsTo w q mark word left done) (v : Int) : IsTo (w.setCell ⟨q, 2, none⟩ (.int .i64 v)) q mark word v done :=
  ⟨set_other (by decide) h.c0, set_other (by decide) h.c1, World.cell?_setCell_same _ _ _ h.c2, set_other (by decide) h.c3, fun j hj => by rw [World.frozen?_setCell]; exact h.fz j hj⟩
theorem IsTo.done {w : World} {q : Nat} {mark word left : Int} {done : Bool} (h : IsTo w q mark word left done) (v : Bool) : IsTo (w.setCell ⟨q, 3, none⟩ (.bool v)) q mark word left v :=
  ⟨set_other (by decide) h.c0, set_other (by decide) h.c1, set_other (by decide) h.c2, World.cell?_setCell_same _ _ _ h.c3, fun j hj => by rw [World.frozen?_setCell]; exact h.fz j hj⟩
/-- Blocks that nothing turns. -/
abbrev Kp (G : Nat → Prop) (w w' : World) : Prop := Keeps (fun k => ¬ G k) w w'
theorem Kp.to {G : Nat → Prop} {a b c : World} (h : Kp G a b) (k : Kp G b c) : Kp G a c := Keeps.trans (S := fun k => ¬ G k) (T := fun k => ¬ G k) h k (fun _ _ s => s)
theorem Kp.of {G : Nat → Prop} {a b : World} (h : Below a.heap.size a b) : Kp G a b := Keeps.of_new h
theorem Kp.less {G G' : Nat → Prop} {a b : World} (h : Kp G a b) (hG : ∀ k, G' k → G k) : Kp G' a b := Keeps.mono h (fun k _ n g => n (hG k g))
theorem Kp.below {B : Nat} {a b : World} (h : Kp (fun k => k < B) a b) (hB : B ≤ a.heap.size) : Below B a b := Keeps.to_below h (fun k _ n => Nat.le_of_not_lt n) hB
/-- A world that has none of these blocks. -/
def WdG (G : Nat → Prop) (w : World) (A : Ad) (V : Wv) : Prop := ∃ S, Wd w A V S ∧ (∀ k, G k → ¬ S k) ∧ ∀ k, G k → k < w.heap.size
/-- A world and a touch beside it. -/
def Tw (G : Nat → Prop) (w : World) (A : Ad) (V : Wv) (q : Nat) (mark word left : Int) (done : Bool) : Prop := ∃ S, Wd w A V S ∧ (∀ k, G k → ¬ S k) ∧ ¬ S q ∧ IsTo w q mark word left done ∧ ¬ G q ∧ ∀ k, G k → k < w.heap.size
section
variable {G : Nat → Prop} {w : World} {A : Ad} {V : Wv} {q : Nat} {mark word left : Int} {done : Bool}
theorem WdB.g {B : Nat} (h : WdB w A V B) (hB : B ≤ w.heap.size) : WdG (fun k => k < B) w A V := by
  obtain ⟨S, h1, h2⟩ := h
  exact ⟨S, h1, fun k g s => by have := h2 k s; omega, fun k g => by omega⟩
theorem WdG.box (h : WdG G w A V) : IsBox w A V.c V.tk V.h := by obtain ⟨S, h1, h2, h3⟩ := h; exact h1.box
theorem WdG.new {W : World} (h : WdG G w A V) (hb : Below w.heap.size w W) : WdG G W A V := by
  obtain ⟨S, h1, h2, h3⟩ := h
  exact ⟨S, h1.new hb, h2, fun k g => Nat.lt_of_lt_of_le (h3 k g) hb.size⟩
theorem WdG.rng (h : WdG G w A V) {a : Int} (ha : isU a) : isU (V.f a) := by obtain ⟨S, h1, h2, h3⟩ := h; exact h1.rng ha
theorem WdG.post {w' : World} {V' : Wv} {S : Nat → Prop} (h2 : ∀ k, G k → ¬ S k) (h3 : ∀ k, G k → k < w.heap.size) (hp : WdPost w A V' S w') : WdG G w' A V' ∧ Kp G w w' := by
  obtain ⟨S', t, hw⟩ := hp
  refine ⟨⟨S', hw, fun k g s => ?_, fun k g => Nat.lt_of_lt_of_le (h3 k g) t.keeps.size⟩, t.keeps.mono (fun k _ s g => h2 k g s)⟩
  rcases t.only k s with s | s
  · exact h2 k g s
  · have := h3 k g; omega
theorem gstore (h : WdG G w A V) {a v : Int} (ha : isU a) (hv : isU v) (hc : V.cnt < 1000000000) :
    Calls Tryz.prog 39 #[.pointer (some ⟨A.pc, 0, none⟩), .int .u64 a, .int .u64 v] w fun e w' => e = .returned (.int .u64 (V.f a)) ∧ WdG G w' A (V.acc (upd V.f a v) 2 a (V.f a) v) ∧ Kp G w w' := by
  obtain ⟨S, h1, h2, h3⟩ := h
  exact (wstore h1 ha hv hc).mono fun e w' ⟨he, hp⟩ => ⟨he, WdG.post h2 h3 hp⟩
theorem gpeek (h : WdG G w A V) {a : Int} (ha : isU a) :
    Calls Tryz.prog 79 #[.pointer (some ⟨A.pc, 0, none⟩), .int .u64 a] w fun e w' => e = .returned (.int .u64 (V.f a)) ∧ w = w' := by
  obtain ⟨S, h1, h2, h3⟩ := h
  exact wpeek h1 ha
theorem Tw.to (h : Tw G w A V q mark word left done) : IsTo w q mark word left done := by obtain ⟨S, h1, h2, h3, h4, h5, h6⟩ := h; exact h4
theorem Tw.box (h : Tw G w A V q mark word left done) : IsBox w A V.c V.tk V.h := by obtain ⟨S, h1, h2, h3, h4, h5, h6⟩ := h; exact h1.box
theorem Tw.wdG (h : Tw G w A V q mark word left done) : WdG (fun k => G k ∨ k = q) w A V := by
  obtain ⟨S, h1, h2, h3, h4, h5, h6⟩ := h
  refine ⟨S, h1, fun k g => ?_, fun k g => ?_⟩
  · rcases g with g | rfl
    · exact h2 k g
    · exact h3
  · rcases g with g | rfl
    · exact h6 k g
    · exact h4.lt
theorem Tw.rng (h : Tw G w A V q mark word left done) {a : Int} (ha : isU a) : isU (V.f a) := by obtain ⟨S, h1, _⟩ := h; exact h1.rng ha
theorem Tw.ne (h : Tw G w A V q mark word left done) : A.p ≠ q := by
  obtain ⟨S, ⟨n, SC, SI, SN, h1⟩, h2, h3, h4, h5, h6⟩ := h
  intro e
  exact h3 (e ▸ h1.here)
theorem Tw.new {W : World} (h : Tw G w A V q mark word left done) (hb : Below w.heap.size w W) : Tw G W A V q mark word left done := by
  obtain ⟨S, h1, h2, h3, h4, h5, h6⟩ := h
  exact ⟨S, h1.new hb, h2, h3, h4.keep (Keeps.of_new (S := fun _ => False) hb) id, h5, fun k g => Nat.lt_of_lt_of_le (h6 k g) hb.size⟩
theorem Tw.post {w' : World} {V' : Wv} {S : Nat → Prop} (h2 : ∀ k, G k → ¬ S k) (h3 : ¬ S q) (h4 : IsTo w q mark word left done) (h5 : ¬ G q) (h6 : ∀ k, G k → k < w.heap.size) (hp : WdPost w A V' S w') : Tw G w' A V' q mark word left done ∧ Kp G w w' := by
  obtain ⟨S', t, hw⟩ := hp
  have hl := h4.lt
  refine ⟨⟨S', hw, fun k g s => ?_, fun s => ?_, h4.keep t.keeps h3, h5, fun k g => Nat.lt_of_lt_of_le (h6 k g) t.keeps.size⟩, t.keeps.mono (fun k _ s g => h2 k g s)⟩
  · rcases t.only k s with s | s
    · exact h2 k g s
    · have := h6 k g; omega
  · rcases t.only q s with s | s
    · exact h3 s
    · omega
theorem Tw.set (h : Tw G w A V q mark word left done) {word' left' : Int} {done' : Bool} (i : Nat) (u : Value) (ht : IsTo (w.setCell ⟨q, i, none⟩ u) q mark word' left' done') : Tw G (w.setCell ⟨q, i, none⟩ u) A V q mark word' left' done' := by
  obtain ⟨S, h1, h2, h3, h4, h5, h6⟩ := h
  have hk := Keeps.setCell (S := fun k => k = q) (Keeps.refl _ w) (p := ⟨q, i, none⟩) (.inl rfl) u
  exact ⟨S, h1.keep hk (fun k s e => h3 (e ▸ s)), h2, h3, ht, h5, fun k g => Nat.lt_of_lt_of_le (h6 k g) hk.size⟩
theorem Tw.below (h : Tw G w A V q mark word left done) (i : Nat) (u : Value) {W : World} (hb : Kp G W w) : Kp G W (w.setCell ⟨q, i, none⟩ u) := by
  obtain ⟨S, h1, h2, h3, h4, h5, h6⟩ := h
  exact Keeps.setCell (S := fun k => ¬ G k) hb (p := ⟨q, i, none⟩) (.inl h5) u
theorem Tw.load (h : Tw G w A V q mark word left done) {a : Int} (ha : isU a) (hc : V.cnt < 1000000000) :
    Calls Tryz.prog 50 #[.pointer (some ⟨A.pc, 0, none⟩), .int .u64 a] w fun e w' => e = .returned (.int .u64 (V.f a)) ∧ Tw G w' A (V.acc V.f 1 a (V.f a) (V.f a)) q mark word left done ∧ Kp G w w' := by
  obtain ⟨S, h1, h2, h3, h4, h5, h6⟩ := h
  exact (wload h1 ha hc).mono fun e w' ⟨he, hp⟩ => ⟨he, Tw.post h2 h3 h4 h5 h6 hp⟩
theorem Tw.cas (h : Tw G w A V q mark word left done) {a was is : Int} (ha : isU a) (hv : isU is) (hc : V.cnt < 1000000000) {r : Bool} (hr : (V.f a == was) = r) :
    Calls Tryz.prog 106 #[.pointer (some ⟨A.pc, 0, none⟩), .int .u64 a, .int .u64 was, .int .u64 is] w fun e w' => e = .returned (.tuple #[.int .u64 (V.f a), .bool r]) ∧ Tw G w' A (V.acc (upd V.f a (casI r is (V.f a))) 3 a (V.f a) (casI r is (V.f a))) q mark word left done ∧ Kp G w w' := by
  obtain ⟨S, h1, h2, h3, h4, h5, h6⟩ := h
  exact (wcas h1 ha hv hc hr).mono fun e w' ⟨he, hp⟩ => ⟨he, Tw.post h2 h3 h4 h5 h6 hp⟩
end
end Go.Proofs.YtodppilfpemepaaGreat
/- Next: Touches of an item: Step, Run. -/
namespace Go.Proofs.YtodppilfpemepaaGreat
open Go.RowKit Go.Maps
set_option linter.unusedVariables false
section
variable {G : Nat → Prop} {w : World} {A : Ad} {V : Wv} {q : Nat} {mark word : Int} {done : Bool}
/-- What a step leaves. -/
def StP (G : Nat → Prop) (w : World) (A : Ad) (V : Wv) (q : Nat) (mark word left : Int) (done over : Bool) (e : Ending) (w' : World) : Prop := e = .returned (.bool over) ∧ Tw G w' A V q mark word left done ∧ Kp G w w'
end
end Go.Proofs.YtodppilfpemepaaGreat
/- Next: Touches of an item: NewTouch, Run. -/
namespace Go.Proofs.YtodppilfpemepaaGreat
open Go.RowKit Go.Maps
set_option linter.unusedVariables false
section
variable {G : Nat → Prop} {w : World} {A : Ad} {V : Wv} {q : Nat} {mark word : Int} {done : Bool}
end
end Go.Proofs.YtodppilfpemepaaGreat
/- Next: Touches of an item: the examples of chapter 22. -/
namespace Go.Proofs.YtodppilfpemepaaGreat
open Go.RowKit Go.Maps
set_option linter.unusedVariables false

def lessF (v : Int) : Int := if v % 2 = 1 then IntKind.u64.wrap (v + 1) else v
/-- The worlds of the examples. -/
def W1 : Wv := V0 ⟨1, 8, 3, 1, 16⟩
def IsW1 (w : World) (e : Ending) (w' : World) : Prop := ∃ A, e = .returned (.pointer (some ⟨A.p, 0, none⟩)) ∧ WdB w' A W1 w.heap.size ∧ Below w.heap.size w w'
theorem world1 (w : World) : Calls Tryz.prog 37 #[.int .i64 1] w (IsW1 w) := by
  have C := Lib.hid (newW 1 8 3 1 16 w (by decide))
  go_enter Tryz.func37, Tryz.ntmps37
  go_wp2_with fail
  refine C.out.mono ?_
  rintro e w1 ⟨A, rfl, hW, K⟩
  have HW := Lib.hid hW
  have HK := Lib.hid K
  clear hW K C
  go_wp2_with fail
  go_ret
  exact ⟨A, rfl, HW.out, HK.out⟩
theorem w1_f (z : Int) (h : z ≠ 2) : W1.f z = 0 := by show upd (fun _ => 0) 2 1 z = 0; exact upd_other h
theorem w1_cnt : W1.cnt = 0 := rfl
section
variable {G : Nat → Prop} {w : World} {A : Ad} {V : Wv} {q : Nat} {m v : Int}
/-- What a run leaves: its world's words, but for one; its touch. -/
def RunP (G : Nat → Prop) (w : World) (A : Ad) (V : Wv) (q : Nat) (m nv word : Int) (done : Bool) (k : Int) (e : Ending) (w' : World) : Prop := e = .returned (.int .i64 k) ∧ ∃ V' : Wv, Tw G w' A V' q m word 0 done ∧ (V'.f m = nv ∧ (∀ z, z ≠ m → V'.f z = V.f z) ∧ V'.cnt = V.cnt + k) ∧ Kp G w w'
theorem WdG.less {G' : Nat → Prop} (h : WdG G w A V) (hG : ∀ k, G' k → G k) : WdG G' w A V := by
  obtain ⟨S, h1, h2, h3⟩ := h
  exact ⟨S, h1, fun k g => h2 k (hG k g), fun k g => h3 k (hG k g)⟩
end
end Go.Proofs.YtodppilfpemepaaGreat
