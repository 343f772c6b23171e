/- An operation's own block beside a world, whatever its cells. -/
import Derived.Test.YtodppilfpemepaaGreatGTo
namespace Go.Proofs.YtodppilfpemepaaGreat
open Go.RowKit Go.Maps
set_option linter.unusedVariables false
/-- A block with these cells, that may be written. -/
structure Ob (w : World) (q : Nat) (C : List Value) : Prop where
  at_ : ∀ i v, C[i]? = some v → w.cell? ⟨q, i, none⟩ = some v
  fz : ∀ i, i < C.length → w.frozen? ⟨q, i, none⟩ = false
  lt : q < w.heap.size
theorem Ob.keep {w W : World} {q : Nat} {C : List Value} {T : Nat → Prop} (h : Ob w q C) (hk : Keeps T w W) (hT : ¬ T q) : Ob W q C :=
  ⟨fun i v hv => hk.cell (p := ⟨q, i, none⟩) hT (h.at_ i v hv), fun i hi => hk.frozen (p := ⟨q, i, none⟩) hT h.lt (h.fz i hi), Nat.lt_of_lt_of_le h.lt hk.size⟩
theorem Ob.new {w W : World} {q : Nat} {C : List Value} (h : Ob w q C) (hb : Below w.heap.size w W) : Ob W q C := h.keep (T := fun _ => False) (Keeps.of_new hb) (fun s => s)
theorem Ob.set {w : World} {q : Nat} {C : List Value} (h : Ob w q C) (i : Nat) (u : Value) (hi : i < C.length) {C' : List Value} (hC : C' = C.set i u) : Ob (w.setCell ⟨q, i, none⟩ u) q C' := by
  subst hC
  refine ⟨fun j v hv => ?_, fun j hj => ?_, by simpa [World.setCell] using h.lt⟩
  · by_cases e : i = j
    · subst e
      rw [List.getElem?_set_self hi] at hv
      injection hv with hv
      subst hv
      exact World.cell?_setCell_same _ _ _ (h.at_ i _ (List.getElem?_eq_getElem hi))
    · rw [List.getElem?_set_ne e] at hv
      exact (World.cell?_setCell_other w ⟨q, i, none⟩ ⟨q, j, none⟩ u (by intro e'; injection e' with _ e'; exact e e')).trans (h.at_ j v hv)
  · rw [World.frozen?_setCell]
    exact h.fz j (by simpa using hj)
theorem ob_new {W : World} {C : Array Value} {T : TypeId} {L : List Value} (hL : L = C.toList) : Ob (W.alloc (.cells C T)) W.heap.size L := by
  subst hL
  exact ⟨fun i v hv => by simpa using hv, fun i hi => by simp, by simp⟩
/-- A world's tickets, one of them turned. -/
def tkU (tk : Nat → Int) (t : Nat) (v : Int) : Nat → Int := fun i => if i = t then v else tk i
theorem IsBox.tkset {w : World} {A : Ad} {c : Cfg} {tk : Nat → Int} {h : Int} (b : IsBox w A c tk h) (t : Nat) (ht : t < 64) (v : Int) : IsBox (w.setCell ⟨A.p, 8 + t, none⟩ (.int .u64 v)) A c (tkU tk t v) h := by
  have o : ∀ {j : Nat} {u : Value}, 8 + t ≠ j → w.cell? ⟨A.p, j, none⟩ = some u → (w.setCell ⟨A.p, 8 + t, none⟩ (.int .u64 v)).cell? ⟨A.p, j, none⟩ = some u := fun hj hc => set_other hj hc
  refine ⟨o (by omega) b.c0, o (by omega) b.c1, o (by omega) b.c2, o (by omega) b.c3, o (by omega) b.c4, o (by omega) b.c5, o (by omega) b.c6, o (by omega) b.c7, fun i hi => ?_, o (by omega) b.ch, fun j hj => by rw [World.frozen?_setCell]; exact b.fz j hj⟩
  unfold tkU
  by_cases e : i = t
  · subst e
    rw [if_pos rfl]
    exact World.cell?_setCell_same _ _ _ (b.ct i hi)
  · rw [if_neg e]
    exact o (by omega) (b.ct i hi)
theorem IsBox.hset {w : World} {A : Ad} {c : Cfg} {tk : Nat → Int} {h : Int} (b : IsBox w A c tk h) (v : Int) : IsBox (w.setCell ⟨A.p, 72, none⟩ (.int .i64 v)) A c tk v := by
  have o : ∀ {j : Nat} {u : Value}, 72 ≠ j → w.cell? ⟨A.p, j, none⟩ = some u → (w.setCell ⟨A.p, 72, none⟩ (.int .i64 v)).cell? ⟨A.p, j, none⟩ = some u := fun hj hc => set_other hj hc
  exact ⟨o (by decide) b.c0, o (by decide) b.c1, o (by decide) b.c2, o (by decide) b.c3, o (by decide) b.c4, o (by decide) b.c5, o (by decide) b.c6, o (by decide) b.c7, fun i hi => o (by omega) (b.ct i hi), World.cell?_setCell_same _ _ _ b.ch, fun j hj => by rw [World.frozen?_setCell]; exact b.fz j hj⟩
theorem Wd.setbox {w : World} {A : Ad} {V V' : Wv} {S : Nat → Prop} (h : Wd w A V S) (o : Nat) (u : Value) (hb : IsBox w A V.c V.tk V.h → IsBox (w.setCell ⟨A.p, o, none⟩ u) A V'.c V'.tk V'.h) (hV : V'.f = V.f ∧ V'.cnt = V.cnt ∧ V'.k = V.k ∧ V'.a = V.a ∧ V'.x = V.x ∧ V'.y = V.y ∧ V'.I = V.I ∧ V'.M = V.M) : Wd (w.setCell ⟨A.p, o, none⟩ u) A V' S := by
  obtain ⟨n, SC, SI, SN, b, c, i, m, h0, h1, h2, h3, h4, h5, h6⟩ := h
  obtain ⟨e1, e2, e3, e4, e5, e6, e7, e8⟩ := hV
  have hk : Keeps (fun j => j = A.p) w (w.setCell ⟨A.p, o, none⟩ u) := Keeps.setCell (S := fun j => j = A.p) (Keeps.refl _ w) (p := ⟨A.p, o, none⟩) (.inl rfl) u
  refine ⟨n, SC, SI, SN, hb b, ?_, ?_, ?_, by rw [e2]; exact h0, by rw [e2]; exact h1, h2, h3, h4, h5, fun k s => Nat.lt_of_lt_of_le (h6 k s) hk.size⟩
  · rw [e1, e2, e3, e4, e5, e6]
    exact IsCells.keep c hk (fun k s => (h3 k s).2.1)
  · rw [e7]
    exact i.keep hk (fun k s => (h4 k s).2.1)
  · rw [e8]
    exact m.keep hk (fun k s => (h5 k s).2)
def Wv.tkset (V : Wv) (t : Nat) (v : Int) : Wv := { V with tk := tkU V.tk t v }
def Wv.hset (V : Wv) (v : Int) : Wv := { V with h := v }
/-- A world and an operation's block beside it. -/
def Opw (G : Nat → Prop) (w : World) (A : Ad) (V : Wv) (q : Nat) (C : List Value) : Prop := ∃ S, Wd w A V S ∧ (∀ k, G k → ¬ S k) ∧ ¬ S q ∧ Ob w q C ∧ ¬ G q ∧ ∀ k, G k → k < w.heap.size
section
variable {G : Nat → Prop} {w : World} {A : Ad} {V : Wv} {q : Nat} {C C' : List Value}
theorem Opw.ob (h : Opw G w A V q C) : Ob w q C := by obtain ⟨S, h1, h2, h3, h4, h5, h6⟩ := h; exact h4
theorem Opw.box (h : Opw G w A V q C) : IsBox w A V.c V.tk V.h := by obtain ⟨S, h1, h2, h3, h4, h5, h6⟩ := h; exact h1.box
theorem Opw.rng (h : Opw G w A V q C) {a : Int} (ha : isU a) : isU (V.f a) := by obtain ⟨S, h1, _⟩ := h; exact h1.rng ha
theorem Opw.ne (h : Opw G w A V q C) : A.p ≠ q := by
  obtain ⟨S, ⟨n, SC, SI, SN, h1⟩, h2, h3, h4, h5, h6⟩ := h
  intro e
  exact h3 (e ▸ h1.here)
theorem Opw.wdG (h : Opw G w A V q C) : WdG (fun k => G k ∨ k = q) w A V := by
  obtain ⟨S, h1, h2, h3, h4, h5, h6⟩ := h
  refine ⟨S, h1, fun k g => ?_, fun k g => ?_⟩
  · rcases g with g | rfl
    · exact h2 k g
    · exact h3
  · rcases g with g | rfl
    · exact h6 k g
    · exact h4.lt
theorem Opw.of (h : WdG (fun k => G k ∨ k = q) w A V) (ho : Ob w q C) (hg : ¬ G q) : Opw G w A V q C := by
  obtain ⟨S, h1, h2, h3⟩ := h
  exact ⟨S, h1, fun k g => h2 k (.inl g), h2 q (.inr rfl), ho, hg, fun k g => h3 k (.inl g)⟩
theorem Opw.new {W : World} (h : Opw G w A V q C) (hb : Below w.heap.size w W) : Opw G W A V q C := by
  obtain ⟨S, h1, h2, h3, h4, h5, h6⟩ := h
  exact ⟨S, h1.new hb, h2, h3, h4.new hb, h5, fun k g => Nat.lt_of_lt_of_le (h6 k g) hb.size⟩
theorem Opw.post {w' : World} {V' : Wv} {S : Nat → Prop} (h2 : ∀ k, G k → ¬ S k) (h3 : ¬ S q) (h4 : Ob w q C) (h5 : ¬ G q) (h6 : ∀ k, G k → k < w.heap.size) (hp : WdPost w A V' S w') : Opw G w' A V' q C ∧ Kp G w w' := by
  obtain ⟨S', t, hw⟩ := hp
  have hl := h4.lt
  refine ⟨⟨S', hw, fun k g s => ?_, fun s => ?_, h4.keep t.keeps h3, h5, fun k g => Nat.lt_of_lt_of_le (h6 k g) t.keeps.size⟩, t.keeps.mono (fun k _ s g => h2 k g s)⟩
  · rcases t.only k s with s | s
    · exact h2 k g s
    · have := h6 k g; omega
  · rcases t.only q s with s | s
    · exact h3 s
    · omega
/-- A store into the operation's own block. -/
theorem Opw.set (h : Opw G w A V q C) (i : Nat) (u : Value) (hi : i < C.length) (hC : C' = C.set i u) : Opw G (w.setCell ⟨q, i, none⟩ u) A V q C' ∧ Kp G w (w.setCell ⟨q, i, none⟩ u) := by
  obtain ⟨S, h1, h2, h3, h4, h5, h6⟩ := h
  have hk := Keeps.setCell (S := fun k => k = q) (Keeps.refl _ w) (p := ⟨q, i, none⟩) (.inl rfl) u
  exact ⟨⟨S, h1.keep hk (fun k s e => h3 (e ▸ s)), h2, h3, h4.set i u hi hC, h5, fun k g => Nat.lt_of_lt_of_le (h6 k g) hk.size⟩, Keeps.setCell (S := fun k => ¬ G k) (Keeps.refl _ w) (p := ⟨q, i, none⟩) (.inl h5) u⟩
/-- A store into the world's own block. -/
theorem Opw.setbox {V' : Wv} (h : Opw G w A V q C) (o : Nat) (u : Value) (hb : IsBox w A V.c V.tk V.h → IsBox (w.setCell ⟨A.p, o, none⟩ u) A V'.c V'.tk V'.h) (hV : V'.f = V.f ∧ V'.cnt = V.cnt ∧ V'.k = V.k ∧ V'.a = V.a ∧ V'.x = V.x ∧ V'.y = V.y ∧ V'.I = V.I ∧ V'.M = V.M) : Opw G (w.setCell ⟨A.p, o, none⟩ u) A V' q C ∧ Kp G w (w.setCell ⟨A.p, o, none⟩ u) := by
  have hne := h.ne
  obtain ⟨S, h1, h2, h3, h4, h5, h6⟩ := h
  have hp : S A.p := by obtain ⟨n, SC, SI, SN, h⟩ := h1; exact h.here
  have hk := Keeps.setCell (S := fun k => k = A.p) (Keeps.refl _ w) (p := ⟨A.p, o, none⟩) (.inl rfl) u
  exact ⟨⟨S, h1.setbox o u hb hV, h2, h3, h4.keep hk (fun e => hne e.symm), h5, fun k g => Nat.lt_of_lt_of_le (h6 k g) hk.size⟩, Keeps.setCell (S := fun k => ¬ G k) (Keeps.refl _ w) (p := ⟨A.p, o, none⟩) (.inl (fun g => h2 _ g hp)) u⟩
theorem Opw.tkset (h : Opw G w A V q C) (t : Nat) (ht : t < 64) (v : Int) : Opw G (w.setCell ⟨A.p, 8 + t, none⟩ (.int .u64 v)) A (V.tkset t v) q C ∧ Kp G w (w.setCell ⟨A.p, 8 + t, none⟩ (.int .u64 v)) :=
  h.setbox (V' := V.tkset t v) _ _ (fun b => b.tkset t ht v) ⟨rfl, rfl, rfl, rfl, rfl, rfl, rfl, rfl⟩
theorem Opw.hset (h : Opw G w A V q C) (v : Int) : Opw G (w.setCell ⟨A.p, 72, none⟩ (.int .i64 v)) A (V.hset v) q C ∧ Kp G w (w.setCell ⟨A.p, 72, none⟩ (.int .i64 v)) :=
  h.setbox (V' := V.hset v) _ _ (fun b => b.hset v) ⟨rfl, rfl, rfl, rfl, rfl, rfl, rfl, rfl⟩
theorem Opw.load (h : Opw G w A V q C) {a : Int} (ha : isU a) (hc : V.cnt < 1000000000) :
    Calls Tryz.prog 50 #[.pointer (some ⟨A.pc, 0, none⟩), .int .u64 a] w fun e w' => e = .returned (.int .u64 (V.f a)) ∧ Opw G w' A (V.acc V.f 1 a (V.f a) (V.f a)) q C ∧ Kp G w w' := by
  obtain ⟨S, h1, h2, h3, h4, h5, h6⟩ := h
  exact (wload h1 ha hc).mono fun e w' ⟨he, hp⟩ => ⟨he, Opw.post h2 h3 h4 h5 h6 hp⟩
theorem Opw.store (h : Opw G w A V q C) {a v : Int} (ha : isU a) (hv : isU v) (hc : V.cnt < 1000000000) :
    Calls Tryz.prog 39 #[.pointer (some ⟨A.pc, 0, none⟩), .int .u64 a, .int .u64 v] w fun e w' => e = .returned (.int .u64 (V.f a)) ∧ Opw G w' A (V.acc (upd V.f a v) 2 a (V.f a) v) q C ∧ Kp G w w' := by
  obtain ⟨S, h1, h2, h3, h4, h5, h6⟩ := h
  exact (wstore h1 ha hv hc).mono fun e w' ⟨he, hp⟩ => ⟨he, Opw.post h2 h3 h4 h5 h6 hp⟩
theorem Opw.add (h : Opw G w A V q C) {a v z : Int} (ha : isU a) (hc : V.cnt < 1000000000) (hz : IntKind.u64.wrap (V.f a + v) = z) :
    Calls Tryz.prog 220 #[.pointer (some ⟨A.pc, 0, none⟩), .int .u64 a, .int .u64 v] w fun e w' => e = .returned (.int .u64 (V.f a)) ∧ Opw G w' A (V.acc (upd V.f a z) 4 a (V.f a) z) q C ∧ Kp G w w' := by
  subst hz
  obtain ⟨S, h1, h2, h3, h4, h5, h6⟩ := h
  exact (wadd h1 ha hc).mono fun e w' ⟨he, hp⟩ => ⟨he, Opw.post h2 h3 h4 h5 h6 hp⟩
theorem Opw.peek (h : Opw G w A V q C) {a : Int} (ha : isU a) :
    Calls Tryz.prog 79 #[.pointer (some ⟨A.pc, 0, none⟩), .int .u64 a] w fun e w' => e = .returned (.int .u64 (V.f a)) ∧ w = w' := by
  obtain ⟨S, h1, h2, h3, h4, h5, h6⟩ := h
  exact wpeek h1 ha
end
end Go.Proofs.YtodppilfpemepaaGreat
