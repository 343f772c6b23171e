/- Both worlds of a pair, each by itself: one may be ahead of the other; beside them blocks of others. -/
import Derived.Test.YtodppilfpemepaaGreatGBg
import Derived.Test.YtodppilfpemepaaGreatTi4
import Derived.Test.YtodppilfpemepaaGreatGPx
namespace Go.Proofs.YtodppilfpemepaaGreat
open Go.RowKit Go.Maps
set_option linter.unusedVariables false
section
variable {w : World} {R : Ad} {V : Wv} {T : Nat → Prop}
end
/-- Both worlds, each by itself. -/
def Hf (G : Nat → Prop) (w : World) (A R : Ad) (V V2 : Wv) : Prop := ∃ S T L, Wd w A V S ∧ (Rw w R V2 L T ∧ IsLs L V2.f ∧ (L.length : Int) ≤ V2.cnt + 1000000) ∧ (0 ≤ V2.cnt ∧ ∀ a, isU a → isU (V2.f a)) ∧ (∀ j, S j → ¬ T j) ∧ (∀ k, G k → ¬ (S k ∨ T k)) ∧ ∀ k, G k → k < w.heap.size
section
variable {G : Nat → Prop} {w W : World} {A R : Ad} {V V2 : Wv}
theorem PwG.hf (h : PwG G w A R V) : Hf G w A R V V := by
  obtain ⟨S, T, h1, h2, h3⟩ := h
  obtain ⟨L, r⟩ := h1.r
  exact ⟨S, T, L, h1.a, r, ⟨by obtain ⟨n, SC, SI, SN, ha⟩ := h1.a; exact ha.cnt0, fun a ha => h1.a.rng ha⟩, h1.dis, h2, h3⟩
theorem Hf.pw (h : Hf G w A R V V) : PwG G w A R V := by
  obtain ⟨S, T, L, h1, r, -, hd, hg, hlt⟩ := h
  exact ⟨S, T, ⟨h1, ⟨L, r⟩, hd⟩, hg, hlt⟩
theorem Hf.rng (h : Hf G w A R V V2) {a : Int} (ha : isU a) : isU (V.f a) := by obtain ⟨S, T, L, h1, _⟩ := h; exact h1.rng ha
theorem Hf.box (h : Hf G w A R V V2) : IsBox w A V.c V.tk V.h := by obtain ⟨S, T, L, h1, _⟩ := h; exact h1.box
theorem Hf.rbox (h : Hf G w A R V V2) : IsBox w R V2.c V2.tk V2.h := by
  obtain ⟨S, T, L, h1, ⟨⟨TC, TI, TN, r⟩, -⟩, _⟩ := h
  exact r.box
theorem Hf.ar (h : Hf G w A R V V2) : ¬ G A.p ∧ ¬ G R.p := by
  obtain ⟨S, T, L, ⟨n, SC, SI, SN, h1⟩, ⟨⟨TC, TI, TN, r⟩, -⟩, -, hd, hg, hlt⟩ := h
  exact ⟨fun g => hg _ g (.inl h1.here), fun g => hg _ g (.inr r.here)⟩
theorem Hf.wd (h : Hf G w A R V V2) : WdG G w A V := by
  obtain ⟨S, T, L, h1, r, -, hd, hg, hlt⟩ := h
  exact ⟨S, h1, fun k g s => hg k g (.inl s), hlt⟩
theorem Hf.less {G' : Nat → Prop} (h : Hf G w A R V V2) (hG : ∀ k, G' k → G k) : Hf G' w A R V V2 := by
  obtain ⟨S, T, L, h1, r, c, hd, hg, hlt⟩ := h
  exact ⟨S, T, L, h1, r, c, hd, fun k g => hg k (hG k g), fun k g => hlt k (hG k g)⟩
/-- What turns but blocks of the others, and new ones. -/
theorem Hf.keep {U : Nat → Prop} (h : Hf G w A R V V2) (hk : Keeps U w W) (hU : ∀ k, U k → G k) : Hf G W A R V V2 := by
  obtain ⟨S, T, L, h1, ⟨r, hl, hn⟩, c, hd, hg, hlt⟩ := h
  exact ⟨S, T, L, h1.keep hk (fun k s u => hg k (hU k u) (.inl s)), ⟨r.keep hk (fun k s u => hg k (hU k u) (.inr s)), hl, hn⟩, c, hd, hg, fun k g => Nat.lt_of_lt_of_le (hlt k g) hk.size⟩
theorem Hf.new (h : Hf G w A R V V2) (hb : Below w.heap.size w W) : Hf G W A R V V2 := h.keep (U := fun _ => False) (Keeps.of_new hb) (fun _ s => s.elim)
theorem Hf.lts (h : Hf G w A R V V2) : ∀ k, G k → k < w.heap.size := by
  obtain ⟨S, T, L, h1, r, c, hd, hg, hlt⟩ := h
  exact hlt
/-- A new block more. -/
theorem Hf.add {q : Nat} (h : Hf G w A R V V2) (hb : Below w.heap.size w W) (hq : w.heap.size ≤ q) (hq2 : q < W.heap.size) : Hf (fun k => G k ∨ k = q) W A R V V2 := by
  have hn := h.new hb
  obtain ⟨S, T, L, h1, ⟨r, hl, hn⟩, c, hd, hg, hlt⟩ := h
  have hT : ∀ j, T j → j < w.heap.size := by
    obtain ⟨TC, TI, TN, r⟩ := r
    exact r.lt
  refine ⟨S, T, L, h1.new hb, ⟨r.new hb, hl, hn⟩, c, hd, fun k g s => ?_, fun k g => ?_⟩
  · rcases g with g | rfl
    · exact hg k g s
    · rcases s with s | s
      · have := h1.lt _ s; omega
      · have := hT _ s; omega
  · rcases g with g | rfl
    · exact Nat.lt_of_lt_of_le (hlt k g) hb.size
    · exact hq2
/-- A block more, that is new or one of them, behind what turns but blocks of the others. -/
theorem Hf.addK {q : Nat} {U : Nat → Prop} (h : Hf G w A R V V2) (hk : Keeps U w W) (hU : ∀ k, U k → G k) (hq : G q ∨ w.heap.size ≤ q) (hq2 : q < W.heap.size) : Hf (fun k => G k ∨ k = q) W A R V V2 := by
  obtain ⟨S, T, L, h1, ⟨r, hl, hn⟩, c, hd, hg, hlt⟩ := h
  have hT : ∀ j, T j → j < w.heap.size := by
    obtain ⟨TC, TI, TN, r⟩ := r
    exact r.lt
  refine ⟨S, T, L, h1.keep hk (fun k s u => hg k (hU k u) (.inl s)), ⟨r.keep hk (fun k s u => hg k (hU k u) (.inr s)), hl, hn⟩, c, hd, fun k g s => ?_, fun k g => ?_⟩
  · rcases g with g | rfl
    · exact hg k g s
    · rcases hq with hq | hq
      · exact hg _ hq s
      · rcases s with s | s
        · have := h1.lt _ s; omega
        · have := hT _ s; omega
  · rcases g with g | rfl
    · exact Nat.lt_of_lt_of_le (hlt k g) hk.size
    · exact hq2
/-- New blocks more. -/
theorem Hf.addN (h : Hf G w A R V V2) (hb : Below w.heap.size w W) : Hf (fun k => G k ∨ (w.heap.size ≤ k ∧ k < W.heap.size)) W A R V V2 := by
  obtain ⟨S, T, L, h1, ⟨r, hl, hn⟩, c, hd, hg, hlt⟩ := h
  have hT : ∀ j, T j → j < w.heap.size := by
    obtain ⟨TC, TI, TN, r⟩ := r
    exact r.lt
  refine ⟨S, T, L, h1.new hb, ⟨r.new hb, hl, hn⟩, c, hd, fun k g s => ?_, fun k g => ?_⟩
  · rcases g with g | ⟨g1, g2⟩
    · exact hg k g s
    · rcases s with s | s
      · have := h1.lt _ s; omega
      · have := hT _ s; omega
  · rcases g with g | g
    · exact Nat.lt_of_lt_of_le (hlt k g) hb.size
    · exact g.2
/-- An operation of the program's: its block is one of the others'. -/
theorem Hf.opw {q : Nat} {C : List Value} (h : Hf G w A R V V2) (hq : G q) (ho : Ob w q C) : ∃ T : Nat → Prop, Opw (fun k => (G k ∧ k ≠ q) ∨ T k) w A V q C ∧ ∀ w' V' C', Opw (fun k => (G k ∧ k ≠ q) ∨ T k) w' A V' q C' → Kp (fun k => (G k ∧ k ≠ q) ∨ T k) w w' → Hf G w' A R V' V2 ∧ Ob w' q C' ∧ Kp (fun k => G k ∧ k ≠ q) w w' := by
  obtain ⟨S, T, L, h1, ⟨r, hl, hn⟩, c, hd, hg, hlt⟩ := h
  have hT : ∀ j, T j → j < w.heap.size := by
    obtain ⟨TC, TI, TN, r⟩ := r
    exact r.lt
  refine ⟨T, ⟨S, h1, fun k g s => ?_, fun s => hg q hq (.inl s), ho, fun g => ?_, fun k g => ?_⟩, fun w' V' C' hO hk => ?_⟩
  · rcases g with g | g
    · exact hg k g.1 (.inl s)
    · exact hd k s g
  · rcases g with g | g
    · exact g.2 rfl
    · exact hg q hq (.inr g)
  · rcases g with g | g
    · exact hlt k g.1
    · exact hT k g
  · obtain ⟨S', a1, a2, a3, a4, a5, a6⟩ := hO
    refine ⟨⟨S', T, L, a1, ⟨r.keep hk (fun k t n => n (.inr t)), hl, hn⟩, c, fun j s t => a2 j (.inr t) s, fun k g s => ?_, fun k g => Nat.lt_of_lt_of_le (hlt k g) hk.size⟩, a4, hk.mono (fun k _ n g => n (.inl g))⟩
    rcases s with s | s
    · by_cases e : k = q
      · subst e; exact a3 s
      · exact a2 k (.inl ⟨g, e⟩) s
    · exact hg k g (.inr s)
theorem Hf.rpost {S T T' : Nat → Prop} {V2' : Wv} {L' : List (Int × Int)} (h1 : Wd w A V S) (hd : ∀ j, S j → ¬ T j) (hg : ∀ k, G k → ¬ (S k ∨ T k)) (hlt : ∀ k, G k → k < w.heap.size) (t : Turn T T' w W) (r' : Rw W R V2' L' T') (hl' : IsLs L' V2'.f) (hn' : (L'.length : Int) ≤ V2'.cnt + 1000000) (c' : 0 ≤ V2'.cnt ∧ ∀ a, isU a → isU (V2'.f a)) : Hf G W A R V V2' ∧ Kp G w W := by
  refine ⟨⟨S, T', L', h1.keep t.keeps hd, ⟨r', hl', hn'⟩, c', fun j s t' => ?_, fun k g s => ?_, fun k g => Nat.lt_of_lt_of_le (hlt k g) t.keeps.size⟩, t.keeps.mono (fun k _ s g => hg k g (.inr s))⟩
  · rcases t.only j t' with t' | t'
    · exact hd j s t'
    · have := h1.lt j s; omega
  · rcases s with s | s
    · exact hg k g (.inl s)
    · rcases t.only k s with s | s
      · exact hg k g (.inr s)
      · have := hlt k g; omega
theorem put_len (a v : Int) (L : List (Int × Int)) : (putL L a v).length ≤ L.length + 1 := goL_len a v L (v == 0)
/-- The chapter's store, load and add. -/
theorem Hf.rstore (h : Hf G w A R V V2) (hc : V2.cnt < 100000000) {a v : Int} (ha : isU a) (hv : isU v) :
    Calls Tryz.prog 57 #[.pointer (some ⟨R.p, 0, none⟩), .int .u64 a, .int .u64 v] w fun e w' => e = .returned (.int .u64 (V2.f a)) ∧ Hf G w' A R V (V2.acc (upd V2.f a v) 2 a (V2.f a) v) ∧ Kp G w w' := by
  obtain ⟨S, T, L, h1, ⟨r, hl, hn⟩, ⟨c0, cu⟩, hd, hg, hlt⟩ := h
  refine (rw_store (v := v) r hn hl c0 hc ha).mono ?_
  rintro e w' ⟨rfl, T', t, r'⟩
  refine ⟨rfl, Hf.rpost h1 hd hg hlt t r' (hl.put ha hv) ?_ ⟨?_, fun b hb => ?_⟩⟩
  · have := put_len a v L
    show ((putL L a v).length : Int) ≤ V2.cnt + 1 + 1000000
    omega
  · show 0 ≤ V2.cnt + 1
    omega
  · show isU (upd V2.f a v b)
    unfold upd
    split
    · exact hv
    · exact cu b hb
/-- A store into a block of the others'. -/
theorem Hf.set {q i : Nat} (h : Hf G w A R V V2) (hq : G q) (u : Value) : Hf G (w.setCell ⟨q, i, none⟩ u) A R V V2 ∧ Kp (fun k => G k ∧ k ≠ q) w (w.setCell ⟨q, i, none⟩ u) :=
  ⟨h.keep (U := fun k => k = q) (Keeps.setCell (S := fun k => k = q) (Keeps.refl _ w) (p := ⟨q, i, none⟩) (.inl rfl) u) (fun k e => e ▸ hq), Keeps.setCell (S := fun k => ¬ (G k ∧ k ≠ q)) (Keeps.refl _ w) (p := ⟨q, i, none⟩) (.inl (fun g => g.2 rfl)) u⟩
end
end Go.Proofs.YtodppilfpemepaaGreat
