/- Touches of one item, side by side, in a table of eight. -/
import Derived.Test.YtepkpbhhiianpaaGTo
import Derived.Test.YtepkpbhhiianpaaOb
import Derived.Test.YtepkpbhhiianpaaZr
namespace Go.Proofs.Ytepkpbhhiianpaa
open Go.RowKit Go.Maps
set_option linter.unusedVariables false
/-- The blocks of the touches. -/
def TsB (qs : Nat → Option Nat) (j : Nat) : Prop := ∃ k, k < 8 ∧ qs k = some j
section
variable {G GG : Nat → Prop} {w X Y : World} {A : Ad} {V V' : Wv} {q AL LO HA : Nat} {m word left word' left' : Int} {done done' over : Bool}
theorem Tw.ofOp (h : Opw G w A V q [.int .u64 m, .int .u64 word, .int .i64 left, .bool done]) : Tw G w A V q m word left done := by
  obtain ⟨S, h1, h2, h3, h4, h5, h6⟩ := h
  exact ⟨S, h1, h2, h3, ⟨h4.at_ 0 _ rfl, h4.at_ 1 _ rfl, h4.at_ 2 _ rfl, h4.at_ 3 _ rfl, fun j hj => h4.fz j (by simpa using hj)⟩, h5, h6⟩
theorem Tw.toOp (h : Tw G w A V q m word left done) : Opw G w A V q [.int .u64 m, .int .u64 word, .int .i64 left, .bool done] := by
  obtain ⟨S, h1, h2, h3, h4, h5, h6⟩ := h
  refine ⟨S, h1, h2, h3, ⟨fun i v hv => ?_, fun i hi => h4.fz i (by simpa using hi), h4.lt⟩, h5, h6⟩
  match i, hv with
  | 0, hv => simp at hv; subst hv; exact h4.c0
  | 1, hv => simp at hv; subst hv; exact h4.c1
  | 2, hv => simp at hv; subst hv; exact h4.c2
  | 3, hv => simp at hv; subst hv; exact h4.c3
  | i + 4, hv => simp at hv
theorem ob_toR (h : Ob w q [.int .u64 m, .int .u64 word, .int .i64 left, .bool done]) : IsTo w q m word left done :=
  ⟨h.at_ 0 _ rfl, h.at_ 1 _ rfl, h.at_ 2 _ rfl, h.at_ 3 _ rfl, fun j hj => h.fz j (by simpa using hj)⟩
/-- A step of one of them, its block among those that stand. -/
theorem step_in (hs : ∀ G : Nat → Prop, Tw G w A V q m word left done → Calls Try.prog 16 #[.pointer (some ⟨q, 0, none⟩), .pointer (some ⟨A.p, 0, none⟩)] w (StP G w A V' q m word' left' done' over))
    (h : WdG GG w A V) (hq : GG q) (ho : Ob w q [.int .u64 m, .int .u64 word, .int .i64 left, .bool done]) :
    Calls Try.prog 16 #[.pointer (some ⟨q, 0, none⟩), .pointer (some ⟨A.p, 0, none⟩)] w fun e w' => e = .returned (.bool over) ∧ WdG GG w' A V' ∧ Ob w' q [.int .u64 m, .int .u64 word', .int .i64 left', .bool done'] ∧ Kp (fun j => GG j ∧ j ≠ q) w w' := by
  obtain ⟨S, h1, h2, h3⟩ := h
  refine (hs (fun j => GG j ∧ j ≠ q) (Tw.ofOp ⟨S, h1, fun k g => h2 k g.1, h2 q hq, ho, fun g => g.2 rfl, fun k g => h3 k g.1⟩)).mono ?_
  rintro e w' ⟨he, ht, hk⟩
  obtain ⟨S', a1, a2, a3, a4, a5, a6⟩ := ht.toOp
  refine ⟨he, ⟨S', a1, fun k g => ?_, fun k g => Nat.lt_of_lt_of_le (h3 k g) hk.size⟩, a4, hk⟩
  by_cases e : k = q
  · subst e; exact a3
  · exact a2 k ⟨g, e⟩
end
/-- How the table lies. -/
structure RoS (G : Nat → Prop) (X : World) (A : Ad) (V : Wv) (m : Int) (AL LO HA : Nat) (qs : Nat → Option Nat) (wd lf : Nat → Int) (dn hs : Nat → Bool) : Prop where
  wdg : WdG (fun j => G j ∨ TsB qs j) X A V
  al : ∀ k, k < 8 → X.cell? ⟨AL, k, none⟩ = some (.pointer ((qs k).map fun q => ⟨q, 0, none⟩)) ∧ X.frozen? ⟨AL, k, none⟩ = false
  lo : ∀ k, k < 8 → X.frozen? ⟨LO, k, none⟩ = false ∧ ∃ u, X.cell? ⟨LO, k, none⟩ = some (.int .u64 u) ∧ (hs k = true → u = wd k)
  ha : ∀ k, k < 8 → X.cell? ⟨HA, k, none⟩ = some (.bool (hs k)) ∧ X.frozen? ⟨HA, k, none⟩ = false
  tos : ∀ k, k < 8 → ∀ q, qs k = some q → Ob X q [.int .u64 m, .int .u64 (wd k), .int .i64 (lf k), .bool (dn k)] ∧ ¬ G q
  inj : ∀ j k q, j < 8 → k < 8 → qs j = some q → qs k = some q → j = k
/-- What the numbers say: sets is the mark; a mark that was taken away stays away. -/
structure RoN (f : Int → Int) (m : Int) (qs : Nat → Option Nat) (wd lf : Nat → Int) (dn : Nat → Bool) (taken : Bool) (sets : Int) (i : Nat) (first : Int) : Prop where
  sets : sets = f m % 2
  rng : first ≤ f m ∧ f m ≤ first + i
  sw : f 5 = 0 ∨ f 5 = 1
  taken : taken = true → f 5 = 1 ∧ f m % 2 = 0 ∧ ∀ k q, k < 8 → qs k = some q → lf k = 1 → wd k < f m
  tos : ∀ k q, k < 8 → qs k = some q → 0 ≤ wd k ∧ wd k ≤ f m ∧ (lf k = 0 ∨ ((lf k = 1 ∨ lf k = 2) ∧ wd k % 2 = 0 ∧ dn k = false))
section
variable {f f' : Int → Int} {m first : Int} {qs : Nat → Option Nat} {wd lf : Nat → Int} {dn : Nat → Bool} {taken : Bool} {sets : Int} {i : Nat}
theorem RoN.le (h : RoN f m qs wd lf dn taken sets i first) : RoN f m qs wd lf dn taken sets (i + 1) first :=
  ⟨h.sets, ⟨h.rng.1, by have := h.rng.2; omega⟩, h.sw, h.taken, h.tos⟩
/-- CellSweep is set. -/
theorem RoN.on (h : RoN f m qs wd lf dn taken sets i first) (h5 : m ≠ 5) : RoN (upd f 5 1) m qs wd lf dn taken sets (i + 1) first := by
  have e : upd f 5 1 m = f m := upd_other h5
  exact ⟨by rw [e]; exact h.sets, by rw [e]; have := h.rng; omega, .inr (upd_same _ _ _), fun t => ⟨upd_same _ _ _, by rw [e]; exact (h.taken t).2⟩, by rw [e]; exact h.tos⟩
theorem RoN.off (h : RoN f m qs wd lf dn taken sets i first) (h5 : m ≠ 5) : RoN (upd f 5 0) m qs wd lf dn false sets (i + 1) first := by
  have e : upd f 5 0 m = f m := upd_other h5
  exact ⟨by rw [e]; exact h.sets, by rw [e]; have := h.rng; omega, .inl (upd_same _ _ _), fun t => by simp at t, by rw [e]; exact h.tos⟩
/-- The mark is taken away. -/
theorem RoN.take (h : RoN f m qs wd lf dn taken sets i first) (h5 : m ≠ 5) (hs : f 5 = 1) (hm : f m % 2 = 1) : RoN (upd f m (f m + 1)) m qs wd lf dn true 0 (i + 1) first := by
  have e : upd f m (f m + 1) m = f m + 1 := upd_same _ _ _
  have e5 : upd f m (f m + 1) 5 = f 5 := upd_other (fun e => h5 e.symm)
  refine ⟨by rw [e]; omega, by rw [e]; have := h.rng; omega, by rw [e5]; exact h.sw, fun _ => ⟨by rw [e5]; exact hs, by rw [e]; omega, fun k q hk hq hl => ?_⟩, fun k q hk hq => ?_⟩
  · have := h.tos k q hk hq
    rw [e]; omega
  · have := h.tos k q hk hq
    rw [e]
    exact ⟨this.1, by omega, this.2.2⟩
def bput (g : Nat → Bool) (i : Nat) (v : Bool) (j : Nat) : Bool := if j = i then v else g j
def qput (g : Nat → Option Nat) (i : Nat) (v : Option Nat) (j : Nat) : Option Nat := if j = i then v else g j
/-- A touch's first step: it has loaded the word. -/
theorem RoN.stepL {k q : Nat} {l : Int} (h : RoN f m qs wd lf dn taken sets i first) (h0 : 0 ≤ first) (hl : l = 0 ∨ (l = 2 ∧ f m % 2 = 0)) : RoN f m (qput qs k (some q)) (zput wd k (f m)) (zput lf k l) (bput dn k false) taken sets (i + 1) first := by
  have hr := h.rng
  refine ⟨h.sets, by omega, h.sw, fun t => ⟨(h.taken t).1, (h.taken t).2.1, fun j p hj hp hl' => ?_⟩, fun j p hj hp => ?_⟩
  · unfold zput at hl' ⊢
    unfold qput at hp
    by_cases e : j = k
    · rw [if_pos e] at hl'; omega
    · rw [if_neg e] at hl' hp ⊢
      exact (h.taken t).2.2 j p hj hp hl'
  · unfold zput bput
    unfold qput at hp
    by_cases e : j = k
    · rw [if_pos e, if_pos e, if_pos e]
      refine ⟨by omega, by omega, ?_⟩
      rcases hl with hl | hl
      · exact .inl hl
      · exact .inr ⟨.inr hl.1, hl.2, rfl⟩
    · rw [if_neg e] at hp
      rw [if_neg e, if_neg e, if_neg e]
      exact h.tos j p hj hp
/-- Its second one: it has looked at CellSweep. -/
theorem RoN.stepS {k q : Nat} {l : Int} (h : RoN f m qs wd lf dn taken sets i first) (hk : k < 8) (hq : qs k = some q) (h2 : lf k = 2) (hl : l = if f 5 = 0 then 1 else 0) : RoN f m qs wd (zput lf k l) dn taken sets (i + 1) first := by
  have hr := h.rng
  refine ⟨h.sets, by omega, h.sw, fun t => ⟨(h.taken t).1, (h.taken t).2.1, fun j p hj hp hl' => ?_⟩, fun j p hj hp => ?_⟩
  · unfold zput at hl'
    by_cases e : j = k
    · rw [if_pos e] at hl'
      have := (h.taken t).1
      rw [if_neg (by omega)] at hl
      omega
    · rw [if_neg e] at hl'
      exact (h.taken t).2.2 j p hj hp hl'
  · unfold zput
    have := h.tos j p hj hp
    by_cases e : j = k
    · subst e
      rw [if_pos rfl]
      refine ⟨this.1, this.2.1, ?_⟩
      split at hl
      · exact .inr ⟨.inl hl, by omega, by rcases this.2.2 with a | a; omega; exact a.2.2⟩
      · exact .inl hl
    · rw [if_neg e]
      exact this
/-- Its third one: the CAS. -/
theorem RoN.stepC {k q : Nat} {r : Bool} (h : RoN f m qs wd lf dn taken sets i first) (h5 : m ≠ 5) (hk : k < 8) (hq : qs k = some q) (h1 : lf k = 1) (hr : (f m == wd k) = r) : RoN (upd f m (casI r (wd k + 1) (f m))) m qs wd (zput lf k 0) (bput dn k r) taken (sets + if r then 1 else 0) (i + 1) first := by
  have hrg := h.rng
  have hs := h.sets
  have e5 : upd f m (casI r (wd k + 1) (f m)) 5 = f 5 := upd_other (fun e => h5 e.symm)
  have em : upd f m (casI r (wd k + 1) (f m)) m = casI r (wd k + 1) (f m) := upd_same _ _ _
  have hk' := h.tos k q hk hq
  have hev : wd k % 2 = 0 := by rcases hk'.2.2 with a | a; omega; exact a.2.1
  have hle : f m ≤ casI r (wd k + 1) (f m) ∧ casI r (wd k + 1) (f m) ≤ f m + 1 := by
    cases r
    · exact ⟨Int.le_refl _, by show f m ≤ f m + 1; omega⟩
    · have : f m = wd k := by simpa using hr
      show f m ≤ wd k + 1 ∧ wd k + 1 ≤ f m + 1
      omega
  have hst : (sets + if r then 1 else 0) = casI r (wd k + 1) (f m) % 2 := by
    cases r
    · show sets + 0 = f m % 2
      omega
    · have : f m = wd k := by simpa using hr
      show sets + 1 = (wd k + 1) % 2
      omega
  refine ⟨by rw [em]; exact hst, by rw [em]; omega, by rw [e5]; exact h.sw, fun t => ?_, fun j p hj hp => ?_⟩
  · obtain ⟨t1, t2, t3⟩ := h.taken t
    have hlt := t3 k q hk hq h1
    have hrf : r = false := by rw [← hr]; simp; omega
    subst hrf
    rw [e5, em]
    refine ⟨t1, t2, fun j p hj hp hl' => ?_⟩
    unfold zput at hl'
    by_cases e : j = k
    · rw [if_pos e] at hl'; omega
    · rw [if_neg e] at hl'
      exact t3 j p hj hp hl'
  · have := h.tos j p hj hp
    rw [em]
    unfold zput bput
    by_cases e : j = k
    · rw [if_pos e]
      exact ⟨this.1, by omega, .inl rfl⟩
    · rw [if_neg e, if_neg e]
      exact ⟨this.1, by omega, this.2.2⟩
end
section
variable {G U : Nat → Prop} {X Y : World} {A : Ad} {V V' : Wv} {m : Int} {AL LO HA : Nat} {qs : Nat → Option Nat} {wd lf : Nat → Int} {dn hs : Nat → Bool}
theorem RoS.keep (h : RoS G X A V m AL LO HA qs wd lf dn hs) (hk : Keeps U X Y) (h1 : ¬ U AL) (h2 : ¬ U LO) (h3 : ¬ U HA) (h4 : ∀ j, TsB qs j → ¬ U j) (hw : WdG (fun j => G j ∨ TsB qs j) Y A V') : RoS G Y A V' m AL LO HA qs wd lf dn hs :=
  ⟨hw, fun k hk8 => ⟨hk.cell (p := ⟨AL, k, none⟩) h1 (h.al k hk8).1, hk.frozen (p := ⟨AL, k, none⟩) h1 (World.block_lt_of_cell? _ _ (h.al k hk8).1) (h.al k hk8).2⟩,
    fun k hk8 => by
      obtain ⟨z, u, c, e⟩ := h.lo k hk8
      exact ⟨hk.frozen (p := ⟨LO, k, none⟩) h2 (World.block_lt_of_cell? _ _ c) z, u, hk.cell (p := ⟨LO, k, none⟩) h2 c, e⟩,
    fun k hk8 => ⟨hk.cell (p := ⟨HA, k, none⟩) h3 (h.ha k hk8).1, hk.frozen (p := ⟨HA, k, none⟩) h3 (World.block_lt_of_cell? _ _ (h.ha k hk8).1) (h.ha k hk8).2⟩,
    fun k hk8 q hq => ⟨(h.tos k hk8 q hq).1.keep hk (h4 q ⟨k, hk8, hq⟩), (h.tos k hk8 q hq).2⟩, h.inj⟩
theorem RoS.new (h : RoS G X A V m AL LO HA qs wd lf dn hs) (hb : Below X.heap.size X Y) : RoS G Y A V m AL LO HA qs wd lf dn hs :=
  h.keep (U := fun _ => False) (Keeps.of_new hb) (fun s => s) (fun s => s) (fun s => s) (fun _ _ s => s) (h.wdg.new hb)
/-- Behind an access of the world's. -/
theorem RoS.acc (h : RoS G X A V m AL LO HA qs wd lf dn hs) (hG : G AL ∧ G LO ∧ G HA) (hk : Kp (fun j => G j ∨ TsB qs j) X Y) (hw : WdG (fun j => G j ∨ TsB qs j) Y A V') : RoS G Y A V' m AL LO HA qs wd lf dn hs :=
  h.keep hk (fun n => n (.inl hG.1)) (fun n => n (.inl hG.2.1)) (fun n => n (.inl hG.2.2)) (fun j t n => n (.inr t)) hw
/-- Behind a step of one of them. -/
theorem RoS.step {k q : Nat} {w' l' : Int} {d' : Bool} (h : RoS G X A V m AL LO HA qs wd lf dn hs) (hG : G AL ∧ G LO ∧ G HA) (hk8 : k < 8) (hq : qs k = some q) (hk : Kp (fun j => (G j ∨ TsB qs j) ∧ j ≠ q) X Y) (hw : WdG (fun j => G j ∨ TsB qs j) Y A V') (ho : Ob Y q [.int .u64 m, .int .u64 w', .int .i64 l', .bool d']) (hh : hs k = true → w' = wd k) : RoS G Y A V' m AL LO HA qs (zput wd k w') (zput lf k l') (bput dn k d') hs := by
  have hqG := (h.tos k hk8 q hq).2
  have nG : ∀ j, G j → j ≠ q := fun j g e => hqG (e ▸ g)
  have b := h.keep (V' := V') hk (fun n => n ⟨.inl hG.1, nG _ hG.1⟩) (fun n => n ⟨.inl hG.2.1, nG _ hG.2.1⟩) (fun n => n ⟨.inl hG.2.2, nG _ hG.2.2⟩)
  refine ⟨hw, fun j hj => ⟨hk.cell (p := ⟨AL, j, none⟩) (fun n => n ⟨.inl hG.1, nG _ hG.1⟩) (h.al j hj).1, hk.frozen (p := ⟨AL, j, none⟩) (fun n => n ⟨.inl hG.1, nG _ hG.1⟩) (World.block_lt_of_cell? _ _ (h.al j hj).1) (h.al j hj).2⟩, fun j hj => ?_, fun j hj => ⟨hk.cell (p := ⟨HA, j, none⟩) (fun n => n ⟨.inl hG.2.2, nG _ hG.2.2⟩) (h.ha j hj).1, hk.frozen (p := ⟨HA, j, none⟩) (fun n => n ⟨.inl hG.2.2, nG _ hG.2.2⟩) (World.block_lt_of_cell? _ _ (h.ha j hj).1) (h.ha j hj).2⟩, fun j hj p hp => ?_, h.inj⟩
  · obtain ⟨z, u, c, e⟩ := h.lo j hj
    refine ⟨hk.frozen (p := ⟨LO, j, none⟩) (fun n => n ⟨.inl hG.2.1, nG _ hG.2.1⟩) (World.block_lt_of_cell? _ _ c) z, u, hk.cell (p := ⟨LO, j, none⟩) (fun n => n ⟨.inl hG.2.1, nG _ hG.2.1⟩) c, fun t => ?_⟩
    unfold zput
    by_cases e' : j = k
    · subst e'
      rw [if_pos rfl, hh t]
      exact e t
    · rw [if_neg e']
      exact e t
  · unfold zput bput
    by_cases e : j = k
    · subst e
      obtain rfl : q = p := Option.some.inj (hq.symm.trans hp)
      rw [if_pos rfl, if_pos rfl, if_pos rfl]
      exact ⟨ho, hqG⟩
    · rw [if_neg e, if_neg e, if_neg e]
      refine ⟨(h.tos j hj p hp).1.keep hk (fun n => n ⟨.inr ⟨j, hj, hp⟩, fun e2 => e (h.inj j k p hj hk8 hp (e2 ▸ hq))⟩), (h.tos j hj p hp).2⟩
/-- A new one, in the place of what stood there. -/
theorem RoS.newq {k q : Nat} (h : RoS G X A V m AL LO HA qs wd lf dn hs) (hG : G AL ∧ G LO ∧ G HA) (hd : AL ≠ LO ∧ AL ≠ HA ∧ LO ≠ HA) (hk8 : k < 8) (hq : X.heap.size ≤ q) (hb : Below X.heap.size X Y) (ht : Tw (fun j => G j ∨ TsB qs j) Y A V q m 0 3 false) :
    RoS G ((Y.setCell ⟨AL, k, none⟩ (.pointer (some ⟨q, 0, none⟩))).setCell ⟨HA, k, none⟩ (.bool false)) A V m AL LO HA (qput qs k (some q)) (zput wd k 0) (zput lf k 3) (bput dn k false) (bput hs k false) := by
  have hY := h.new hb
  have lt : ∀ j, G j ∨ TsB qs j → j < X.heap.size := by
    obtain ⟨S, s1, s2, s3⟩ := h.wdg
    exact s3
  have nq : ∀ j, G j ∨ TsB qs j → j ≠ q := fun j g e => by have := lt j g; omega
  obtain ⟨S, t1, t2, t3, t4, t5, t6⟩ := ht.toOp
  have k1 : Keeps (fun j => j = AL ∨ j = HA) Y ((Y.setCell ⟨AL, k, none⟩ (.pointer (some ⟨q, 0, none⟩))).setCell ⟨HA, k, none⟩ (.bool false)) := Keeps.setCell (S := fun j => j = AL ∨ j = HA) (Keeps.setCell (S := fun j => j = AL ∨ j = HA) (Keeps.refl _ Y) (p := ⟨AL, k, none⟩) (.inl (.inl rfl)) _) (p := ⟨HA, k, none⟩) (.inl (.inr rfl)) _
  have kH : Keeps (fun j => j = HA) (Y.setCell ⟨AL, k, none⟩ (.pointer (some ⟨q, 0, none⟩))) ((Y.setCell ⟨AL, k, none⟩ (.pointer (some ⟨q, 0, none⟩))).setCell ⟨HA, k, none⟩ (.bool false)) := Keeps.setCell (S := fun j => j = HA) (Keeps.refl _ _) (p := ⟨HA, k, none⟩) (.inl rfl) _
  have kA : Keeps (fun j => j = AL) Y (Y.setCell ⟨AL, k, none⟩ (.pointer (some ⟨q, 0, none⟩))) := Keeps.setCell (S := fun j => j = AL) (Keeps.refl _ _) (p := ⟨AL, k, none⟩) (.inl rfl) _
  have nT : ∀ j, TsB qs j → ¬ (j = AL ∨ j = HA) := fun j tj e => by
    obtain ⟨i, hi, hq'⟩ := tj
    have := (h.tos i hi j hq').2
    rcases e with rfl | rfl
    · exact this hG.1
    · exact this hG.2.2
  refine ⟨⟨S, t1.keep k1 (fun j s e => ?_), fun j g s => ?_, fun j g => ?_⟩, fun j hj => ?_, fun j hj => ?_, fun j hj => ?_, fun j hj p hp => ?_, fun i j p hi hj hpi hpj => ?_⟩
  · rcases e with rfl | rfl
    · exact t2 _ (.inl hG.1) s
    · exact t2 _ (.inl hG.2.2) s
  · rcases g with g | ⟨i, hi, hp⟩
    · exact t2 j (.inl g) s
    · unfold qput at hp
      split at hp
      · obtain rfl : q = j := Option.some.inj hp
        exact t3 s
      · exact t2 j (.inr ⟨i, hi, hp⟩) s
  · refine Nat.lt_of_lt_of_le ?_ k1.size
    rcases g with g | ⟨i, hi, hp⟩
    · exact t6 j (.inl g)
    · unfold qput at hp
      split at hp
      · obtain rfl : q = j := Option.some.inj hp
        exact t4.lt
      · exact t6 j (.inr ⟨i, hi, hp⟩)
  · have c := hY.al j hj
    refine ⟨?_, by rw [World.frozen?_setCell, World.frozen?_setCell]; exact c.2⟩
    unfold qput
    by_cases e : j = k
    · subst e
      rw [if_pos rfl]
      exact kH.cell (p := ⟨AL, j, none⟩) (fun e => hd.2.1 e) (World.cell?_setCell_same _ _ _ c.1)
    · rw [if_neg e]
      exact kH.cell (p := ⟨AL, j, none⟩) (fun e => hd.2.1 e) ((World.cell?_setCell_other Y ⟨AL, k, none⟩ ⟨AL, j, none⟩ _ (by intro e'; injection e' with _ e'; exact e e'.symm)).trans c.1)
  · obtain ⟨z, u, c, e⟩ := hY.lo j hj
    refine ⟨by rw [World.frozen?_setCell, World.frozen?_setCell]; exact z, u, k1.cell (p := ⟨LO, j, none⟩) (fun e => by rcases e with e | e; exact hd.1 e.symm; exact hd.2.2 e) c, fun t => ?_⟩
    unfold bput at t
    unfold zput
    by_cases e' : j = k
    · rw [if_pos e'] at t; simp at t
    · rw [if_neg e'] at t ⊢
      exact e t
  · have c := hY.ha j hj
    refine ⟨?_, by rw [World.frozen?_setCell, World.frozen?_setCell]; exact c.2⟩
    have c' := kA.cell (p := ⟨HA, j, none⟩) (fun e => hd.2.1 e.symm) c.1
    unfold bput
    by_cases e : j = k
    · subst e
      rw [if_pos rfl]
      exact World.cell?_setCell_same _ _ _ c'
    · rw [if_neg e]
      exact (World.cell?_setCell_other _ ⟨HA, k, none⟩ ⟨HA, j, none⟩ _ (by intro e'; injection e' with _ e'; exact e e'.symm)).trans c'
  · unfold zput bput
    unfold qput at hp
    by_cases e : j = k
    · rw [if_pos e] at hp
      obtain rfl : q = p := Option.some.inj hp
      rw [if_pos e, if_pos e, if_pos e]
      exact ⟨t4.keep k1 (fun e2 => by
        rcases e2 with e2 | e2
        · exact nq AL (.inl hG.1) e2.symm
        · exact nq HA (.inl hG.2.2) e2.symm), fun g => nq q (.inl g) rfl⟩
    · rw [if_neg e] at hp
      rw [if_neg e, if_neg e, if_neg e]
      exact ⟨(hY.tos j hj p hp).1.keep k1 (nT p ⟨j, hj, hp⟩), (hY.tos j hj p hp).2⟩
  · unfold qput at hpi hpj
    split at hpi
    · next ei =>
      split at hpj
      · next ej => omega
      · obtain rfl : q = p := Option.some.inj hpi
        exact absurd rfl (nq q (.inr ⟨j, hj, hpj⟩))
    · split at hpj
      · obtain rfl : q = p := Option.some.inj hpj
        exact absurd rfl (nq q (.inr ⟨i, hi, hpi⟩))
      · exact h.inj i j p hi hj hpi hpj
/-- What it loaded is put down. -/
theorem RoS.mark {k : Nat} (h : RoS G X A V m AL LO HA qs wd lf dn hs) (hG : G AL ∧ G LO ∧ G HA) (hd : AL ≠ LO ∧ AL ≠ HA ∧ LO ≠ HA) (hk8 : k < 8) {v : Int} (hv : v = wd k) :
    RoS G ((X.setCell ⟨LO, k, none⟩ (.int .u64 v)).setCell ⟨HA, k, none⟩ (.bool true)) A V m AL LO HA qs wd lf dn (bput hs k true) := by
  have k1 : Keeps (fun j => j = LO ∨ j = HA) X ((X.setCell ⟨LO, k, none⟩ (.int .u64 v)).setCell ⟨HA, k, none⟩ (.bool true)) := Keeps.setCell (S := fun j => j = LO ∨ j = HA) (Keeps.setCell (S := fun j => j = LO ∨ j = HA) (Keeps.refl _ X) (p := ⟨LO, k, none⟩) (.inl (.inl rfl)) _) (p := ⟨HA, k, none⟩) (.inl (.inr rfl)) _
  have kH : Keeps (fun j => j = HA) (X.setCell ⟨LO, k, none⟩ (.int .u64 v)) ((X.setCell ⟨LO, k, none⟩ (.int .u64 v)).setCell ⟨HA, k, none⟩ (.bool true)) := Keeps.setCell (S := fun j => j = HA) (Keeps.refl _ _) (p := ⟨HA, k, none⟩) (.inl rfl) _
  have kL : Keeps (fun j => j = LO) X (X.setCell ⟨LO, k, none⟩ (.int .u64 v)) := Keeps.setCell (S := fun j => j = LO) (Keeps.refl _ _) (p := ⟨LO, k, none⟩) (.inl rfl) _
  have nT : ∀ j, TsB qs j → ¬ (j = LO ∨ j = HA) := fun j tj e => by
    obtain ⟨i, hi, hq'⟩ := tj
    have := (h.tos i hi j hq').2
    rcases e with rfl | rfl
    · exact this hG.2.1
    · exact this hG.2.2
  obtain ⟨S, s1, s2, s3⟩ := h.wdg
  refine ⟨⟨S, s1.keep k1 (fun j s e => ?_), s2, fun j g => Nat.lt_of_lt_of_le (s3 j g) k1.size⟩, fun j hj => ⟨k1.cell (p := ⟨AL, j, none⟩) (fun e => by rcases e with e | e; exact hd.1 e; exact hd.2.1 e) (h.al j hj).1, by rw [World.frozen?_setCell, World.frozen?_setCell]; exact (h.al j hj).2⟩, fun j hj => ?_, fun j hj => ?_, fun j hj p hp => ⟨(h.tos j hj p hp).1.keep k1 (nT p ⟨j, hj, hp⟩), (h.tos j hj p hp).2⟩, h.inj⟩
  · rcases e with rfl | rfl
    · exact s2 _ (.inl hG.2.1) s
    · exact s2 _ (.inl hG.2.2) s
  · obtain ⟨z, u, c, e⟩ := h.lo j hj
    refine ⟨by rw [World.frozen?_setCell, World.frozen?_setCell]; exact z, ?_⟩
    by_cases e' : j = k
    · subst e'
      exact ⟨v, kH.cell (p := ⟨LO, j, none⟩) (fun e => hd.2.2 e) (World.cell?_setCell_same _ _ _ c), fun _ => hv⟩
    · refine ⟨u, kH.cell (p := ⟨LO, j, none⟩) (fun e => hd.2.2 e) ((World.cell?_setCell_other X ⟨LO, k, none⟩ ⟨LO, j, none⟩ _ (by intro e2; injection e2 with _ e2; exact e' e2.symm)).trans c), fun t => ?_⟩
      unfold bput at t
      rw [if_neg e'] at t
      exact e t
  · have c := h.ha j hj
    refine ⟨?_, by rw [World.frozen?_setCell, World.frozen?_setCell]; exact c.2⟩
    have c' := kL.cell (p := ⟨HA, j, none⟩) (fun e => hd.2.2 e.symm) c.1
    unfold bput
    by_cases e : j = k
    · subst e
      rw [if_pos rfl]
      exact World.cell?_setCell_same _ _ _ c'
    · rw [if_neg e]
      exact (World.cell?_setCell_other _ ⟨HA, k, none⟩ ⟨HA, j, none⟩ _ (by intro e'; injection e' with _ e'; exact e e'.symm)).trans c'
end
end Go.Proofs.Ytepkpbhhiianpaa
