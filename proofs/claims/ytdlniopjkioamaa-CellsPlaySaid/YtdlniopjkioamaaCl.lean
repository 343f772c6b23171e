/- Cells as package cells has them: a map from addresses to words of their own blocks; what stands, by address. -/
import Derived.Test.YtdlniopjkioamaaKeep
import Derived.WalkArith
namespace Go.Proofs.Ytdlniopjkioamaa
open Go.RowKit Go.Maps
set_option linter.unusedVariables false

/-- How an element reads: a pointer to the head of a block, by the block's number; nil as itself. -/
def cR : Value → Option (DataW Unit × List MemPlace)
  | .pointer (some ⟨b, 0, none⟩) => some (.lit (.int .i64 b), [])
  | .pointer none => some (.nil, [])
  | _ => none
theorem cR_at (b : Nat) : cR (.pointer (some ⟨b, 0, none⟩)) = some (.lit (.int .i64 b), []) := rfl
theorem cR_nil : cR (.pointer none) = some (.nil, []) := rfl
theorem cR_lit {v : Value} {b : Nat} {ps : List MemPlace} (h : cR v = some (.lit (.int .i64 b), ps)) : v = .pointer (some ⟨b, 0, none⟩) := by
  unfold cR at h
  split at h
  · simp at h; obtain ⟨h, _⟩ := h; simp
  · simp at h
  · simp at h
theorem cR_no {v : Value} {ps : List MemPlace} (h : cR v = some (.nil, ps)) : v = .pointer none := by
  unfold cR at h
  split at h
  · simp at h
  · rfl
  · simp at h
/-- A word of 64 bits. -/
def isU (a : Int) : Prop := 0 ≤ a ∧ a < 18446744073709551616
theorem isU_wf {a : Int} (h : isU a) : (Lit.int .u64 a).wf = true := by
  obtain ⟨h1, h2⟩ := h
  exact WalkArith.wf_u64 ⟨h1, by omega⟩
def upd (f : Int → Int) (a v : Int) : Int → Int := fun x => if x = a then v else f x
theorem upd_same (f : Int → Int) (a v : Int) : upd f a v a = v := by simp [upd]
theorem upd_other {f : Int → Int} {a v x : Int} (h : x ≠ a) : upd f a v x = f x := by simp [upd, h]
theorem upd_id (f : Int → Int) (a : Int) : upd f a (f a) = f := by funext x; unfold upd; split <;> simp_all
def kA (a : Int) : Lit := .int .u64 a
theorem kA_ne {a b : Int} (h : a ≠ b) : kA a ≠ kA b := by unfold kA; intro e; injection e with _ e; exact h e
theorem kA_key (a : Int) : WideAt.IsKeyLit (kA a) := trivial

structure MapOk (P : Program) (t : TypeId) (w : World) (p m n : Nat) (D : DataW Unit) (f : Int → Int) (S : Nat → Prop) : Prop where
  own : w.ownsMap P t cR m n D
  has : ∀ a, isU a → Maps.has D (kA a) = (f a != 0)
  at_ : ∀ a, isU a → f a ≠ 0 → ∃ b : Nat, D.atKey (kA a) .nil = .lit (.int .i64 b) ∧ w.cell? ⟨b, 0, none⟩ = some (.int .u64 (f a)) ∧ w.frozen? ⟨b, 0, none⟩ = false ∧ S b ∧ b ≠ p ∧ b ≠ m
  inj : ∀ a a', isU a → isU a' → f a ≠ 0 → f a' ≠ 0 → D.atKey (kA a) .nil = D.atKey (kA a') .nil → a = a'
  here : S m
  off : m ≠ p

section
variable {P : Program} {t : TypeId} {w W : World} {p m n : Nat} {D : DataW Unit} {f : Int → Int} {S : Nat → Prop} {a v : Int}
theorem MapOk.lt (h : MapOk P t w p m n D f S) : m < w.heap.size := h.own.lt
theorem MapOk.mono (h : MapOk P t w p m n D f S) {T : Nat → Prop} (hT : ∀ k, S k → T k) : MapOk P t w p m n D f T :=
  ⟨h.own, h.has, fun a ha h0 => by obtain ⟨b, h1, h2, h3, h4, h5⟩ := h.at_ a ha h0; exact ⟨b, h1, h2, h3, hT b h4, h5⟩, h.inj, hT m h.here, h.off⟩
theorem MapOk.keep (h : MapOk P t w p m n D f S) {T : Nat → Prop} (hk : Keeps T w W) (hT : ∀ k, S k → k ≠ p → ¬ T k) : MapOk P t W p m n D f S := by
  refine ⟨hk.ownsMap h.own (hT m h.here h.off), h.has, fun a ha h0 => ?_, h.inj, h.here, h.off⟩
  obtain ⟨b, h1, h2, h3, h4, h5, h6⟩ := h.at_ a ha h0
  have := hT b h4 h5
  exact ⟨b, h1, hk.cell this h2, hk.frozen this (World.block_lt_of_cell? _ _ h2) h3, h4, h5, h6⟩
/-- A word that stands is stored anew. -/
theorem MapOk.set (h : MapOk P t w p m n D f S) (ha : isU a) (h0 : f a ≠ 0) (hv : v ≠ 0) {b : Nat} (hb : D.atKey (kA a) .nil = .lit (.int .i64 b)) : MapOk P t (w.setCell ⟨b, 0, none⟩ (.int .u64 v)) p m n D (upd f a v) S := by
  obtain ⟨b', e1, e2, e3, e4, e5, e6⟩ := h.at_ a ha h0
  rw [hb] at e1
  injection e1 with e1
  injection e1 with _ e1
  obtain rfl : b = b' := by omega
  have hl := World.block_lt_of_cell? _ _ e2
  refine ⟨h.own.setCell (fun e => e6 e.symm) _, fun x hx => ?_, fun x hx h1 => ?_, fun x y hx hy h1 h2 => ?_, h.here, h.off⟩
  · by_cases hxa : x = a
    · subst hxa; rw [upd_same, h.has x hx, bne_iff_ne.2 h0, bne_iff_ne.2 hv]
    · rw [upd_other hxa]; exact h.has x hx
  · by_cases hxa : x = a
    · subst hxa
      rw [upd_same]
      exact ⟨b, hb, World.cell?_setCell_same _ _ _ e2, by simpa using e3, e4, e5, e6⟩
    · rw [upd_other hxa] at h1 ⊢
      obtain ⟨c, c1, c2, c3, c4, c5, c6⟩ := h.at_ x hx h1
      have hne : c ≠ b := fun e => hxa (h.inj x a hx ha h1 h0 (by rw [c1, hb, e]))
      exact ⟨c, c1, (World.cell?_setCell_other _ _ _ _ (by intro e; injection e with e; exact hne e.symm)).trans c2, by simpa using c3, c4, c5, c6⟩
  · have q1 : f x ≠ 0 := by by_cases e : x = a; (subst e; exact h0); (rwa [upd_other e] at h1)
    have q2 : f y ≠ 0 := by by_cases e : y = a; (subst e; exact h0); (rwa [upd_other e] at h2)
    exact h.inj x y hx hy q1 q2
/-- A word is taken away. -/
theorem MapOk.del (h : MapOk P t w p m n D f S) (ha : isU a) (own' : W.ownsMap P t cR m n (D.del (kA a))) (ht : w.mapTurned W m) : MapOk P t W p m n (D.del (kA a)) (upd f a 0) S := by
  have hk : Keeps (fun k => k = m) w W := (Keeps.refl _ w).grown ht.grown (fun k e => by simp at e; exact .inl e.symm)
  refine ⟨own', fun x hx => ?_, fun x hx h1 => ?_, fun x y hx hy h1 h2 => ?_, h.here, h.off⟩
  · by_cases hxa : x = a
    · subst hxa; rw [upd_same, Maps.has_del_same]; rfl
    · rw [upd_other hxa, Maps.has_del_other (kA_ne hxa)]; exact h.has x hx
  · by_cases hxa : x = a
    · subst hxa; exact absurd (upd_same f x 0) h1
    · rw [upd_other hxa] at h1 ⊢
      obtain ⟨c, c1, c2, c3, c4, c5, c6⟩ := h.at_ x hx h1
      exact ⟨c, by rw [Maps.atKey_del_other (kA_ne hxa)]; exact c1, hk.cell c6 c2, hk.frozen c6 (World.block_lt_of_cell? _ _ c2) c3, c4, c5, c6⟩
  · have q1 : x ≠ a := fun e => h1 (by rw [e, upd_same])
    have q2 : y ≠ a := fun e => h2 (by rw [e, upd_same])
    rw [upd_other q1] at h1
    rw [upd_other q2] at h2
    rw [Maps.atKey_del_other (kA_ne q1), Maps.atKey_del_other (kA_ne q2)]
    exact h.inj x y hx hy h1 h2
/-- A word that was 0 gets a block of its own. -/
theorem MapOk.put (h : MapOk P t w p m n D f S) (ha : isU a) (h0 : f a = 0) (hv : v ≠ 0) {g : Nat} (own' : W.ownsMap P t cR m (n + 1) (D.put (kA a) (.lit (.int .i64 g)))) (hk : Keeps (fun k => k = m) w W) (hg : w.heap.size ≤ g) (hgW : g < W.heap.size)
    (hp : p < w.heap.size) {T : Nat → Prop} (hT : ∀ k, S k → T k) (tg : T g) (fg : W.frozen? ⟨g, 0, none⟩ = false) (cg : W.cell? ⟨g, 0, none⟩ = some (.int .u64 v)) : MapOk P t W p m (n + 1) (D.put (kA a) (.lit (.int .i64 g))) (upd f a v) T := by
  have hm := h.lt
  have hD : Maps.IsMap D := h.own.isMap
  refine ⟨own', fun x hx => ?_, fun x hx h1 => ?_, fun x y hx hy h1 h2 => ?_, hT m h.here, h.off⟩
  · by_cases hxa : x = a
    · subst hxa; rw [upd_same, Maps.has_put_same hD (kA_key x)]; simp [hv]
    · rw [upd_other hxa, Maps.has_put_other (kA_ne hxa)]; exact h.has x hx
  · by_cases hxa : x = a
    · subst hxa
      rw [upd_same]
      exact ⟨g, Maps.atKey_put_same hD (kA_key x) _ _, cg, fg, tg, by omega, by omega⟩
    · rw [upd_other hxa] at h1 ⊢
      obtain ⟨c, c1, c2, c3, c4, c5, c6⟩ := h.at_ x hx h1
      exact ⟨c, by rw [Maps.atKey_put_other (kA_ne hxa)]; exact c1, hk.cell c6 c2, hk.frozen c6 (World.block_lt_of_cell? _ _ c2) c3, hT c c4, c5, c6⟩
  · have key : ∀ x, isU x → x ≠ a → f x ≠ 0 → (D.put (kA a) (.lit (.int .i64 g))).atKey (kA x) .nil ≠ (.lit (.int .i64 g) : DataW Unit) := by
      intro x hx hxa hf e
      rw [Maps.atKey_put_other (kA_ne hxa)] at e
      obtain ⟨c, c1, c2, _⟩ := h.at_ x hx hf
      rw [c1] at e
      have := World.block_lt_of_cell? _ _ c2
      injection e with e
      injection e with _ e
      simp at this
      omega
    by_cases e1 : x = a
    · by_cases e2 : y = a
      · rw [e1, e2]; exact fun _ => rfl
      · subst e1
        rw [upd_other e2] at h2
        rw [Maps.atKey_put_same hD (kA_key x)]
        exact fun e => absurd e.symm (key y hy e2 h2)
    · rw [upd_other e1] at h1
      by_cases e2 : y = a
      · subst e2
        rw [Maps.atKey_put_same hD (kA_key y)]
        exact fun e => absurd e (key x hx e1 h1)
      · rw [upd_other e2] at h2
        rw [Maps.atKey_put_other (kA_ne e1), Maps.atKey_put_other (kA_ne e2)]
        exact h.inj x y hx hy h1 h2
/-- A new map has nothing. -/
theorem MapOk.made (own : w.ownsMap P t cR m n (.map [])) (hf : ∀ a, isU a → f a = 0) (hm : S m) (hp : m ≠ p) : MapOk P t w p m n (.map []) f S :=
  ⟨own, fun a ha => by rw [hf a ha]; rfl, fun a ha h0 => absurd (hf a ha) h0, fun a a' ha _ h0 => absurd (hf a ha) h0, hm, hp⟩
end

/-- Cells: the struct's block p; what stands: f; how many accesses: cnt; the last one: k, a, x, y; its own blocks: S. -/
structure IsCells (P : Program) (t : TypeId) (w : World) (p : Nat) (f : Int → Int) (cnt k a x y : Int) (n : Nat) (S : Nat → Prop) : Prop where
  c1 : w.cell? ⟨p, 1, none⟩ = some (.int .i64 cnt)
  c2 : w.cell? ⟨p, 2, none⟩ = some (.int .u8 k)
  c3 : w.cell? ⟨p, 3, none⟩ = some (.int .u64 a)
  c4 : w.cell? ⟨p, 4, none⟩ = some (.int .u64 x)
  c5 : w.cell? ⟨p, 5, none⟩ = some (.int .u64 y)
  fz : ∀ o, o < 6 → w.frozen? ⟨p, o, none⟩ = false
  here : S p
  rng : ∀ a, isU a → isU (f a)
  map : (w.cell? ⟨p, 0, none⟩ = some (.map none) ∧ ∀ a, isU a → f a = 0) ∨ ∃ m D, w.cell? ⟨p, 0, none⟩ = some (.map (some m)) ∧ MapOk P t w p m n D f S
section
variable {P : Program} {t : TypeId} {w W : World} {p n : Nat} {f : Int → Int} {cnt k a x y : Int} {S : Nat → Prop}
theorem IsCells.lt (h : IsCells P t w p f cnt k a x y n S) : p < w.heap.size := World.block_lt_of_cell? _ _ h.c1
/-- Whatever turns other blocks leaves them. -/
theorem IsCells.keep (h : IsCells P t w p f cnt k a x y n S) {T : Nat → Prop} (hk : Keeps T w W) (hT : ∀ k, S k → ¬ T k) : IsCells P t W p f cnt k a x y n S := by
  have hp := hT p h.here
  refine ⟨hk.cell hp h.c1, hk.cell hp h.c2, hk.cell hp h.c3, hk.cell hp h.c4, hk.cell hp h.c5, fun o ho => hk.frozen (p := ⟨p, o, none⟩) hp h.lt (h.fz o ho), h.here, h.rng, ?_⟩
  rcases h.map with ⟨h1, h2⟩ | ⟨m, D, h1, h2⟩
  · exact .inl ⟨hk.cell hp h1, h2⟩
  · exact .inr ⟨m, D, hk.cell hp h1, h2.keep hk (fun k hk' _ => hT k hk')⟩
theorem IsCells.more (h : IsCells P t w p f cnt k a x y n S) {n' : Nat} (hn : n ≤ n') {T : Nat → Prop} (hT : ∀ k, S k → T k) : IsCells P t w p f cnt k a x y n' T := by
  refine ⟨h.c1, h.c2, h.c3, h.c4, h.c5, h.fz, hT p h.here, h.rng, ?_⟩
  rcases h.map with ⟨h1, h2⟩ | ⟨m, D, h1, h2⟩
  · exact .inl ⟨h1, h2⟩
  · have := h2.mono hT
    exact .inr ⟨m, D, h1, ⟨this.own.mono hn, this.has, this.at_, this.inj, this.here, this.off⟩⟩
end

end Go.Proofs.Ytdlniopjkioamaa
