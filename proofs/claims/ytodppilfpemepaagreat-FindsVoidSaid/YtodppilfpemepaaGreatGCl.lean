/- Cells as package cells has them: a map from addresses to words of their own blocks; what stands, by address. -/
import Derived.Test.YtodppilfpemepaaGreatKeep
import Derived.WalkArith
import Derived.Test.YtodppilfpemepaaGreatChecked
import Derived.Laws.LoneSync
import Derived.OwnWalk
import Derived.Deep.Cut
import Derived.Deep.CutBlock
import Derived.RegionTactic
import Derived.Laws.NewBlocks
import Derived.LoopN
import Derived.LoopTactic
import Derived.Maps.RangeWalk
import Derived.Laws.RangeAny
namespace Go.Proofs.YtodppilfpemepaaGreat
open Go.RowKit Go.Maps
set_option linter.unusedVariables false

/-- How an element reads: a pointer to the head of a block, by the block's number; nil as itself. -/
def cR : Value → Option (DataW Unit × List MemPlace)
  | .pointer (some ⟨b, 0, none⟩) => some (.lit (.int .i64 b), [])
  | .pointer none => some (.nil, [])
  | _ => none
theorem cR_at (b : Nat) : cR (.pointer (some ⟨b, 0, none⟩)) = some (.lit (.int .i64 b), []) := rfl
theorem cR_nil : cR (.pointer none) = some (.nil, []) := rfl
theorem cR_lit {v : Value} {b : Nat} {ps : List MemPlace} (h : cR v = some (.lit (.int .i64 b), ps)) : v = .pointer (some ⟨b, 0, none⟩) := by
  unfold cR at h
  split at h
  · simp at h; obtain ⟨h, _⟩ := h; simp
  · simp at h
  · simp at h
theorem cR_no {v : Value} {ps : List MemPlace} (h : cR v = some (.nil, ps)) : v = .pointer none := by
  unfold cR at h
  split at h
  · simp at h
  · rfl
  · simp at h
/-- A word of 64 bits. -/
def isU (a : Int) : Prop := 0 ≤ a ∧ a < 18446744073709551616
theorem isU_wf {a : Int} (h : isU a) : (Lit.int .u64 a).wf = true := by
  obtain ⟨h1, h2⟩ := h
  exact WalkArith.wf_u64 ⟨h1, by omega⟩
def upd (f : Int → Int) (a v : Int) : Int → Int := fun x => if x = a then v else f x
theorem upd_same (f : Int → Int) (a v : Int) : upd f a v a = v := by simp [upd]
theorem upd_other {f : Int → Int} {a v x : Int} (h : x ≠ a) : upd f a v x = f x := by simp [upd, h]
theorem upd_id (f : Int → Int) (a : Int) : upd f a (f a) = f := by funext x; unfold upd; split <;> simp_all
def kA (a : Int) : Lit := .int .u64 a
theorem kA_ne {a b : Int} (h : a ≠ b) : kA a ≠ kA b := by unfold kA; intro e; injection e with _ e; exact h e
theorem kA_key (a : Int) : WideAt.IsKeyLit (kA a) := trivial

structure MapOk (P : Program) (t : TypeId) (w : World) (p m n : Nat) (D : DataW Unit) (f : Int → Int) (S : Nat → Prop) : Prop where
  own : w.ownsMap P t cR m n D
  has : ∀ a, isU a → Maps.has D (kA a) = (f a != 0)
  at_ : ∀ a, isU a → f a ≠ 0 → ∃ b : Nat, D.atKey (kA a) .nil = .lit (.int .i64 b) ∧ w.cell? ⟨b, 0, none⟩ = some (.int .u64 (f a)) ∧ w.frozen? ⟨b, 0, none⟩ = false ∧ S b ∧ b ≠ p ∧ b ≠ m
  inj : ∀ a a', isU a → isU a' → f a ≠ 0 → f a' ≠ 0 → D.atKey (kA a) .nil = D.atKey (kA a') .nil → a = a'
  here : S m
  off : m ≠ p

section
variable {P : Program} {t : TypeId} {w W : World} {p m n : Nat} {D : DataW Unit} {f : Int → Int} {S : Nat → Prop} {a v : Int}
theorem MapOk.lt (h : MapOk P t w p m n D f S) : m < w.heap.size := h.own.lt
theorem MapOk.mono (h : MapOk P t w p m n D f S) {T : Nat → Prop} (hT : ∀ k, S k → T k) : MapOk P t w p m n D f T :=
  ⟨h.own, h.has, fun a ha h0 => by obtain ⟨b, h1, h2, h3, h4, h5⟩ := h.at_ a ha h0; exact ⟨b, h1, h2, h3, hT b h4, h5⟩, h.inj, hT m h.here, h.off⟩
theorem MapOk.keep (h : MapOk P t w p m n D f S) {T : Nat → Prop} (hk : Keeps T w W) (hT : ∀ k, S k → k ≠ p → ¬ T k) : MapOk P t W p m n D f S := by
  refine ⟨hk.ownsMap h.own (hT m h.here h.off), h.has, fun a ha h0 => ?_, h.inj, h.here, h.off⟩
  obtain ⟨b, h1, h2, h3, h4, h5, h6⟩ := h.at_ a ha h0
  have := hT b h4 h5
  exact ⟨b, h1, hk.cell this h2, hk.frozen this (World.block_lt_of_cell? _ _ h2) h3, h4, h5, h6⟩
/-- A word that stands is stored anew. -/
theorem MapOk.set (h : MapOk P t w p m n D f S) (ha : isU a) (h0 : f a ≠ 0) (hv : v ≠ 0) {b : Nat} (hb : D.atKey (kA a) .nil = .lit (.int .i64 b)) : MapOk P t (w.setCell ⟨b, 0, none⟩ (.int .u64 v)) p m n D (upd f a v) S := by
  obtain ⟨b', e1, e2, e3, e4, e5, e6⟩ := h.at_ a ha h0
  rw [hb] at e1
  injection e1 with e1
  injection e1 with _ e1
  obtain rfl : b = b' := by omega
  have hl := World.block_lt_of_cell? _ _ e2
  refine ⟨h.own.setCell (fun e => e6 e.symm) _, fun x hx => ?_, fun x hx h1 => ?_, fun x y hx hy h1 h2 => ?_, h.here, h.off⟩
  · by_cases hxa : x = a
    · subst hxa; rw [upd_same, h.has x hx, bne_iff_ne.2 h0, bne_iff_ne.2 hv]
    · rw [upd_other hxa]; exact h.has x hx
  · by_cases hxa : x = a
    · subst hxa
      rw [upd_same]
      exact ⟨b, hb, World.cell?_setCell_same _ _ _ e2, by simpa using e3, e4, e5, e6⟩
    · rw [upd_other hxa] at h1 ⊢
      obtain ⟨c, c1, c2, c3, c4, c5, c6⟩ := h.at_ x hx h1
      have hne : c ≠ b := fun e => hxa (h.inj x a hx ha h1 h0 (by rw [c1, hb, e]))
      exact ⟨c, c1, (World.cell?_setCell_other _ _ _ _ (by intro e; injection e with e; exact hne e.symm)).trans c2, by simpa using c3, c4, c5, c6⟩
  · have q1 : f x ≠ 0 := by by_cases e : x = a; (subst e; exact h0); (rwa [upd_other e] at h1)
    have q2 : f y ≠ 0 := by by_cases e : y = a; (subst e; exact h0); (rwa [upd_other e] at h2)
    exact h.inj x y hx hy q1 q2
/-- A word is taken away. -/
theorem MapOk.del (h : MapOk P t w p m n D f S) (ha : isU a) (own' : W.ownsMap P t cR m n (D.del (kA a))) (ht : w.mapTurned W m) : MapOk P t W p m n (D.del (kA a)) (upd f a 0) S := by
  have hk : Keeps (fun k => k = m) w W := (Keeps.refl _ w).grown ht.grown (fun k e => by simp at e; exact .inl e.symm)
  refine ⟨own', fun x hx => ?_, fun x hx h1 => ?_, fun x y hx hy h1 h2 => ?_, h.here, h.off⟩
  · by_cases hxa : x = a
    · subst hxa; rw [upd_same, Maps.has_del_same]; rfl
    · rw [upd_other hxa, Maps.has_del_other (kA_ne hxa)]; exact h.has x hx
  · by_cases hxa : x = a
    · subst hxa; exact absurd (upd_same f x 0) h1
    · rw [upd_other hxa] at h1 ⊢
      obtain ⟨c, c1, c2, c3, c4, c5, c6⟩ := h.at_ x hx h1
      exact ⟨c, by rw [Maps.atKey_del_other (kA_ne hxa)]; exact c1, hk.cell c6 c2, hk.frozen c6 (World.block_lt_of_cell? _ _ c2) c3, c4, c5, c6⟩
  · have q1 : x ≠ a := fun e => h1 (by rw [e, upd_same])
    have q2 : y ≠ a := fun e => h2 (by rw [e, upd_same])
    rw [upd_other q1] at h1
    rw [upd_other q2] at h2
    rw [Maps.atKey_del_other (kA_ne q1), Maps.atKey_del_other (kA_ne q2)]
    exact h.inj x y hx hy h1 h2
/-- A word that was 0 gets a block of its own. -/
theorem MapOk.put (h : MapOk P t w p m n D f S) (ha : isU a) (h0 : f a = 0) (hv : v ≠ 0) {g : Nat} (own' : W.ownsMap P t cR m (n + 1) (D.put (kA a) (.lit (.int .i64 g)))) (hk : Keeps (fun k => k = m) w W) (hg : w.heap.size ≤ g) (hgW : g < W.heap.size)
    (hp : p < w.heap.size) {T : Nat → Prop} (hT : ∀ k, S k → T k) (tg : T g) (fg : W.frozen? ⟨g, 0, none⟩ = false) (cg : W.cell? ⟨g, 0, none⟩ = some (.int .u64 v)) : MapOk P t W p m (n + 1) (D.put (kA a) (.lit (.int .i64 g))) (upd f a v) T := by
  have hm := h.lt
  have hD : Maps.IsMap D := h.own.isMap
  refine ⟨own', fun x hx => ?_, fun x hx h1 => ?_, fun x y hx hy h1 h2 => ?_, hT m h.here, h.off⟩
  · by_cases hxa : x = a
    · subst hxa; rw [upd_same, Maps.has_put_same hD (kA_key x)]; simp [hv]
    · rw [upd_other hxa, Maps.has_put_other (kA_ne hxa)]; exact h.has x hx
  · by_cases hxa : x = a
    · subst hxa
      rw [upd_same]
      exact ⟨g, Maps.atKey_put_same hD (kA_key x) _ _, cg, fg, tg, by omega, by omega⟩
    · rw [upd_other hxa] at h1 ⊢
      obtain ⟨c, c1, c2, c3, c4, c5, c6⟩ := h.at_ x hx h1
      exact ⟨c, by rw [Maps.atKey_put_other (kA_ne hxa)]; exact c1, hk.cell c6 c2, hk.frozen c6 (World.block_lt_of_cell? _ _ c2) c3, hT c c4, c5, c6⟩
  · have key : ∀ x, isU x → x ≠ a → f x ≠ 0 → (D.put (kA a) (.lit (.int .i64 g))).atKey (kA x) .nil ≠ (.lit (.int .i64 g) : DataW Unit) := by
      intro x hx hxa hf e
      rw [Maps.atKey_put_other (kA_ne hxa)] at e
      obtain ⟨c, c1, c2, _⟩ := h.at_ x hx hf
      rw [c1] at e
      have := World.block_lt_of_cell? _ _ c2
      injection e with e
      injection e with _ e
      simp at this
      omega
    by_cases e1 : x = a
    · by_cases e2 : y = a
      · rw [e1, e2]; exact fun _ => rfl
      · subst e1
        rw [upd_other e2] at h2
        rw [Maps.atKey_put_same hD (kA_key x)]
        exact fun e => absurd e.symm (key y hy e2 h2)
    · rw [upd_other e1] at h1
      by_cases e2 : y = a
      · subst e2
        rw [Maps.atKey_put_same hD (kA_key y)]
        exact fun e => absurd e (key x hx e1 h1)
      · rw [upd_other e2] at h2
        rw [Maps.atKey_put_other (kA_ne e1), Maps.atKey_put_other (kA_ne e2)]
        exact h.inj x y hx hy h1 h2
/-- A new map has nothing. -/
theorem MapOk.made (own : w.ownsMap P t cR m n (.map [])) (hf : ∀ a, isU a → f a = 0) (hm : S m) (hp : m ≠ p) : MapOk P t w p m n (.map []) f S :=
  ⟨own, fun a ha => by rw [hf a ha]; rfl, fun a ha h0 => absurd (hf a ha) h0, fun a a' ha _ h0 => absurd (hf a ha) h0, hm, hp⟩
end

/-- Cells: the struct's block p; what stands: f; how many accesses: cnt; the last one: k, a, x, y; its own blocks: S. -/
structure IsCells (P : Program) (t : TypeId) (w : World) (p : Nat) (f : Int → Int) (cnt k a x y : Int) (n : Nat) (S : Nat → Prop) : Prop where
  c1 : w.cell? ⟨p, 1, none⟩ = some (.int .i64 cnt)
  c2 : w.cell? ⟨p, 2, none⟩ = some (.int .u8 k)
  c3 : w.cell? ⟨p, 3, none⟩ = some (.int .u64 a)
  c4 : w.cell? ⟨p, 4, none⟩ = some (.int .u64 x)
  c5 : w.cell? ⟨p, 5, none⟩ = some (.int .u64 y)
  fz : ∀ o, o < 6 → w.frozen? ⟨p, o, none⟩ = false
  here : S p
  rng : ∀ a, isU a → isU (f a)
  map : (w.cell? ⟨p, 0, none⟩ = some (.map none) ∧ ∀ a, isU a → f a = 0) ∨ ∃ m D, w.cell? ⟨p, 0, none⟩ = some (.map (some m)) ∧ MapOk P t w p m n D f S
section
variable {P : Program} {t : TypeId} {w W : World} {p n : Nat} {f : Int → Int} {cnt k a x y : Int} {S : Nat → Prop}
theorem IsCells.lt (h : IsCells P t w p f cnt k a x y n S) : p < w.heap.size := World.block_lt_of_cell? _ _ h.c1
/-- Whatever turns other blocks leaves them. -/
theorem IsCells.keep (h : IsCells P t w p f cnt k a x y n S) {T : Nat → Prop} (hk : Keeps T w W) (hT : ∀ k, S k → ¬ T k) : IsCells P t W p f cnt k a x y n S := by
  have hp := hT p h.here
  refine ⟨hk.cell hp h.c1, hk.cell hp h.c2, hk.cell hp h.c3, hk.cell hp h.c4, hk.cell hp h.c5, fun o ho => hk.frozen (p := ⟨p, o, none⟩) hp h.lt (h.fz o ho), h.here, h.rng, ?_⟩
  rcases h.map with ⟨h1, h2⟩ | ⟨m, D, h1, h2⟩
  · exact .inl ⟨hk.cell hp h1, h2⟩
  · exact .inr ⟨m, D, hk.cell hp h1, h2.keep hk (fun k hk' _ => hT k hk')⟩
theorem IsCells.more (h : IsCells P t w p f cnt k a x y n S) {n' : Nat} (hn : n ≤ n') {T : Nat → Prop} (hT : ∀ k, S k → T k) : IsCells P t w p f cnt k a x y n' T := by
  refine ⟨h.c1, h.c2, h.c3, h.c4, h.c5, h.fz, hT p h.here, h.rng, ?_⟩
  rcases h.map with ⟨h1, h2⟩ | ⟨m, D, h1, h2⟩
  · exact .inl ⟨h1, h2⟩
  · have := h2.mono hT
    exact .inr ⟨m, D, h1, ⟨this.own.mono hn, this.has, this.at_, this.inj, this.here, this.off⟩⟩
end

end Go.Proofs.YtodppilfpemepaaGreat
/- Next: Contracts of package cells: what is told without an access. -/
namespace Go.Proofs.YtodppilfpemepaaGreat
open Go.RowKit Go.Maps
set_option linter.unusedVariables false

theorem lawA : Keyed Tryz.prog 78 := int_keyed Tryz.underlying78
theorem keyA {a : Int} (h : isU a) : Go.keyOf Tryz.prog 78 (.int .u64 a) = some (kA a) := keyOf_int_mk Tryz.underlying78 (isU_wf h)
theorem zeroP (w : World) : (zeroValue 191).run Tryz.prog w = .ok (.pointer none) w := by kernel_rfl
/-- Cells of this program. -/
def Cel (w : World) (p : Nat) (f : Int → Int) (cnt k a x y : Int) (n : Nat) (S : Nat → Prop) : Prop := IsCells Tryz.prog 78 w p f cnt k a x y n S

theorem aload (b : Nat) (v : Int) (w : World) (hc : w.cell? ⟨b, 0, none⟩ = some (.int .u64 v)) :
    Calls Tryz.prog 114 #[.pointer (some ⟨b, 0, none⟩)] w fun e w' => e = .returned (.int .u64 v) ∧ w = w' := by
  have hl := run_call_load (P := Tryz.prog) Tryz.func143 (by kernel_rfl) (by kernel_rfl) (by kernel_rfl) .u64 (by kernel_rfl) hc
  go_enter Tryz.func114, Tryz.ntmps114
  go_wp2_with fail
  go_ret
  exact ⟨rfl, rfl⟩
theorem astore (b : Nat) (u v : Int) (w : World) (hc : w.cell? ⟨b, 0, none⟩ = some (.int .u64 u)) (hf : w.frozen? ⟨b, 0, none⟩ = false) :
    Calls Tryz.prog 125 #[.pointer (some ⟨b, 0, none⟩), .int .u64 v] w fun e w' => e = .returned (.tuple #[]) ∧ w' = w.setCell ⟨b, 0, none⟩ (.int .u64 v) := by
  have hl := run_call_store (P := Tryz.prog) Tryz.func147 (by kernel_rfl) (by kernel_rfl) (by kernel_rfl) (by kernel_rfl) (k := .u64) (y := v) hc hf
  go_enter Tryz.func125, Tryz.ntmps125
  go_wp2_with fail
  go_end0
  exact ⟨rfl, rfl⟩
theorem peek_nil (a : Int) (w : World) : Calls Tryz.prog 79 #[.pointer none, .int .u64 a] w fun e w' => e = .returned (.int .u64 0) ∧ w = w' := by
  go_enter Tryz.func79, Tryz.ntmps79
  go_wp2_with fail
  go_ret
  exact ⟨rfl, rfl⟩
theorem peek_any {w : World} {p n : Nat} {f : Int → Int} {cnt k a0 x y : Int} {S : Nat → Prop} (h : Cel w p f cnt k a0 x y n S) (a : Int) (ha : isU a) :
    Calls Tryz.prog 79 #[.pointer (some ⟨p, 0, none⟩), .int .u64 a] w fun e w' => e = .returned (.int .u64 (f a)) ∧ w = w' := by
  rcases h.map with ⟨hm, hf⟩ | ⟨m, D, hm, H⟩
  · have hl := Maps.look_nil (P := Tryz.prog) (w := w) true lawA Tryz.underlying181 (zeroP w) (keyA ha)
    rw [hf a ha]
    clear hf h
    go_enter Tryz.func79, Tryz.ntmps79
    go_wp2_with fail
    go_ret
    exact ⟨rfl, rfl⟩
  · obtain ⟨v, ps, hrun, hv⟩ := H.own.look_ok lawA Tryz.underlying181 (zeroP w) cR_nil (keyA ha)
    rw [H.has a ha] at hrun
    by_cases h0 : f a = 0
    · have e : (f a != 0) = false := by rw [h0]; rfl
      rw [e] at hrun
      rw [h0]
      clear h H hv e h0
      go_enter Tryz.func79, Tryz.ntmps79
      go_wp2_with fail
      go_ret
      exact ⟨rfl, rfl⟩
    · have e : (f a != 0) = true := bne_iff_ne.2 h0
      obtain ⟨b, hb, hc, hfz, -⟩ := H.at_ a ha h0
      rw [hb] at hv
      obtain rfl := cR_lit hv
      rw [e] at hrun
      clear h H hv e h0 hb
      generalize f a = z at hc ⊢
      go_enter Tryz.func79, Tryz.ntmps79
      go_wp2_with (go_at_call 114; refine (aload _ _ _ hc).mono ?_; rintro e w' ⟨rfl, rfl⟩)
      go_ret
      exact ⟨rfl, rfl⟩
theorem count_nil (w : World) : Calls Tryz.prog 78 #[.pointer none] w fun e w' => e = .returned (.int .i64 0) ∧ w = w' := by
  go_enter Tryz.func78, Tryz.ntmps78
  go_wp2_with fail
  go_ret
  exact ⟨rfl, rfl⟩
theorem count_any {w : World} {p n : Nat} {f : Int → Int} {cnt k a0 x y : Int} {S : Nat → Prop} (h : Cel w p f cnt k a0 x y n S) :
    Calls Tryz.prog 78 #[.pointer (some ⟨p, 0, none⟩)] w fun e w' => e = .returned (.int .i64 cnt) ∧ w = w' := by
  have hc := h.c1
  clear h
  go_enter Tryz.func78, Tryz.ntmps78
  go_wp2_with fail
  go_ret
  exact ⟨rfl, rfl⟩
theorem last_nil (w : World) : Calls Tryz.prog 74 #[.pointer none] w fun e w' => e = .returned (.agg #[.int .u8 0, .int .u64 0, .int .u64 0, .int .u64 0]) ∧ Below w.heap.size w w' := by
  go_enter Tryz.func74, Tryz.ntmps74
  go_wp2_with fail
  refine bodyPost_ret (v := .agg #[.int .u8 0, .int .u64 0, .int .u64 0, .int .u64 0]) (by simp [results, Tryz.results74, go_sem]) rfl ⟨rfl, ?_⟩
  exact (Below.refl w.heap.size w).alloc (Nat.le_refl _) _
end Go.Proofs.YtodppilfpemepaaGreat
/- Next: Cells: what becomes of them as a word is put, an access is done. -/
namespace Go.Proofs.YtodppilfpemepaaGreat
open Go.RowKit Go.Maps
set_option linter.unusedVariables false
section
variable {P : Program} {t T e : TypeId} {w W w2 : World} {p m n : Nat} {D : DataW Unit} {f : Int → Int} {cnt k a0 x y a v : Int} {S : Nat → Prop}

theorem IsCells.moved (h : IsCells P t w p f cnt k a0 x y n S) {T : Nat → Prop} {f' : Int → Int} {S' : Nat → Prop} {n' m' : Nat} {D' : DataW Unit} (hk : Keeps T w W) (hp : ¬ T p) (hf : ∀ a, isU a → isU (f' a)) (hS : ∀ k, S k → S' k) (hm : W.cell? ⟨p, 0, none⟩ = some (.map (some m'))) (H : MapOk P t W p m' n' D' f' S') :
    IsCells P t W p f' cnt k a0 x y n' S' :=
  ⟨hk.cell hp h.c1, hk.cell hp h.c2, hk.cell hp h.c3, hk.cell hp h.c4, hk.cell hp h.c5, fun o ho => hk.frozen (p := ⟨p, o, none⟩) hp h.lt (h.fz o ho), hS p h.here, hf, .inr ⟨m', D', hm, H⟩⟩
theorem upd_rng (hf : ∀ a, isU a → isU (f a)) (hv : isU v) : ∀ b, isU b → isU (upd f a v b) := by
  intro b hb; unfold upd; split; exact hv; exact hf b hb
theorem IsCells.del (h : IsCells P t w p f cnt k a0 x y n S) (hm : w.cell? ⟨p, 0, none⟩ = some (.map (some m))) (H : MapOk P t w p m n D f S) (ha : isU a) (own' : W.ownsMap P t cR m n (D.del (kA a))) (ht : w.mapTurned W m) :
    IsCells P t W p (upd f a 0) cnt k a0 x y n S ∧ Turn S S w W := by
  have hk : Keeps (fun k => k = m) w W := (Keeps.refl _ w).grown ht.grown (fun k e => by simp at e; exact .inl e.symm)
  have hp : ¬ p = m := fun e => H.off e.symm
  exact ⟨h.moved hk hp (upd_rng h.rng ⟨by omega, by omega⟩) (fun _ s => s) (hk.cell (p := ⟨p, 0, none⟩) hp hm) (H.del ha own' ht), hk.mono (fun k _ e => by rw [e]; exact H.here), fun _ s => .inl s⟩
theorem IsCells.set (h : IsCells P t w p f cnt k a0 x y n S) (hm : w.cell? ⟨p, 0, none⟩ = some (.map (some m))) (H : MapOk P t w p m n D f S) (ha : isU a) (h0 : f a ≠ 0) (hu : isU v) (hv : v ≠ 0) {b : Nat} (hb : D.atKey (kA a) .nil = .lit (.int .i64 b)) :
    IsCells P t (w.setCell ⟨b, 0, none⟩ (.int .u64 v)) p (upd f a v) cnt k a0 x y n S ∧ Turn S S w (w.setCell ⟨b, 0, none⟩ (.int .u64 v)) := by
  obtain ⟨b', e1, e2, e3, e4, e5, e6⟩ := H.at_ a ha h0
  rw [hb] at e1
  injection e1 with e1
  injection e1 with _ e1
  obtain rfl : b = b' := by omega
  have hk : Keeps (fun k => k = b) w (w.setCell ⟨b, 0, none⟩ (.int .u64 v)) := Keeps.setCell (S := fun k => k = b) (Keeps.refl _ w) (p := ⟨b, 0, none⟩) (.inl rfl) _
  have hp : ¬ p = b := fun e => e5 e.symm
  exact ⟨h.moved hk hp (upd_rng h.rng hu) (fun _ s => s) (hk.cell (p := ⟨p, 0, none⟩) hp hm) (H.set ha h0 hv hb), hk.mono (fun k _ e => by rw [e]; exact e4), fun _ s => .inl s⟩
/-- A map is made. -/
theorem IsCells.made (h : IsCells P t w p f cnt k a0 x y n S) (hm : w.cell? ⟨p, 0, none⟩ = some (.map none)) (hf : ∀ a, isU a → f a = 0) :
    let W := (w.alloc (.map #[] 0)).setCell ⟨p, 0, none⟩ (.map (some w.heap.size)); let S' := fun k => S k ∨ k = w.heap.size
    W.cell? ⟨p, 0, none⟩ = some (.map (some w.heap.size)) ∧ MapOk P t W p w.heap.size n (.map []) f S' ∧ IsCells P t W p f cnt k a0 x y n S' ∧ Turn S S' w W ∧ W.heap.size = w.heap.size + 1 := by
  intro W S'
  have hlt := h.lt
  have hm1 : (w.alloc (.map #[] 0)).cell? ⟨p, 0, none⟩ = some (.map none) := (World.cell?_alloc_lt w _ ⟨p, 0, none⟩ hlt).trans hm
  have e0 : W.cell? ⟨p, 0, none⟩ = some (.map (some w.heap.size)) := World.cell?_setCell_same _ _ _ hm1
  have hT : Turn S S' w W := ⟨((Keeps.refl S w).alloc _).setCell (.inl h.here) _, fun k s => by
    rcases s with s | s
    · exact .inl s
    · refine .inr ⟨by omega, ?_⟩
      simp [W, World.setCell]; omega⟩
  have hM : MapOk P t W p w.heap.size n (.map []) f S' :=
    MapOk.made (((World.ownsMap_made w P t cR).mono (Nat.zero_le n)).setCell (by simp; omega) _) hf (.inr rfl) (by omega)
  have c : ∀ o v, o ≠ 0 → w.cell? ⟨p, o, none⟩ = some v → W.cell? ⟨p, o, none⟩ = some v := by
    intro o v ho hc
    rw [World.cell?_setCell_other _ _ _ _ (by intro e; injection e with _ e; exact ho e.symm)]
    exact (World.cell?_alloc_lt w _ ⟨p, o, none⟩ hlt).trans hc
  refine ⟨e0, hM, ⟨c 1 _ (by decide) h.c1, c 2 _ (by decide) h.c2, c 3 _ (by decide) h.c3, c 4 _ (by decide) h.c4, c 5 _ (by decide) h.c5, fun o ho => ?_, .inl h.here, h.rng, .inr ⟨_, _, e0, hM⟩⟩, hT, by simp [W, World.setCell]⟩
  rw [World.frozen?_setCell]
  exact (((Keeps.refl (fun _ => False) w).alloc (.map #[] 0)).frozen (p := ⟨p, o, none⟩) (by simp) hlt (h.fz o ho))
/-- Behind the store of a new word's pointer into the map. -/
theorem new_facts (hm : w.cell? ⟨p, 0, none⟩ = some (.map (some m))) (H : MapOk P t w p m n D f S) (ha : isU a) (K : Keyed P t) (hT : P.underlying T = some (.map t e)) (hz : ∀ w : World, (zeroValue e).run P w = .ok (.pointer none) w) (hkey : keyOf P t (.int .u64 a) = some (kA a))
    {te : TypeId} (own2 : w2.ownsMap P t cR m (n + 1) (D.put (kA a) (.lit (.int .i64 w.heap.size)))) (hg : (w.alloc (.cells #[.int .u64 0] te)).grownBy w2 (some m)) :
    w2.cell? ⟨p, 0, none⟩ = some (.map (some m)) ∧ (Instr.lookup T (.map (some m)) (.int .u64 a) false).run P w2 = .ok (.pointer (some ⟨w.heap.size, 0, none⟩)) w2 ∧ w2.cell? ⟨w.heap.size, 0, none⟩ = some (.int .u64 0) ∧ w2.frozen? ⟨w.heap.size, 0, none⟩ = false := by
  have hlt := World.block_lt_of_cell? _ _ hm
  have hml := H.lt
  have hk : Keeps (fun k => k = m) w w2 := ((Keeps.refl _ w).alloc _).grown hg (fun k e => by simp at e; exact .inl e.symm)
  have hk' : Keeps (fun k => k = m) (w.alloc (.cells #[.int .u64 0] te)) w2 := (Keeps.refl _ _).grown hg (fun k e => by simp at e; exact .inl e.symm)
  obtain ⟨v, ps, hrun, hv⟩ := own2.lookup K hT (hz w2) cR_nil hkey
  rw [Maps.atKey_put_same H.own.isMap (kA_key a)] at hv
  obtain rfl := cR_lit hv
  refine ⟨hk.cell (p := ⟨p, 0, none⟩) (fun e => H.off e.symm) hm, hrun, hk'.cell (p := ⟨w.heap.size, 0, none⟩) (by simp; omega) (by simp), hk'.frozen (p := ⟨w.heap.size, 0, none⟩) (by simp; omega) (by simp) (by simp)⟩
theorem IsCells.new (h : IsCells P t w p f cnt k a0 x y n S) (hm : w.cell? ⟨p, 0, none⟩ = some (.map (some m))) (H : MapOk P t w p m n D f S) (ha : isU a) (h0 : f a = 0) (hu : isU v) (hv : v ≠ 0)
    {te : TypeId} (own2 : w2.ownsMap P t cR m (n + 1) (D.put (kA a) (.lit (.int .i64 w.heap.size)))) (hg : (w.alloc (.cells #[.int .u64 0] te)).grownBy w2 (some m)) (hc : w2.cell? ⟨w.heap.size, 0, none⟩ = some (.int .u64 0)) (hf : w2.frozen? ⟨w.heap.size, 0, none⟩ = false) :
    let W := w2.setCell ⟨w.heap.size, 0, none⟩ (.int .u64 v); let S' := fun k => S k ∨ k = w.heap.size
    IsCells P t W p (upd f a v) cnt k a0 x y (n + 1) S' ∧ Turn S S' w W := by
  intro W S'
  have hlt := h.lt
  have hml := H.lt
  have hk : Keeps (fun k => k = m) w w2 := ((Keeps.refl _ w).alloc _).grown hg (fun k e => by simp at e; exact .inl e.symm)
  have hkW : Keeps (fun k => k = m) w W := hk.setCell (.inr (Nat.le_refl _)) _
  have hsz : w.heap.size < w2.heap.size := World.block_lt_of_cell? _ _ hc
  have hsW : w.heap.size < W.heap.size := by simpa [W, World.setCell] using hsz
  have hp : ¬ p = m := fun e => H.off e.symm
  have hM : MapOk P t W p m (n + 1) (D.put (kA a) (.lit (.int .i64 w.heap.size))) (upd f a v) S' :=
    H.put ha h0 hv (own2.setCell (by simp; omega) _) hkW (Nat.le_refl _) hsW hlt (fun _ s => .inl s) (.inr rfl) (by simpa [W] using hf) (World.cell?_setCell_same _ _ _ hc)
  exact ⟨h.moved hkW hp (upd_rng h.rng hu) (fun _ s => .inl s) (hkW.cell (p := ⟨p, 0, none⟩) hp hm) hM, hkW.mono (fun k _ e => by rw [e]; exact H.here), fun k s => by
    rcases s with s | s
    · exact .inl s
    · exact .inr ⟨by omega, by omega⟩⟩
/-- The access is told: the struct's own cells behind it. -/
def told (W : World) (p : Nat) (cnt k a x y : Int) : World := ((((W.setCell ⟨p, 1, none⟩ (.int .i64 cnt)).setCell ⟨p, 2, none⟩ (.int .u8 k)).setCell ⟨p, 3, none⟩ (.int .u64 a)).setCell ⟨p, 4, none⟩ (.int .u64 x)).setCell ⟨p, 5, none⟩ (.int .u64 y)
theorem IsCells.told (h : IsCells P t w p f cnt k a0 x y n S) (cnt' k' a' x' y' : Int) :
    IsCells P t (told w p cnt' k' a' x' y') p f cnt' k' a' x' y' n S ∧ Turn S S w (told w p cnt' k' a' x' y') := by
  have hk : Keeps (fun k => k = p) w (Go.Proofs.YtodppilfpemepaaGreat.told w p cnt' k' a' x' y') := by
    unfold Go.Proofs.YtodppilfpemepaaGreat.told
    have st : ∀ (W : World) (o : Nat) (v : Value), Keeps (fun k => k = p) w W → Keeps (fun k => k = p) w (W.setCell ⟨p, o, none⟩ v) := fun W o v h => Keeps.setCell (S := fun k => k = p) h (p := ⟨p, o, none⟩) (.inl rfl) v
    exact st _ _ _ (st _ _ _ (st _ _ _ (st _ _ _ (st _ _ _ (Keeps.refl _ w)))))
  have hsz : (Go.Proofs.YtodppilfpemepaaGreat.told w p cnt' k' a' x' y').heap.size = w.heap.size := by simp [Go.Proofs.YtodppilfpemepaaGreat.told, World.setCell]
  have e1 := h.c1
  have e2 := h.c2
  have e3 := h.c3
  have e4 := h.c4
  have e5 := h.c5
  have off : ∀ {o o' : Nat} (ho : o ≠ o') (v : Value) (w : World), (w.setCell ⟨p, o, none⟩ v).cell? ⟨p, o', none⟩ = w.cell? ⟨p, o', none⟩ := fun ho v w => World.cell?_setCell_other _ _ _ _ (by intro e; injection e with _ e; exact ho e)
  have same : ∀ {o : Nat} {w : World} {u : Value} (v : Value), w.cell? ⟨p, o, none⟩ = some u → (w.setCell ⟨p, o, none⟩ v).cell? ⟨p, o, none⟩ = some v := fun v hc => World.cell?_setCell_same _ _ _ hc
  refine ⟨⟨?_, ?_, ?_, ?_, ?_, fun o ho => ?_, h.here, h.rng, ?_⟩, hk.mono (fun k _ e => by rw [e]; exact h.here), fun _ s => .inl s⟩
  · unfold Go.Proofs.YtodppilfpemepaaGreat.told
    rw [off (by decide), off (by decide), off (by decide), off (by decide)]
    exact same _ e1
  · unfold Go.Proofs.YtodppilfpemepaaGreat.told
    rw [off (by decide), off (by decide), off (by decide)]
    exact same _ (by rw [off (by decide)]; exact e2)
  · unfold Go.Proofs.YtodppilfpemepaaGreat.told
    rw [off (by decide), off (by decide)]
    exact same _ (by rw [off (by decide), off (by decide)]; exact e3)
  · unfold Go.Proofs.YtodppilfpemepaaGreat.told
    rw [off (by decide)]
    exact same _ (by rw [off (by decide), off (by decide), off (by decide)]; exact e4)
  · unfold Go.Proofs.YtodppilfpemepaaGreat.told
    exact same _ (by rw [off (by decide), off (by decide), off (by decide), off (by decide)]; exact e5)
  · unfold Go.Proofs.YtodppilfpemepaaGreat.told
    simp only [World.frozen?_setCell]
    exact h.fz o ho
  · have hz : ∀ v, w.cell? ⟨p, 0, none⟩ = some v → (Go.Proofs.YtodppilfpemepaaGreat.told w p cnt' k' a' x' y').cell? ⟨p, 0, none⟩ = some v := by
      intro v hv
      unfold Go.Proofs.YtodppilfpemepaaGreat.told
      rw [off (by decide), off (by decide), off (by decide), off (by decide), off (by decide)]
      exact hv
    rcases h.map with ⟨h1, h2⟩ | ⟨m, D, h1, H⟩
    · exact .inl ⟨hz _ h1, h2⟩
    · exact .inr ⟨m, D, hz _ h1, H.keep hk (fun k _ hp e => hp e)⟩
end
end Go.Proofs.YtodppilfpemepaaGreat
/- Next: Contracts of package cells: a word is put. -/
namespace Go.Proofs.YtodppilfpemepaaGreat
open Go.RowKit Go.Maps
set_option linter.unusedVariables false

/-- What a put leaves. -/
def PutPost (w : World) (p : Nat) (f : Int → Int) (cnt k a0 x y : Int) (n : Nat) (S : Nat → Prop) (w' : World) : Prop := ∃ S', Turn S S' w w' ∧ Cel w' p f cnt k a0 x y n S'
theorem map_some_nil (m : Nat) (w : World) : (binOp .eql 181 (.map (some m)) (.map none)).run Tryz.prog w = .ok (.bool false) w := by kernel_rfl
theorem map_nil_nil (w : World) : (binOp .eql 181 (.map none) (.map none)).run Tryz.prog w = .ok (.bool true) w := by kernel_rfl
section
variable {w : World} {p m n : Nat} {D : DataW Unit} {f : Int → Int} {cnt k a0 x y a v : Int} {S : Nat → Prop}
theorem put_zero_nil (ha : isU a) (hm : w.cell? ⟨p, 0, none⟩ = some (.map none)) :
    Calls Tryz.prog 96 #[.pointer (some ⟨p, 0, none⟩), .int .u64 a, .int .u64 0] w fun e w' => e = .returned (.tuple #[]) ∧ w = w' := by
  have hl := Maps.drop_nil (P := Tryz.prog) (w := w) lawA Tryz.underlying181 (keyA ha)
  go_enter Tryz.func96, Tryz.ntmps96
  go_wp2_with fail
  refine bodyPost_ret (results_none rfl _ _ _) rfl ?_
  exact ⟨rfl, rfl⟩
theorem put_zero_map (h : Cel w p f cnt k a0 x y n S) (ha : isU a) (hm : w.cell? ⟨p, 0, none⟩ = some (.map (some m))) (H : MapOk Tryz.prog 78 w p m n D f S) :
    Calls Tryz.prog 96 #[.pointer (some ⟨p, 0, none⟩), .int .u64 a, .int .u64 0] w fun e w' => e = .returned (.tuple #[]) ∧ PutPost w p (upd f a 0) cnt k a0 x y n S w' := by
  have hown := H.own
  have HH := Lib.hid h
  clear h
  go_enter Tryz.func96, Tryz.ntmps96
  go_wp2_with (at_delete; refine wpList_delete_own _ rfl _ _ 181 78 rfl 191 lawA Tryz.underlying181 _ m n D rfl hown _ _ rfl (keyA ha) ?_; intro w1 hown1 hturn1)
  refine bodyPost_ret (results_none rfl _ _ _) rfl ?_
  obtain ⟨q1, q2⟩ := IsCells.del HH.out hm H ha hown1 hturn1
  exact ⟨rfl, S, q2, q1⟩
set_option maxRecDepth 100000 in
theorem put_set (h : Cel w p f cnt k a0 x y n S) (ha : isU a) (hu : isU v) (hv : v ≠ 0) (hm : w.cell? ⟨p, 0, none⟩ = some (.map (some m))) (H : MapOk Tryz.prog 78 w p m n D f S) (h0 : f a ≠ 0) :
    Calls Tryz.prog 96 #[.pointer (some ⟨p, 0, none⟩), .int .u64 a, .int .u64 v] w fun e w' => e = .returned (.tuple #[]) ∧ PutPost w p (upd f a v) cnt k a0 x y n S w' := by
  obtain ⟨u, ps, hrun, hR⟩ := H.own.lookup lawA Tryz.underlying181 (zeroP w) cR_nil (keyA ha)
  obtain ⟨b, hb, hc, hfz, -⟩ := H.at_ a ha h0
  rw [hb] at hR
  obtain rfl := cR_lit hR
  have HQ := Lib.hid (IsCells.set h hm H ha h0 hu hv hb)
  have hmn := map_some_nil m
  have hv' : (v == 0) = false := beq_eq_false_iff_ne.2 hv
  have hv'' : decide (v = 0) = false := decide_eq_false hv
  clear h H hR h0 hb hv hu ha
  generalize f a = z at hc
  go_enter Tryz.func96, Tryz.ntmps96
  go_wp2_with (go_at_call 125; refine (astore _ _ _ _ hc hfz).mono ?_; rintro e w' ⟨rfl, rfl⟩)
  go_end0
  exact ⟨rfl, S, HQ.out.2, HQ.out.1⟩
set_option maxRecDepth 100000 in
theorem put_new (h : Cel w p f cnt k a0 x y n S) (ha : isU a) (hu : isU v) (hv : v ≠ 0) (hn : n < 1099511627776) (hm : w.cell? ⟨p, 0, none⟩ = some (.map (some m))) (H : MapOk Tryz.prog 78 w p m n D f S) (h0 : f a = 0) :
    Calls Tryz.prog 96 #[.pointer (some ⟨p, 0, none⟩), .int .u64 a, .int .u64 v] w fun e w' => e = .returned (.tuple #[]) ∧ PutPost w p (upd f a v) cnt k a0 x y (n + 1) S w' := by
  obtain ⟨u, ps, hrun, hR⟩ := H.own.lookup lawA Tryz.underlying181 (zeroP w) cR_nil (keyA ha)
  have hhas : Maps.has D (kA a) = false := by rw [H.has a ha, h0]; rfl
  rw [Maps.atKey_of_not_has hhas] at hR
  obtain rfl := cR_no hR
  have hmn := map_some_nil m
  have hv' : (v == 0) = false := beq_eq_false_iff_ne.2 hv
  have hv'' : decide (v = 0) = false := decide_eq_false hv
  have hnM : n < maxLen := by unfold maxLen; omega
  have hpa : ∀ o, (w.alloc o).cell? ⟨p, 0, none⟩ = some (.map (some m)) := fun o => ((Keeps.refl (fun _ => False) w).alloc o).cell (p := ⟨p, 0, none⟩) (by simp) hm
  have hown := fun o => H.own.alloc o
  have HH := Lib.hid h
  have HV := Lib.hid hv
  have H0 := Lib.hid h0
  clear h hR hv hhas h0
  go_enter Tryz.func96, Tryz.ntmps96
  go_wp2_with (at_mapUpdate; refine wpList_mapUpdate_own _ rfl _ _ _ 181 rfl 78 191 lawA Tryz.underlying181 cR m n D rfl (hown _) hnM _ _ (kA a) rfl rfl (keyA ha) (.lit (.int .i64 w.heap.size)) [] (cR_at _) ?_; intro w2 own2 hg2; obtain ⟨g1, g2, g3, g4⟩ := new_facts hm H ha lawA Tryz.underlying181 zeroP (keyA ha) own2 hg2; clear hrun hpa hown)
  go_wp2_with (go_at_call 125; refine (astore _ _ _ _ g3 g4).mono ?_; rintro e w' ⟨rfl, rfl⟩)
  go_end0
  obtain ⟨q1, q2⟩ := IsCells.new HH.out hm H ha H0.out hu HV.out own2 hg2 g3 g4
  exact ⟨rfl, _, q2, q1⟩
set_option maxRecDepth 100000 in
theorem put_made (h : Cel w p f cnt k a0 x y n S) (ha : isU a) (hu : isU v) (hv : v ≠ 0) (hn : n < 1099511627776) (hm : w.cell? ⟨p, 0, none⟩ = some (.map none)) (hf : ∀ a, isU a → f a = 0) :
    Calls Tryz.prog 96 #[.pointer (some ⟨p, 0, none⟩), .int .u64 a, .int .u64 v] w fun e w' => e = .returned (.tuple #[]) ∧ PutPost w p (upd f a v) cnt k a0 x y (n + 1) S w' := by
  have h0 := hf a ha
  obtain ⟨r1, H, r3, r4, r5⟩ := IsCells.made h hm hf
  generalize hW : (w.alloc (.map #[] 0)).setCell ⟨p, 0, none⟩ (.map (some w.heap.size)) = W at r1 H r3 r4 r5
  generalize hm' : w.heap.size = m at hW r1 H r3 r4 r5
  obtain ⟨u, ps, hrun, hR⟩ := H.own.lookup lawA Tryz.underlying181 (zeroP W) cR_nil (keyA ha)
  have hhas : Maps.has (.map [] : DataW Unit) (kA a) = false := rfl
  rw [Maps.atKey_of_not_has hhas] at hR
  obtain rfl := cR_no hR
  have hmm := @run_makeMap Tryz.prog
  have hn0 := map_nil_nil
  have hmn := map_some_nil m
  have hv' : (v == 0) = false := beq_eq_false_iff_ne.2 hv
  have hv'' : decide (v = 0) = false := decide_eq_false hv
  have hnM : n < maxLen := by unfold maxLen; omega
  have hpa : ∀ o, (W.alloc o).cell? ⟨p, 0, none⟩ = some (.map (some m)) := fun o => ((Keeps.refl (fun _ => False) W).alloc o).cell (p := ⟨p, 0, none⟩) (by simp) r1
  have hp1 : (w.alloc (.map #[] 0)).cell? ⟨p, 0, none⟩ = some (.map none) := ((Keeps.refl (fun _ => False) w).alloc _).cell (p := ⟨p, 0, none⟩) (by simp) hm
  have hf1 : (w.alloc (.map #[] 0)).frozen? ⟨p, 0, none⟩ = false := ((Keeps.refl (fun _ => False) w).alloc _).frozen (p := ⟨p, 0, none⟩) (by simp) h.lt (h.fz 0 (by decide))
  have hown := fun o => H.own.alloc o
  have HV := Lib.hid hv
  have H0 := Lib.hid h0
  have HR := Lib.hid r3
  have HT := Lib.hid r4
  have HH := Lib.hid H
  have HW := Lib.hid hW
  have HM := Lib.hid hm'
  have H5 := Lib.hid r5
  clear h hR hv hhas h0 hf r3 r4 hW hm' r5 H
  go_enter Tryz.func96, Tryz.ntmps96
  go_upto_region 4 with (fail)
  have E : ((w.alloc (.map #[] 0)).setCell ⟨p, 0, none⟩ (.map (some w.heap.size))) = W := by rw [HM.out]; exact HW.out
  rw [E]
  clear E hmm hn0 hp1 hf1
  go_wp2_with (at_mapUpdate; refine wpList_mapUpdate_own _ rfl _ _ _ 181 rfl 78 191 lawA Tryz.underlying181 cR m n (.map []) rfl (hown _) hnM _ _ (kA a) rfl rfl (keyA ha) (.lit (.int .i64 W.heap.size)) [] (cR_at _) ?_; intro w2 own2 hg2; obtain ⟨g1, g2, g3, g4⟩ := new_facts r1 HH.out ha lawA Tryz.underlying181 zeroP (keyA ha) own2 hg2; clear hrun hpa hown)
  go_wp2_with (go_at_call 125; refine (astore _ _ _ _ g3 g4).mono ?_; rintro e w' ⟨rfl, rfl⟩)
  go_end0
  obtain ⟨q1, q2⟩ := IsCells.new HR.out r1 HH.out ha H0.out hu HV.out own2 hg2 g3 g4
  exact ⟨rfl, _, HT.out.trans q2, q1⟩
/-- A word is put. -/
theorem put_any (h : Cel w p f cnt k a0 x y n S) (ha : isU a) (hu : isU v) (hn : n < 1099511627776) :
    Calls Tryz.prog 96 #[.pointer (some ⟨p, 0, none⟩), .int .u64 a, .int .u64 v] w fun e w' => e = .returned (.tuple #[]) ∧ PutPost w p (upd f a v) cnt k a0 x y (n + 1) S w' := by
  by_cases hv : v = 0
  · subst hv
    rcases h.map with ⟨hm, hf⟩ | ⟨m, D, hm, H⟩
    · refine (put_zero_nil ha hm).mono ?_
      rintro e w' ⟨rfl, rfl⟩
      have e1 : upd f a 0 = f := by have := upd_id f a; rwa [hf a ha] at this
      rw [e1]
      exact ⟨rfl, S, Turn.refl _ _, IsCells.more h (by omega) (fun _ s => s)⟩
    · refine (put_zero_map h ha hm H).mono ?_
      rintro e w' ⟨rfl, S', h1, h2⟩
      exact ⟨rfl, S', h1, IsCells.more h2 (by omega) (fun _ s => s)⟩
  · rcases h.map with ⟨hm, hf⟩ | ⟨m, D, hm, H⟩
    · exact put_made h ha hu hv hn hm hf
    · by_cases h0 : f a = 0
      · exact put_new h ha hu hv hn hm H h0
      · refine (put_set h ha hu hv hm H h0).mono ?_
        rintro e w' ⟨rfl, S', h1, h2⟩
        exact ⟨rfl, S', h1, IsCells.more h2 (by omega) (fun _ s => s)⟩
end
end Go.Proofs.YtodppilfpemepaaGreat
/- Next: Contracts of package cells: an access. -/
namespace Go.Proofs.YtodppilfpemepaaGreat
open Go.RowKit Go.Maps
set_option linter.unusedVariables false

/-- What an access leaves: from w1 on. -/
def AccPost (w : World) (p : Nat) (f : Int → Int) (cnt k a0 x y : Int) (n : Nat) (S : Nat → Prop) (w' : World) : Prop := ∃ S', Turn S S' w w' ∧ Cel w' p f cnt k a0 x y n S'
section
variable {w w1 : World} {p n : Nat} {f : Int → Int} {cnt k a0 x y a is kk : Int} {S T : Nat → Prop}
set_option maxRecDepth 100000 in
theorem access_same (K : Nat) (cap : Array Value) (h : Cel w p f cnt k a0 x y n S) (ha : isU a) (hc0 : 0 ≤ cnt) (hc1 : cnt < 1000000000000) (hi : is = f a)
    (hK : ∀ (args : Array Value) (w : World), (callFunc K args).run Tryz.prog w = .ok (.enter K args) w) (hcl : Calls Tryz.prog K (#[.int .u64 (f a)] ++ cap) w fun e w' => e = .returned (.int .u64 is) ∧ w1 = w') (h1 : Keeps T w w1) (hT : ∀ k, S k → ¬ T k) :
    Calls Tryz.prog 82 #[.pointer (some ⟨p, 0, none⟩), .int .u8 kk, .int .u64 a, .func (.func K) #[] cap] w fun e w' => e = .returned (.int .u64 (f a)) ∧ AccPost w1 p f (cnt + 1) kk a (f a) is n S w' := by
  have hw1 : Cel w1 p f cnt k a0 x y n S := IsCells.keep h h1 hT
  have HP := peek_any h a ha
  have HT := Lib.hid (IsCells.told hw1 (cnt + 1) kk a (f a) is)
  have c1 := hw1.c1
  have c2 := hw1.c2
  have c3 := hw1.c3
  have c4 := hw1.c4
  have c5 := hw1.c5
  have z1 := hw1.fz 1 (by decide)
  have z2 := hw1.fz 2 (by decide)
  have z3 := hw1.fz 3 (by decide)
  have z4 := hw1.fz 4 (by decide)
  have z5 := hw1.fz 5 (by decide)
  have y1 : IntKind.i64.wrap (cnt + 1) = cnt + 1 := IntWalk.i64_in _ (by omega)
  obtain rfl := hi
  have HC := Lib.hid hcl
  clear h h1 hT hw1 hcl
  generalize hz : f a = z at *
  have q1 : (z == z) = true := beq_self_eq_true z
  have q2 : (z != z) = false := by simp
  clear hz
  go_enter Tryz.func82, Tryz.ntmps82
  go_wp2_with (first
    | (go_at_call 79; refine HP.mono ?_; rintro e w' ⟨rfl, rfl⟩)
    | (with_reducible refine HC.out.mono ?_; rintro e w' ⟨rfl, rfl⟩))
  go_ret
  exact ⟨rfl, S, HT.out.2, HT.out.1⟩
set_option maxRecDepth 100000 in
theorem access_other (K : Nat) (cap : Array Value) (h : Cel w p f cnt k a0 x y n S) (ha : isU a) (hu : isU is) (hn : n < 1099511627776) (hc0 : 0 ≤ cnt) (hc1 : cnt < 1000000000000) (hi : is ≠ f a)
    (hK : ∀ (args : Array Value) (w : World), (callFunc K args).run Tryz.prog w = .ok (.enter K args) w) (hcl : Calls Tryz.prog K (#[.int .u64 (f a)] ++ cap) w fun e w' => e = .returned (.int .u64 is) ∧ w1 = w') (h1 : Keeps T w w1) (hT : ∀ k, S k → ¬ T k) :
    Calls Tryz.prog 82 #[.pointer (some ⟨p, 0, none⟩), .int .u8 kk, .int .u64 a, .func (.func K) #[] cap] w fun e w' => e = .returned (.int .u64 (f a)) ∧ AccPost w1 p (upd f a is) (cnt + 1) kk a (f a) is (n + 1) S w' := by
  have hw1 : Cel w1 p f cnt k a0 x y n S := IsCells.keep h h1 hT
  have HP := peek_any h a ha
  have HU := Lib.hid (put_any hw1 ha hu hn)
  have y1 : IntKind.i64.wrap (cnt + 1) = cnt + 1 := IntWalk.i64_in _ (by omega)
  have q1 : (is == f a) = false := beq_eq_false_iff_ne.2 hi
  have q2 : (is != f a) = true := bne_iff_ne.2 hi
  have HC := Lib.hid hcl
  clear h h1 hT hw1 hcl hi
  generalize hz : f a = z at *
  generalize upd f a is = f' at *
  clear hz
  go_enter Tryz.func82, Tryz.ntmps82
  go_wp2_with (first
    | (go_at_call 79; refine HP.mono ?_; rintro e w' ⟨rfl, rfl⟩)
    | (go_at_call 96; refine HU.out.mono ?_; rintro e w2 ⟨rfl, S2, t2, hw2⟩; have HT := Lib.hid (IsCells.told hw2 (cnt + 1) kk a z is); have T2 := Lib.hid t2; have c1 := hw2.c1; have c2 := hw2.c2; have c3 := hw2.c3; have c4 := hw2.c4; have c5 := hw2.c5; have z1 := hw2.fz 1 (by decide); have z2 := hw2.fz 2 (by decide); have z3 := hw2.fz 3 (by decide); have z4 := hw2.fz 4 (by decide); have z5 := hw2.fz 5 (by decide); clear t2 hw2)
    | (with_reducible refine HC.out.mono ?_; rintro e w' ⟨rfl, rfl⟩))
  go_ret
  exact ⟨rfl, S2, T2.out.trans HT.out.2, HT.out.1⟩
/-- An access of what stands at a, by a closure that says what stands then. -/
theorem access_any (K : Nat) (cap : Array Value) (h : Cel w p f cnt k a0 x y n S) (ha : isU a) (hu : isU is) (hn : n < 1099511627776) (hc0 : 0 ≤ cnt) (hc1 : cnt < 1000000000000)
    (hK : ∀ (args : Array Value) (w : World), (callFunc K args).run Tryz.prog w = .ok (.enter K args) w) (hcl : Calls Tryz.prog K (#[.int .u64 (f a)] ++ cap) w fun e w' => e = .returned (.int .u64 is) ∧ w1 = w') (h1 : Keeps T w w1) (hT : ∀ k, S k → ¬ T k) :
    Calls Tryz.prog 82 #[.pointer (some ⟨p, 0, none⟩), .int .u8 kk, .int .u64 a, .func (.func K) #[] cap] w fun e w' => e = .returned (.int .u64 (f a)) ∧ AccPost w1 p (upd f a is) (cnt + 1) kk a (f a) is (n + 1) S w' := by
  by_cases hi : is = f a
  · refine (access_same K cap h ha hc0 hc1 hi hK hcl h1 hT).mono ?_
    rintro e w' ⟨rfl, S', t, q⟩
    have e1 : upd f a is = f := by rw [hi]; exact upd_id f a
    rw [e1]
    exact ⟨rfl, S', t, IsCells.more q (by omega) (fun _ s => s)⟩
  · exact access_other K cap h ha hu hn hc0 hc1 hi hK hcl h1 hT
end
end Go.Proofs.YtodppilfpemepaaGreat
/- Next: Contracts of package cells: Load, Store, Swap, Add, CAS. -/
namespace Go.Proofs.YtodppilfpemepaaGreat
open Go.RowKit Go.Maps
set_option linter.unusedVariables false

theorem enter_of {P : Program} {f : FuncId} {fn : Func} {c : Code} (hf : P.funcs[f]? = some fn) (hname : (fn.name == "runtime.NumGoroutine") = false) (hb : fn.body = some c) (args : Array Value) (w : World) :
    (callFunc f args).run P w = .ok (.enter f args) w := by
  have h1 : fn.name ≠ "runtime.NumGoroutine" := by simpa using hname
  simp [callFunc, hf, h1, hb]
theorem cl_load (z : Int) (w : World) : Calls Tryz.prog 94 (#[.int .u64 z] ++ #[]) w fun e w' => e = .returned (.int .u64 z) ∧ w = w' := by
  go_enter Tryz.func94, Tryz.ntmps94
  go_wp2_with fail
  go_ret
  exact ⟨rfl, rfl⟩
theorem cl_store (z v : Int) (b : Nat) (w : World) (hc : w.cell? ⟨b, 0, none⟩ = some (.int .u64 v)) : Calls Tryz.prog 83 (#[.int .u64 z] ++ #[.pointer (some ⟨b, 0, none⟩)]) w fun e w' => e = .returned (.int .u64 v) ∧ w = w' := by
  go_enter Tryz.func83, Tryz.ntmps83
  go_wp2_with fail
  go_ret
  exact ⟨rfl, rfl⟩
theorem cl_add (z v : Int) (b : Nat) (w : World) (hc : w.cell? ⟨b, 0, none⟩ = some (.int .u64 v)) : Calls Tryz.prog 221 (#[.int .u64 z] ++ #[.pointer (some ⟨b, 0, none⟩)]) w fun e w' => e = .returned (.int .u64 (IntKind.u64.wrap (z + v))) ∧ w = w' := by
  go_enter Tryz.func221, Tryz.ntmps221
  go_wp2_with fail
  go_ret
  exact ⟨rfl, rfl⟩
theorem isU_wrap (z : Int) : isU (IntKind.u64.wrap z) := by
  rw [IntKind.wrap_u64]; unfold isU; omega
theorem cl_cas (z was is : Int) (b0 b1 b2 : Nat) (d : Bool) (w : World) (r : Bool) (hr : (z == was) = r) (hd : ¬ b0 = b1) (hd2 : ¬ b2 = b1) (hc0 : w.cell? ⟨b0, 0, none⟩ = some (.int .u64 was)) (hc1 : w.cell? ⟨b1, 0, none⟩ = some (.bool d)) (hf : w.frozen? ⟨b1, 0, none⟩ = false) (hc2 : w.cell? ⟨b2, 0, none⟩ = some (.int .u64 is)) :
    Calls Tryz.prog 127 (#[.int .u64 z] ++ #[.pointer (some ⟨b0, 0, none⟩), .pointer (some ⟨b1, 0, none⟩), .pointer (some ⟨b2, 0, none⟩)]) w fun e w' => e = .returned (.int .u64 (if r then is else z)) ∧ w.setCell ⟨b1, 0, none⟩ (.bool r) = w' := by
  cases r
  all_goals
    go_enter Tryz.func127, Tryz.ntmps127
    go_wp2_with fail
    go_ret
    exact ⟨rfl, rfl⟩
theorem AccPost.after {w w1 : World} {p n : Nat} {f : Int → Int} {cnt k a0 x y : Int} {S : Nat → Prop} {w' : World} (hb : Below w.heap.size w w1) (h : AccPost w1 p f cnt k a0 x y n S w') : AccPost w p f cnt k a0 x y n S w' := by
  obtain ⟨S', t, q⟩ := h
  exact ⟨S', Turn.after hb t, q⟩
section
variable {w : World} {p n : Nat} {f : Int → Int} {cnt k a0 x y a v : Int} {S : Nat → Prop}
theorem load_any (h : Cel w p f cnt k a0 x y n S) (ha : isU a) (hn : n < 1099511627776) (hc0 : 0 ≤ cnt) (hc1 : cnt < 1000000000000) :
    Calls Tryz.prog 50 #[.pointer (some ⟨p, 0, none⟩), .int .u64 a] w fun e w' => e = .returned (.int .u64 (f a)) ∧ AccPost w p f (cnt + 1) 1 a (f a) (f a) (n + 1) S w' := by
  have HA := access_any (kk := 1) 94 #[] h ha (h.rng a ha) hn hc0 hc1 (enter_of Tryz.func94 (by kernel_rfl) rfl) (cl_load _ _) (Keeps.refl (fun _ => False) _) (fun _ _ s => s)
  rw [upd_id] at HA
  have HA := Lib.hid HA
  clear h
  generalize f a = z at *
  go_enter Tryz.func50, Tryz.ntmps50
  go_wp2_with (go_at_call 82; refine HA.out.mono ?_; rintro e w' ⟨rfl, hk⟩)
  go_ret
  exact ⟨rfl, hk⟩
theorem store_any (h : Cel w p f cnt k a0 x y n S) (ha : isU a) (hv : isU v) (hn : n < 1099511627776) (hc0 : 0 ≤ cnt) (hc1 : cnt < 1000000000000) :
    Calls Tryz.prog 39 #[.pointer (some ⟨p, 0, none⟩), .int .u64 a, .int .u64 v] w fun e w' => e = .returned (.int .u64 (f a)) ∧ AccPost w p (upd f a v) (cnt + 1) 2 a (f a) v (n + 1) S w' := by
  have h1 : ∀ o, Cel (w.alloc o) p f cnt k a0 x y n S := fun o => IsCells.keep h ((Keeps.refl (fun _ => False) w).alloc o) (fun _ _ s => s)
  have HA := Lib.hid (fun T => access_any (kk := 2) (is := v) 83 #[.pointer (some ⟨w.heap.size, 0, none⟩)] (h1 (.cells #[.int .u64 v] T)) ha hv hn hc0 hc1 (enter_of Tryz.func83 (by kernel_rfl) rfl) (cl_store _ v w.heap.size _ (by simp)) (Keeps.refl (fun _ => False) _) (fun _ _ s => s))
  clear h h1
  generalize f a = z at *
  go_enter Tryz.func39, Tryz.ntmps39
  go_wp2_with (go_at_call 82; refine (HA.out _).mono ?_; rintro e w' ⟨rfl, hk⟩)
  go_ret
  exact ⟨rfl, hk.after ((Below.refl _ _).alloc (Nat.le_refl _) _)⟩
theorem add_any (h : Cel w p f cnt k a0 x y n S) (ha : isU a) (hn : n < 1099511627776) (hc0 : 0 ≤ cnt) (hc1 : cnt < 1000000000000) :
    Calls Tryz.prog 220 #[.pointer (some ⟨p, 0, none⟩), .int .u64 a, .int .u64 v] w fun e w' => e = .returned (.int .u64 (f a)) ∧ AccPost w p (upd f a (IntKind.u64.wrap (f a + v))) (cnt + 1) 4 a (f a) (IntKind.u64.wrap (f a + v)) (n + 1) S w' := by
  have h1 : ∀ o, Cel (w.alloc o) p f cnt k a0 x y n S := fun o => IsCells.keep h ((Keeps.refl (fun _ => False) w).alloc o) (fun _ _ s => s)
  have HA := Lib.hid (fun T => access_any (kk := 4) (is := IntKind.u64.wrap (f a + v)) 221 #[.pointer (some ⟨w.heap.size, 0, none⟩)] (h1 (.cells #[.int .u64 v] T)) ha (isU_wrap _) hn hc0 hc1 (enter_of Tryz.func221 (by kernel_rfl) rfl) (cl_add _ v w.heap.size _ (by simp)) (Keeps.refl (fun _ => False) _) (fun _ _ s => s))
  clear h h1
  generalize IntKind.u64.wrap (f a + v) = u at *
  generalize f a = z at *
  go_enter Tryz.func220, Tryz.ntmps220
  go_wp2_with (go_at_call 82; refine (HA.out _).mono ?_; rintro e w' ⟨rfl, hk⟩)
  go_ret
  exact ⟨rfl, hk.after ((Below.refl _ _).alloc (Nat.le_refl _) _)⟩
end
end Go.Proofs.YtodppilfpemepaaGreat
/- Next: Contracts of package cells: CAS. -/
namespace Go.Proofs.YtodppilfpemepaaGreat
open Go.RowKit Go.Maps
set_option linter.unusedVariables false

def casI (r : Bool) (is z : Int) : Int := if r then is else z
theorem isU_cas {r : Bool} {is z : Int} (h1 : isU is) (h2 : isU z) : isU (casI r is z) := by unfold casI; split <;> assumption
theorem newc {W : World} {n : Nat} (hn : n = W.heap.size) (v : Value) (T : TypeId) : (W.alloc (.cells #[v] T)).cell? ⟨n, 0, none⟩ = some v ∧ (W.alloc (.cells #[v] T)).frozen? ⟨n, 0, none⟩ = false := by subst hn; simp
section
variable {w : World} {p n : Nat} {f : Int → Int} {cnt k a0 x y a was is : Int} {S : Nat → Prop}
set_option maxRecDepth 100000 in
theorem cas_any (h : Cel w p f cnt k a0 x y n S) (hS : ∀ k, S k → k < w.heap.size) (ha : isU a) (hv : isU is) (hn : n < 1099511627776) (hc0 : 0 ≤ cnt) (hc1 : cnt < 1000000000000) {r : Bool} (hr : (f a == was) = r) :
    Calls Tryz.prog 106 #[.pointer (some ⟨p, 0, none⟩), .int .u64 a, .int .u64 was, .int .u64 is] w fun e w' => e = .returned (.tuple #[.int .u64 (f a), .bool r]) ∧ AccPost w p (upd f a (casI r is (f a))) (cnt + 1) 3 a (f a) (casI r is (f a)) (n + 1) S w' := by
  have HA : ∀ A B C, ∀ W, W = ((w.alloc (.cells #[.int .u64 was] A)).alloc (.cells #[.int .u64 is] B)).alloc (.cells #[.bool false] C) →
      Calls Tryz.prog 82 #[.pointer (some ⟨p, 0, none⟩), .int .u8 3, .int .u64 a, .func (.func 127) #[] #[.pointer (some ⟨w.heap.size, 0, none⟩), .pointer (some ⟨w.heap.size + 1 + 1, 0, none⟩), .pointer (some ⟨w.heap.size + 1, 0, none⟩)]] W
        fun e w' => e = .returned (.int .u64 (f a)) ∧ w'.cell? ⟨w.heap.size + 1 + 1, 0, none⟩ = some (.bool r) ∧ w'.frozen? ⟨w.heap.size + 1 + 1, 0, none⟩ = false ∧ ∃ S', Turn S S' w w' ∧ Cel w' p (upd f a (casI r is (f a))) (cnt + 1) 3 a (f a) (casI r is (f a)) (n + 1) S' ∧ ¬ S' (w.heap.size + 1 + 1) := by
    intro A B C W hW
    have hk : Below w.heap.size w W := by rw [hW]; exact (((Below.refl _ _).alloc (Nat.le_refl _) _).alloc (by simp) _).alloc (by simp; omega) _
    have hz : W.heap.size = w.heap.size + 3 := by rw [hW]; simp
    have h1 : Cel W p f cnt k a0 x y n S := IsCells.keep h (Keeps.of_new (S := fun _ => False) hk) (fun _ _ s => s)
    have d0 : W.cell? ⟨w.heap.size, 0, none⟩ = some (.int .u64 was) := by
      rw [hW]
      exact ((((Below.refl _ (w.alloc (.cells #[.int .u64 was] A))).alloc (Nat.le_refl _) _).alloc (by simp) _).cell (p := ⟨w.heap.size, 0, none⟩) (by simp)).trans (newc rfl _ _).1
    have d1 : W.cell? ⟨w.heap.size + 1, 0, none⟩ = some (.int .u64 is) := by
      rw [hW]
      exact ((Below.refl _ ((w.alloc (.cells #[.int .u64 was] A)).alloc (.cells #[.int .u64 is] B))).alloc (Nat.le_refl _) _).cell (p := ⟨w.heap.size + 1, 0, none⟩) (by simp) |>.trans (newc (by simp) _ _).1
    have d2 : W.cell? ⟨w.heap.size + 1 + 1, 0, none⟩ = some (.bool false) := by rw [hW]; exact (newc (by simp) _ _).1
    have z2 : W.frozen? ⟨w.heap.size + 1 + 1, 0, none⟩ = false := by rw [hW]; exact (newc (by simp) (.bool false) C).2
    have hkc : Keeps (fun k => k = w.heap.size + 1 + 1) W (W.setCell ⟨w.heap.size + 1 + 1, 0, none⟩ (.bool r)) := Keeps.setCell (S := fun k => k = w.heap.size + 1 + 1) (Keeps.refl _ W) (p := ⟨w.heap.size + 1 + 1, 0, none⟩) (.inl rfl) _
    have hT : ∀ k, S k → ¬ k = w.heap.size + 1 + 1 := fun k s e => by have := hS k s; omega
    refine (access_any (kk := 3) (is := casI r is (f a)) 127 _ h1 ha (isU_cas hv (h.rng a ha)) hn hc0 hc1 (enter_of Tryz.func127 (by kernel_rfl) rfl) (cl_cas _ was is _ _ _ false W r hr (by omega) (by omega) d0 d2 z2 d1) hkc hT).mono ?_
    rintro e w' ⟨rfl, S', t, q⟩
    have hsz : (W.setCell ⟨w.heap.size + 1 + 1, 0, none⟩ (.bool r)).heap.size = w.heap.size + 3 := by simpa [World.setCell] using hz
    have hno : ¬ S (w.heap.size + 1 + 1) := fun s => by have := hS _ s; omega
    refine ⟨rfl, t.keeps.cell (p := ⟨w.heap.size + 1 + 1, 0, none⟩) hno (World.cell?_setCell_same _ _ _ d2), t.keeps.frozen (p := ⟨w.heap.size + 1 + 1, 0, none⟩) hno (by show w.heap.size + 1 + 1 < _; rw [hsz]; omega) (by simpa using z2), S', ?_, q, fun s => ?_⟩
    · have t1 : Turn S S W (W.setCell ⟨w.heap.size + 1 + 1, 0, none⟩ (.bool r)) → Turn S S' W w' := fun t0 => t0.trans t
      refine ⟨?_, fun i hi => ?_⟩
      · have k1 : Keeps S w (W.setCell ⟨w.heap.size + 1 + 1, 0, none⟩ (.bool r)) := (Keeps.of_new hk).setCell (.inr (by show w.heap.size ≤ w.heap.size + 1 + 1; omega)) _
        exact k1.trans t.keeps (fun _ _ s => s)
      · rcases t.only i hi with s | s
        · exact .inl s
        · rw [hsz] at s; exact .inr (by omega)
    · rcases t.only _ s with s | s
      · exact hno s
      · rw [hsz] at s; omega
  have HA := Lib.hid HA
  clear h hS hr
  generalize upd f a (casI r is (f a)) = f' at *
  generalize casI r is (f a) = u at *
  generalize f a = z at *
  go_enter Tryz.func106, Tryz.ntmps106
  go_wp2_with (go_at_call 82; refine (HA.out _ _ _ _ rfl).mono ?_; rintro e w1 ⟨rfl, d1, d2, S', t, q, hno⟩; have HT := Lib.hid t; have HQ := Lib.hid q; have HN := Lib.hid hno; clear t q hno HA)
  go_region
  all_goals
    go_wp2_with fail
    have d3 : (w1.setCell ⟨w.heap.size + 1 + 1, 0, none⟩ (.bool r)).drew.cell? ⟨w.heap.size + 1 + 1, 0, none⟩ = some (.bool r) := World.cell?_setCell_same w1 _ (.bool r) d1
    refine bodyPost_ret (v := .tuple #[.int .u64 z, .bool r]) (by simp [results, Tryz.results106, go_sem, d3]) rfl ⟨rfl, S', ?_, ?_⟩
    · have := HT.out
      exact ⟨(this.keeps.setCell (.inr (by show w.heap.size ≤ w.heap.size + 1 + 1; omega)) _).drew, fun i hi => by rcases this.only i hi with s | s; exact .inl s; exact .inr (by simpa [World.setCell] using s)⟩
    · refine IsCells.keep HQ.out (T := fun k => k = w.heap.size + 1 + 1) ?_ (fun k s e => HN.out (by rwa [← e]))
      exact (Keeps.setCell (S := fun k => k = w.heap.size + 1 + 1) (Keeps.refl _ w1) (p := ⟨w.heap.size + 1 + 1, 0, none⟩) (.inl rfl) _).drew
end
end Go.Proofs.YtodppilfpemepaaGreat
/- Next: Contracts of package cells: no cells; new cells. -/
namespace Go.Proofs.YtodppilfpemepaaGreat
open Go.RowKit Go.Maps
set_option linter.unusedVariables false

theorem access_nil (kk a : Int) (fv : Value) (w : World) : Calls Tryz.prog 82 #[.pointer none, .int .u8 kk, .int .u64 a, fv] w fun e w' => e = .returned (.int .u64 0) ∧ w = w' := by
  go_enter Tryz.func82, Tryz.ntmps82
  go_wp2_with fail
  go_ret
  exact ⟨rfl, rfl⟩
theorem load_nil (a : Int) (w : World) : Calls Tryz.prog 50 #[.pointer none, .int .u64 a] w fun e w' => e = .returned (.int .u64 0) ∧ w = w' := by
  go_enter Tryz.func50, Tryz.ntmps50
  go_wp2_with (go_at_call 82; refine (access_nil _ _ _ _).mono ?_; rintro e w' ⟨rfl, rfl⟩)
  go_ret
  exact ⟨rfl, rfl⟩
theorem store_nil (a v : Int) (w : World) : Calls Tryz.prog 39 #[.pointer none, .int .u64 a, .int .u64 v] w fun e w' => e = .returned (.int .u64 0) ∧ Below w.heap.size w w' := by
  go_enter Tryz.func39, Tryz.ntmps39
  go_wp2_with (go_at_call 82; refine (access_nil _ _ _ _).mono ?_; rintro e w' ⟨rfl, rfl⟩)
  go_ret
  exact ⟨rfl, (Below.refl _ _).alloc (Nat.le_refl _) _⟩
theorem add_nil (a v : Int) (w : World) : Calls Tryz.prog 220 #[.pointer none, .int .u64 a, .int .u64 v] w fun e w' => e = .returned (.int .u64 0) ∧ Below w.heap.size w w' := by
  go_enter Tryz.func220, Tryz.ntmps220
  go_wp2_with (go_at_call 82; refine (access_nil _ _ _ _).mono ?_; rintro e w' ⟨rfl, rfl⟩)
  go_ret
  exact ⟨rfl, (Below.refl _ _).alloc (Nat.le_refl _) _⟩
theorem cas_nil (a v u : Int) (w : World) : Calls Tryz.prog 106 #[.pointer none, .int .u64 a, .int .u64 v, .int .u64 u] w fun e w' => e = .returned (.tuple #[.int .u64 0, .bool false]) ∧ Below w.heap.size w w' := by
  go_enter Tryz.func106, Tryz.ntmps106
  go_wp2_with (go_at_call 82; refine (access_nil _ _ _ _).mono ?_; rintro e w' ⟨rfl, rfl⟩)
  generalize hW : ((w.alloc _).alloc _).alloc _ = W
  have hk : Below w.heap.size w W := by rw [← hW]; exact (((Below.refl _ _).alloc (Nat.le_refl _) _).alloc (by simp) _).alloc (by simp; omega) _
  have d1 : W.cell? ⟨w.heap.size + 1 + 1, 0, none⟩ = some (.bool false) := by rw [← hW]; exact (newc (by simp) _ _).1
  have d2 : W.frozen? ⟨w.heap.size + 1 + 1, 0, none⟩ = false := by rw [← hW]; exact (newc (by simp) (.bool false) _).2
  clear hW
  go_region
  all_goals
    go_wp2_with fail
    have d3 : (W.setCell ⟨w.heap.size + 1 + 1, 0, none⟩ (.bool false)).drew.cell? ⟨w.heap.size + 1 + 1, 0, none⟩ = some (.bool false) := World.cell?_setCell_same W _ (.bool false) d1
    refine bodyPost_ret (v := .tuple #[.int .u64 0, .bool false]) (by simp [results, Tryz.results106, go_sem, d3]) rfl ⟨rfl, ?_⟩
    exact (hk.setCell (p := ⟨w.heap.size + 1 + 1, 0, none⟩) (by show w.heap.size ≤ w.heap.size + 1 + 1; omega) _).drew
theorem words_nil (w : World) : Calls Tryz.prog 77 #[.pointer none] w fun e w' => e = .returned (.slice none 0 0) ∧ w = w' := by
  go_enter Tryz.func77, Tryz.ntmps77
  go_wp2_with fail
  go_ret
  exact ⟨rfl, rfl⟩
/-- The struct of cells, as it is made. -/
theorem made_cel (W : World) (T : TypeId) : Cel (W.alloc (.cells #[.map none, .int .i64 0, .int .u8 0, .int .u64 0, .int .u64 0, .int .u64 0] T)) W.heap.size (fun _ => 0) 0 0 0 0 0 0 (fun k => k = W.heap.size) := by
  refine ⟨by simp, by simp, by simp, by simp, by simp, fun o ho => by simp, rfl, fun a ha => ⟨by omega, by omega⟩, .inl ⟨by simp, fun a ha => rfl⟩⟩
/-- What New leaves. -/
def NewPost (w : World) (f : Int → Int) (n : Nat) (w' : World) : Prop := ∃ S, (∀ k, S k → w.heap.size ≤ k ∧ k < w'.heap.size) ∧ Below w.heap.size w w' ∧ Cel w' w.heap.size f 0 0 0 0 0 n S
theorem new_none (w : World) : Calls Tryz.prog 53 #[.slice none 0 0] w fun e w' => e = .returned (.pointer (some ⟨w.heap.size, 0, none⟩)) ∧ NewPost w (fun _ => 0) 0 w' := by
  go_enter Tryz.func53, Tryz.ntmps53
  go_wp2_with fail
  refine wp_loop_rounds 1 ?_
  rw [rounds_succ]
  go_wp2_with fail
  go_ret
  exact ⟨rfl, _, fun k e => by rw [e]; simp, (Below.refl _ _).alloc (Nat.le_refl _) _, made_cel _ _⟩
end Go.Proofs.YtodppilfpemepaaGreat
/- Next: Cells that a call has made: contracts, with all their blocks from B on. -/
namespace Go.Proofs.YtodppilfpemepaaGreat
open Go.RowKit Go.Maps
set_option linter.unusedVariables false

/-- Cells whose blocks all lie from B on. -/
def Cls (w : World) (B p : Nat) (f : Int → Int) (cnt k a x y : Int) : Prop := ∃ (n : Nat) (S : Nat → Prop), Cel w p f cnt k a x y n S ∧ (∀ k, S k → B ≤ k ∧ k < w.heap.size) ∧ (n : Int) ≤ cnt + 1000000
/-- Behind a call: what was there below B is as it was; the cells. -/
def ClsPost (B : Nat) (w : World) (p : Nat) (f : Int → Int) (cnt k a x y : Int) (w' : World) : Prop := Below B w w' ∧ Cls w' B p f cnt k a x y
theorem AccPost.cls {w w' : World} {B p n : Nat} {f : Int → Int} {cnt k a x y : Int} {S : Nat → Prop} (h : AccPost w p f (cnt + 1) k a x y (n + 1) S w') (hS : ∀ k, S k → B ≤ k ∧ k < w.heap.size) (hn : (n : Int) ≤ cnt + 1000000) (hB : B ≤ w.heap.size) : ClsPost B w p f (cnt + 1) k a x y w' := by
  obtain ⟨S', t, q⟩ := h
  obtain ⟨b1, b2⟩ := t.to_below (fun k s => (hS k s).1) hB
  refine ⟨b1, n + 1, S', q, fun k s => ⟨b2 k s, ?_⟩, by omega⟩
  rcases t.only k s with s | s
  · have := t.keeps.size; have := (hS k s).2; omega
  · exact s.2
theorem Cls.keep {w w' : World} {B p : Nat} {f : Int → Int} {cnt k a x y : Int} (h : Cls w B p f cnt k a x y) (hb : Below w.heap.size w w') : Cls w' B p f cnt k a x y := by
  obtain ⟨n, S, q, hS, hn⟩ := h
  exact ⟨n, S, IsCells.keep q (Keeps.of_new (S := fun _ => False) hb) (fun _ _ s => s), fun k s => ⟨(hS k s).1, Nat.lt_of_lt_of_le (hS k s).2 hb.size⟩, hn⟩
section
variable {w : World} {B p : Nat} {f : Int → Int} {cnt k a0 x y a v u : Int}
theorem zload (h : Cls w B p f cnt k a0 x y) (hB : B ≤ w.heap.size) (ha : isU a) (hc0 : 0 ≤ cnt) (hc1 : cnt < 1000000000) (hu : f a = u) :
    Calls Tryz.prog 50 #[.pointer (some ⟨p, 0, none⟩), .int .u64 a] w fun e w' => e = .returned (.int .u64 u) ∧ ClsPost B w p f (cnt + 1) 1 a u u w' := by
  subst hu
  obtain ⟨n, S, q, hS, hn⟩ := h
  refine (load_any q ha (by omega) hc0 (by omega)).mono ?_
  rintro e w' ⟨rfl, hk⟩
  exact ⟨rfl, hk.cls hS hn hB⟩
theorem zstore (h : Cls w B p f cnt k a0 x y) (hB : B ≤ w.heap.size) (ha : isU a) (hv : isU v) (hc0 : 0 ≤ cnt) (hc1 : cnt < 1000000000) (hu : f a = u) :
    Calls Tryz.prog 39 #[.pointer (some ⟨p, 0, none⟩), .int .u64 a, .int .u64 v] w fun e w' => e = .returned (.int .u64 u) ∧ ClsPost B w p (upd f a v) (cnt + 1) 2 a u v w' := by
  subst hu
  obtain ⟨n, S, q, hS, hn⟩ := h
  refine (store_any q ha hv (by omega) hc0 (by omega)).mono ?_
  rintro e w' ⟨rfl, hk⟩
  exact ⟨rfl, hk.cls hS hn hB⟩
theorem zadd (h : Cls w B p f cnt k a0 x y) (hB : B ≤ w.heap.size) (ha : isU a) (hc0 : 0 ≤ cnt) (hc1 : cnt < 1000000000) (hu : f a = u) {z : Int} (hz : IntKind.u64.wrap (u + v) = z) :
    Calls Tryz.prog 220 #[.pointer (some ⟨p, 0, none⟩), .int .u64 a, .int .u64 v] w fun e w' => e = .returned (.int .u64 u) ∧ ClsPost B w p (upd f a z) (cnt + 1) 4 a u z w' := by
  subst hu hz
  obtain ⟨n, S, q, hS, hn⟩ := h
  refine (add_any q ha (by omega) hc0 (by omega)).mono ?_
  rintro e w' ⟨rfl, hk⟩
  exact ⟨rfl, hk.cls hS hn hB⟩
theorem zcas_hit (h : Cls w B p f cnt k a0 x y) (hB : B ≤ w.heap.size) (ha : isU a) (hv : isU v) (hc0 : 0 ≤ cnt) (hc1 : cnt < 1000000000) (hu : f a = u) :
    Calls Tryz.prog 106 #[.pointer (some ⟨p, 0, none⟩), .int .u64 a, .int .u64 u, .int .u64 v] w fun e w' => e = .returned (.tuple #[.int .u64 u, .bool true]) ∧ ClsPost B w p (upd f a v) (cnt + 1) 3 a u v w' := by
  subst hu
  obtain ⟨n, S, q, hS, hn⟩ := h
  refine (cas_any q (fun k s => (hS k s).2) ha hv (by omega) hc0 (by omega) (r := true) (by simp)).mono ?_
  rintro e w' ⟨rfl, hk⟩
  exact ⟨rfl, hk.cls hS hn hB⟩
theorem zcas_miss (h : Cls w B p f cnt k a0 x y) (hB : B ≤ w.heap.size) (ha : isU a) (hv : isU v) (hc0 : 0 ≤ cnt) (hc1 : cnt < 1000000000) (hu : f a = u) {z : Int} (hz : u ≠ z) :
    Calls Tryz.prog 106 #[.pointer (some ⟨p, 0, none⟩), .int .u64 a, .int .u64 z, .int .u64 v] w fun e w' => e = .returned (.tuple #[.int .u64 u, .bool false]) ∧ ClsPost B w p f (cnt + 1) 3 a u u w' := by
  subst hu
  obtain ⟨n, S, q, hS, hn⟩ := h
  refine (cas_any q (fun k s => (hS k s).2) ha hv (by omega) hc0 (by omega) (r := false) (beq_eq_false_iff_ne.2 hz)).mono ?_
  rintro e w' ⟨rfl, hk⟩
  have e1 : casI false v (f a) = f a := rfl
  rw [e1, upd_id] at hk
  exact ⟨rfl, hk.cls hS hn hB⟩
theorem zpeek (h : Cls w B p f cnt k a0 x y) (ha : isU a) (hu : f a = u) :
    Calls Tryz.prog 79 #[.pointer (some ⟨p, 0, none⟩), .int .u64 a] w fun e w' => e = .returned (.int .u64 u) ∧ w = w' := by
  subst hu
  obtain ⟨n, S, q, hS, hn⟩ := h
  exact peek_any q a ha
theorem zcount (h : Cls w B p f cnt k a0 x y) :
    Calls Tryz.prog 78 #[.pointer (some ⟨p, 0, none⟩)] w fun e w' => e = .returned (.int .i64 cnt) ∧ w = w' := by
  obtain ⟨n, S, q, hS, hn⟩ := h
  exact count_any q
theorem znew (w : World) : Calls Tryz.prog 53 #[.slice none 0 0] w fun e w' => e = .returned (.pointer (some ⟨w.heap.size, 0, none⟩)) ∧ ClsPost w.heap.size w w.heap.size (fun _ => 0) 0 0 0 0 0 w' := by
  refine (new_none w).mono ?_
  rintro e w' ⟨rfl, S, hS, hb, q⟩
  exact ⟨rfl, hb, 0, S, q, hS, by omega⟩
end
def one (a v : Int) : Int → Int := upd (fun _ => 0) a v
theorem one_at (a v : Int) : one a v a = v := upd_same _ _ _
theorem one_upd (a u v : Int) : upd (one a u) a v = one a v := by funext x; unfold one upd; split <;> rfl
theorem one_zero (a : Int) : ∀ x, isU x → one a 0 x = 0 := by intro x _; unfold one upd; split <;> rfl
end Go.Proofs.YtodppilfpemepaaGreat
/- Next: Contracts of package cells: new cells of some words; the last access. -/
namespace Go.Proofs.YtodppilfpemepaaGreat
open Go.RowKit Go.Maps
set_option linter.unusedVariables false

def wordsF (L : List (Int × Int)) : Int → Int := L.foldl (fun f x => upd f x.1 x.2) (fun _ => 0)
theorem wordsF_snoc (L : List (Int × Int)) (x : Int × Int) : wordsF (L ++ [x]) = upd (wordsF L) x.1 x.2 := by simp [wordsF]
theorem wordsF_take {L : List (Int × Int)} {k : Nat} {x : Int × Int} (h : L[k]? = some x) : wordsF (L.take (k + 1)) = upd (wordsF (L.take k)) x.1 x.2 := by
  have hk : k < L.length := by
    rcases Nat.lt_or_ge k L.length with h' | h'
    · exact h'
    · rw [List.getElem?_eq_none h'] at h; simp at h
  rw [List.take_succ_eq_append_getElem hk, wordsF_snoc]
  rw [List.getElem?_eq_getElem hk] at h
  simp at h
  rw [h]
def NewRel (B : Nat) (w : World) (L : List (Int × Int)) (k : Nat) (wr : World) : Prop := ∃ S, Cel wr B (wordsF (L.take k)) 0 0 0 0 0 k S ∧ (∀ j, S j → B ≤ j ∧ j < wr.heap.size) ∧ Below B w wr
theorem PutPost.rel {B : Nat} {w W w' : World} {L : List (Int × Int)} {k : Nat} {x : Int × Int} {S : Nat → Prop} (h : PutPost W B (upd (wordsF (L.take k)) x.1 x.2) 0 0 0 0 0 (k + 1) S w') (hS : ∀ j, S j → B ≤ j ∧ j < W.heap.size) (hb : Below B w W) (hB : B ≤ W.heap.size) (hx : L[k]? = some x) : NewRel B w L (k + 1) w' := by
  obtain ⟨S', t, q⟩ := h
  rw [← wordsF_take hx] at q
  obtain ⟨b1, b2⟩ := t.to_below (fun k s => (hS k s).1) hB
  refine ⟨S', q, fun j s => ⟨b2 j s, ?_⟩, hb.trans b1⟩
  rcases t.only j s with s | s
  · have := t.keeps.size; have := (hS j s).2; omega
  · exact s.2
set_option maxRecDepth 100000 in
set_option maxHeartbeats 1000000 in
theorem new_words (L : List (Int × Int)) (hU : ∀ x ∈ L, isU x.1 ∧ isU x.2) (g off c : Nat) (w : World) (hL : L.length ≤ 1000000) (hlen : L.length ≤ c) (hc : ∀ i x, L[i]? = some x → w.cell? ⟨g, off + i * 2, none⟩ = some (.int .u64 x.1) ∧ w.cell? ⟨g, off + i * 2 + 1, none⟩ = some (.int .u64 x.2)) (hg : g < w.heap.size) :
    Calls Tryz.prog 53 #[.slice (some ⟨g, off, none⟩) L.length c] w fun e w' => e = .returned (.pointer (some ⟨w.heap.size, 0, none⟩)) ∧ ClsPost w.heap.size w w.heap.size (wordsF L) 0 0 0 0 0 w' := by
  obtain ⟨B, hB⟩ : ∃ B, B = w.heap.size := ⟨_, rfl⟩
  obtain ⟨n, hn⟩ : ∃ n, n = L.length := ⟨_, rfl⟩
  have HC := Lib.hid hc
  have HU := Lib.hid hU
  rw [← hn] at hL hlen ⊢
  rw [← hB] at hg ⊢
  have HN := Lib.hid hn
  have HB := Lib.hid hB
  clear hc hU hn
  have hr0 : NewRel B w L 0 (w.alloc (.cells #[.map none, .int .i64 0, .int .u8 0, .int .u64 0, .int .u64 0, .int .u64 0] 183)) := by
    refine ⟨fun k => k = B, ?_, fun j e => by rw [e, hB]; simp, by rw [hB]; exact (Below.refl _ _).alloc (Nat.le_refl _) _⟩
    rw [hB]
    exact made_cel w _
  clear hB
  go_enter Tryz.func53, Tryz.ntmps53
  go_wp2_with fail
  rw [show w.heap.size = B from HB.out.symm]
  generalize hW : w.alloc _ = W at hr0 ⊢
  clear hW
  go_loopw [10] (fun i wr => ∃ k : Nat, k ≤ n ∧ i = .int .i64 k ∧ NewRel B w L k wr) (fun i _ => n - (intOf i).toNat)
  case atStart => exact ⟨0, Nat.zero_le _, rfl, hr0⟩
  case round =>
    obtain ⟨k, hk, rfl, S, hq, hS, hbel⟩ := hrel
    clear hr0
    by_cases hlt : k < n
    · obtain ⟨x, hx⟩ : ∃ x, L[k]? = some x := ⟨_, List.getElem?_eq_getElem (by have := HN.out; omega)⟩
      obtain ⟨d1, d2⟩ := HC.out k x hx
      obtain ⟨u1, u2⟩ := HU.out x (List.mem_of_getElem? hx)
      replace d1 := hbel.cell (p := ⟨g, off + k * 2, none⟩) hg |>.trans d1
      replace d2 := hbel.cell (p := ⟨g, off + k * 2 + 1, none⟩) hg |>.trans d2
      obtain ⟨xa, xv⟩ := x
      have hBs : B ≤ wr.heap.size := by have := (hS B hq.here).2; omega
      have hglt : g < wr.heap.size := by omega
      have e1 : ∀ o, (wr.alloc o).cell? ⟨g, off + k * 2, none⟩ = some (.int .u64 xa) := fun o => ((Keeps.refl (fun _ => False) wr).alloc o).cell (p := ⟨g, off + k * 2, none⟩) (by simp) d1
      have e2 : ∀ o, (wr.alloc o).cell? ⟨g, off + k * 2 + 1, none⟩ = some (.int .u64 xv) := fun o => ((Keeps.refl (fun _ => False) wr).alloc o).cell (p := ⟨g, off + k * 2 + 1, none⟩) (by simp) d2
      have HX := Lib.hid hx
      have HQ := Lib.hid hq
      have HS := Lib.hid hS
      have HL := Lib.hid hbel
      clear hx hq hS hbel
      have HP : ∀ T, Hid (Calls Tryz.prog 96 #[.pointer (some ⟨B, 0, none⟩), .int .u64 xa, .int .u64 xv] (wr.alloc (.cells #[.int .u64 xa, .int .u64 xv] T)) fun e w' => e = .returned (.tuple #[]) ∧ NewRel B w L (k + 1) w') := fun T => Lib.hid (by
        have hq := HQ.out
        refine (put_any (v := xv) (IsCells.keep hq ((Keeps.refl (fun _ => False) wr).alloc (.cells #[.int .u64 xa, .int .u64 xv] T)) (fun _ _ s => s)) u1 u2 (by omega)).mono ?_
        rintro e w' ⟨rfl, hp⟩
        exact ⟨rfl, PutPost.rel (x := (xa, xv)) hp (fun j s => ⟨(HS.out j s).1, by have := (HS.out j s).2; simp; omega⟩) (HL.out.alloc hBs _) (by simp; omega) HX.out⟩)
      clear u1 u2
      go_wp2_with (go_at_call 96; ((with_reducible refine ((HP _).out).mono ?_); rintro e w2 ⟨rfl, hr⟩))
      go_roundw
      case rel => exact ⟨k + 1, by omega, by go_num, hr⟩
      case measure => simp [intOf]; omega
    · have hkn : k = n := by omega
      have HQ := Lib.hid hq
      have HS := Lib.hid hS
      have HL := Lib.hid hbel
      clear hq hS hbel
      go_wp2_with fail
      go_ret
      refine ⟨rfl, ?_⟩
      have e1 : L.take k = L := List.take_of_length_le (by have := HN.out; omega)
      have hq := HQ.out
      rw [e1] at hq
      exact ⟨HL.out, k, S, hq, HS.out, by omega⟩
theorem last_any {w : World} {p n : Nat} {f : Int → Int} {cnt k a x y : Int} {S : Nat → Prop} (h : Cel w p f cnt k a x y n S) :
    Calls Tryz.prog 74 #[.pointer (some ⟨p, 0, none⟩)] w fun e w' => e = .returned (.agg #[.int .u8 k, .int .u64 a, .int .u64 x, .int .u64 y]) ∧ Below w.heap.size w w' := by
  have c2 := h.c2
  have c3 := h.c3
  have c4 := h.c4
  have c5 := h.c5
  have hlt := h.lt
  have m2 : ∀ o, (w.alloc o).cell? ⟨p, 2, none⟩ = some (.int .u8 k) := fun o => (World.cell?_alloc_lt w o ⟨p, 2, none⟩ hlt).trans c2
  have m3 : ∀ o, (w.alloc o).cell? ⟨p, 3, none⟩ = some (.int .u64 a) := fun o => (World.cell?_alloc_lt w o ⟨p, 3, none⟩ hlt).trans c3
  have m4 : ∀ o, (w.alloc o).cell? ⟨p, 4, none⟩ = some (.int .u64 x) := fun o => (World.cell?_alloc_lt w o ⟨p, 4, none⟩ hlt).trans c4
  have m5 : ∀ o, (w.alloc o).cell? ⟨p, 5, none⟩ = some (.int .u64 y) := fun o => (World.cell?_alloc_lt w o ⟨p, 5, none⟩ hlt).trans c5
  clear h
  go_enter Tryz.func74, Tryz.ntmps74
  go_wp2_with fail
  refine bodyPost_ret (v := .agg #[.int .u8 k, .int .u64 a, .int .u64 x, .int .u64 y]) (by simp [results, Tryz.results74, go_sem]) rfl ⟨rfl, ?_⟩
  exact (Below.refl w.heap.size w).alloc (Nat.le_refl _) _
theorem zlast {w : World} {B p : Nat} {f : Int → Int} {cnt k a x y : Int} (h : Cls w B p f cnt k a x y) :
    Calls Tryz.prog 74 #[.pointer (some ⟨p, 0, none⟩)] w fun e w' => e = .returned (.agg #[.int .u8 k, .int .u64 a, .int .u64 x, .int .u64 y]) ∧ Below w.heap.size w w' := by
  obtain ⟨n, S, q, hS, hn⟩ := h
  exact last_any q
end Go.Proofs.YtodppilfpemepaaGreat
/- Next: Contracts of package cells: Swap. -/
namespace Go.Proofs.YtodppilfpemepaaGreat
open Go.RowKit Go.Maps
set_option linter.unusedVariables false

section
variable {w : World} {p n : Nat} {f : Int → Int} {cnt k a0 x y a v : Int} {S : Nat → Prop}
end
end Go.Proofs.YtodppilfpemepaaGreat
/- Next: Contracts of package cells: the words of cells that are all 0. -/
namespace Go.Proofs.YtodppilfpemepaaGreat
open Go.RowKit Go.Maps
set_option linter.unusedVariables false

theorem wf_isU {a : Int} (h : (Lit.int .u64 a).wf = true) : isU a := by
  simp [Lit.wf, IntKind.min, IntKind.max, IntKind.signed, IntKind.bits] at h
  unfold isU; omega
def cV : Option Nat → Value
  | none => .pointer none
  | some b => .pointer (some ⟨b, 0, none⟩)
theorem cV_inv (v : Value) (y : DataW Unit × List MemPlace) (h : cR v = some y) : ∃ c, v = cV c := by
  unfold cR at h
  split at h
  · exact ⟨some _, rfl⟩
  · exact ⟨none, rfl⟩
  · simp at h
def SortNone : Prop := ∀ (fv : Value) (w : World), Calls Tryz.prog 115 #[.slice none 0 0, fv] w fun e w' => e = .returned (.tuple #[]) ∧ w' = w
theorem clip_none (w : World) : Calls Tryz.prog 118 #[.slice none 0 0] w fun e w' => e = .returned (.slice none 0 0) ∧ w = w' := by
  go_enter Tryz.func118, Tryz.ntmps118
  go_wp2_with fail
  go_ret
  exact ⟨rfl, rfl⟩
section
variable {w : World} {p m n : Nat} {D : DataW Unit} {f : Int → Int} {cnt k a0 x y : Int} {S : Nat → Prop}
theorem words_none (HS : SortNone) (hm : w.cell? ⟨p, 0, none⟩ = some (.map none)) :
    Calls Tryz.prog 77 #[.pointer (some ⟨p, 0, none⟩)] w fun e w' => e = .returned (.slice none 0 0) ∧ Below w.heap.size w w' := by
  have hr := run_range_nilMap (P := Tryz.prog) w 181 78 191 Tryz.underlying181
  have hx : ∀ ty, (Instr.next (.pointer (some ⟨w.heap.size, 0, none⟩)) false ty).run Tryz.prog (w.alloc (.mapIter none 0 #[] 0)) = _ := fun ty => run_next_nilMap w ty 0 0 #[]
  go_enter Tryz.func77, Tryz.ntmps77
  go_wp2_with fail
  refine wp_loop_rounds 1 ?_
  rw [rounds_succ]
  go_wp2_with (first
    | (go_at_call 115; refine (HS _ _).mono ?_; rintro e w' ⟨rfl, rfl⟩)
    | (go_at_call 118; refine (clip_none _).mono ?_; rintro e w' ⟨rfl, rfl⟩))
  go_ret
  exact ⟨rfl, (Below.refl _ _).alloc (Nat.le_refl _) _⟩
theorem words_empty (HS : SortNone) (h : Cel w p f cnt k a0 x y n S) (hf : ∀ a, isU a → f a = 0) (hm : w.cell? ⟨p, 0, none⟩ = some (.map (some m))) (H : MapOk Tryz.prog 78 w p m n D f S) :
    Calls Tryz.prog 77 #[.pointer (some ⟨p, 0, none⟩)] w fun e w' => e = .returned (.slice none 0 0) ∧ Below w.heap.size w w' := by
  have hown := H.own
  have hno : ∀ z kl, Go.keyOf Tryz.prog 78 (.int .u64 z) = some kl → Maps.has D kl = true → False := by
    intro z kl hk hh
    obtain ⟨z', e1, rfl, hw⟩ := Maps.keyOf_int_inv Tryz.underlying78 hk
    have hz : isU z' := wf_isU hw
    have := H.has z' hz
    rw [hf z' hz] at this
    unfold kA at this
    rw [this] at hh
    simp at hh
  have HNO := Lib.hid hno
  clear hno h H
  go_enter Tryz.func77, Tryz.ntmps77
  go_wp2_with (at_range; refine wpList_range_own _ rfl _ 181 rfl 78 191 lawA Tryz.underlying181 cR m n D rfl hown ?_; intro w0 hrg0 hg0 hs0)
  refine wp_loop_rounds 1 ?_
  rw [rounds_succ]
  go_wp2_with (at_next; refine wpList_next_ranges _ rfl _ rfl 78 lawA cR (fun z : Int => .int .u64 z) cV (fun key kl hk => by obtain ⟨z, rfl, _⟩ := Maps.keyOf_int_inv Tryz.underlying78 hk; exact ⟨z, rfl⟩) cV_inv m w.heap.size n D (Maps.has D) (Maps.size D) rfl hrg0 (fun _ _ => ?_) (fun z c kl y w1 cnt1 hk hl => (HNO.out z kl hk hl).elim))
  go_wp2_with (first
    | (go_at_call 115; refine (HS _ _).mono ?_; rintro e w' ⟨rfl, rfl⟩)
    | (go_at_call 118; refine (clip_none _).mono ?_; rintro e w' ⟨rfl, rfl⟩))
  go_ret
  exact ⟨rfl, (Below.refl _ _).grown hg0 (Nat.le_refl _) (fun k e => by simp at e)⟩
theorem words_zero (HS : SortNone) (h : Cel w p f cnt k a0 x y n S) (hf : ∀ a, isU a → f a = 0) :
    Calls Tryz.prog 77 #[.pointer (some ⟨p, 0, none⟩)] w fun e w' => e = .returned (.slice none 0 0) ∧ Below w.heap.size w w' := by
  rcases h.map with ⟨hm, -⟩ | ⟨m, D, hm, H⟩
  · exact words_none HS hm
  · exact words_empty HS h hf hm H
end
end Go.Proofs.YtodppilfpemepaaGreat
