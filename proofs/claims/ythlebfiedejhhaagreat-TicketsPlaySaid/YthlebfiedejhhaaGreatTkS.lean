/- A step of a Take or a Give beside the chapter's; a table of them. -/
import Derived.Test.YthlebfiedejhhaaGreatTkP
import Derived.Test.YthlebfiedejhhaaGreatGPo
import Derived.Test.YthlebfiedejhhaaGreatPwA
namespace Go.Proofs.YthlebfiedejhhaaGreat
open Go.RowKit Go.Maps
set_option linter.unusedVariables false
/-- What a step leaves in a pair. -/
def PoT (G : Nat → Prop) (w : World) (A R : Ad) (V : Wv) (x : Ox) (e : Ending) (w' : World) : Prop := e = .returned (.bool true) ∧ ∃ V', Hf G w' A R V' V' ∧ TkS w' x ∧ Kp (fun j => G j ∧ ¬ x.own j) w w' ∧ V'.M = V.M ∧ V'.I = V.I ∧ V'.cnt ≤ V.cnt + 1 ∧ ((∀ n, isU (V.tk n)) → ∀ n, isU (V'.tk n))
theorem isU_wrapT (z : Int) : isU (IntKind.u64.wrap z) := by rw [IntKind.wrap_u64]; exact ⟨by omega, by omega⟩
theorem tkU_U {tk : Nat → Int} {t : Nat} {v : Int} (h : ∀ n, isU (tk n)) (hv : isU v) : ∀ n, isU (tkU tk t v n) := fun n => by
  unfold tkU
  split
  · exact hv
  · exact h n
section
variable {G : Nat → Prop} {w : World} {A R : Ad} {V : Wv} {x : Ox}
theorem tk_sameN (w : World) : Calls Tryz.prog 23 #[.agg #[.pointer none, .pointer none, .pointer none, .pointer none]] w fun e w' => e = .returned (.bool true) ∧ Below w.heap.size w w' := by
  go_enter Tryz.func23, Tryz.ntmps23
  go_wp2_with fail
  go_ret
  exact ⟨rfl, bs_alloc (Below.refl _ _)⟩
theorem tk_stepN (y : List Value) (w : World) : Calls Tryz.prog 22 #[.agg #[.pointer none, .pointer none, .pointer none, .pointer none], .agg #[.pointer (some ⟨A.p, 0, none⟩), .pointer (some ⟨R.p, 0, none⟩)]] w fun e w' => e = .returned (.bool true) ∧ Below w.heap.size w w' := by
  go_enter Tryz.func22, Tryz.ntmps22
  go_wp2_with fail
  go_ret
  exact ⟨rfl, bs_alloc (bs_alloc (Below.refl _ _))⟩
set_option maxHeartbeats 1000000 in
set_option maxRecDepth 100000 in
theorem tk_stepS (h : Hf G w A R V V) (hx : TkS w x) (hG : ∀ k, x.own k → G k) (hc : V.cnt < 100000000) :
    Calls Tryz.prog 22 #[.agg x.vals.toArray, .agg #[.pointer (some ⟨A.p, 0, none⟩), .pointer (some ⟨R.p, 0, none⟩)]] w (PoT G w A R V x) := by
  rcases hx with ⟨hv, ho⟩ | ⟨p, r, t, tick, hv, ho, hpr, ht, hs⟩ | ⟨p, r, hv, ho, hpr, hs⟩
  · rw [hv]
    refine (tk_stepN (A := A) (R := R) [] w).mono ?_
    rintro e w' ⟨rfl, hb⟩
    exact ⟨rfl, V, h.new hb, .inl ⟨hv, ho⟩, Kp.of hb, rfl, rfl, by omega, fun h => h⟩
  · have gp : G p := hG p (by rw [ho]; exact .inl rfl)
    have gr : G r := hG r (by rw [ho]; exact .inr rfl)
    rw [hv]
    have fin : ∀ {e : Ending} {w' : World} {V' : Wv} {C D : List Value}, (e = .returned (.bool true) ∧ Hf G w' A R V' V' ∧ Ob w' p C ∧ Ob w' r D ∧ Kp (fun j => G j ∧ ¬ (j = p ∨ j = r)) w w') → (Ob w' p C → Ob w' r D → TkS w' x) → (V'.M = V.M ∧ V'.I = V.I ∧ V'.cnt ≤ V.cnt + 1 ∧ ((∀ n, isU (V.tk n)) → ∀ n, isU (V'.tk n))) → PoT G w A R V x e w' := by
      intro e w' V' C D hh hS hV
      obtain ⟨h1, h2, h3, h4, h5⟩ := hh
      refine ⟨h1, V', h2, hS h3 h4, ?_, hV⟩
      rw [ho]
      exact h5
    rcases hs with ⟨h1, h2⟩ | ⟨h1, h2⟩ | ⟨h1, h2⟩
    · refine (tk_stepT (D' := rtC 2 (V.f 0) true t) (C' := tkC t (V.f 0) true (mV 148 p)) (ln := 2) (ov := false) h gp gr hpr h1 h2 rfl rfl (fun G X hf hr o => rt_step1 ht hf hr o hc rfl rfl) (fun G X hf hp o => lift_op (fun G' o' => tk_step1 ht o' (by omega) rfl rfl) hf hp o) (fun X o1 o2 => tk_sameT o2 (fun Y hb => tk_got (o1.new hb)) (fun Y hb => tk_overn (o1.new hb)) rfl)).mono (fun e w' hh => fin hh (fun a b => .inr (.inl ⟨p, r, t, V.f 0, hv, ho, hpr, ht, .inr (.inl ⟨a, b⟩)⟩)) ⟨rfl, rfl, by show V.cnt + 1 ≤ _; omega, fun hu => tkU_U hu (isU_wrapT _)⟩)
    · by_cases hs : V.f 1 = tick
      · refine (tk_stepT (D' := rtC 0 tick true t) (C' := tkC t tick true .nilFunc) (ln := 0) (ov := true) h gp gr hpr h1 h2 rfl rfl (fun G X hf hr o => rt_step2 ht hf hr o hc hs) (fun G X hf hp o => lift_op (fun G' o' => tk_step2 ht o' (by omega) hs) hf hp o) (fun X o1 o2 => tk_sameT o2 (fun Y hb => tk_got (o1.new hb)) (fun Y hb => tk_over (o1.new hb)) rfl)).mono (fun e w' hh => fin hh (fun a b => .inr (.inl ⟨p, r, t, tick, hv, ho, hpr, ht, .inr (.inr ⟨a, b⟩)⟩)) ⟨rfl, rfl, by show V.cnt + 1 ≤ _; omega, fun hu => tkU_U hu ⟨by decide, by decide⟩⟩)
      · refine (tk_stepT (D' := rtC 2 tick true t) (C' := tkC t tick true (mV 148 p)) (ln := 2) (ov := false) h gp gr hpr h1 h2 rfl rfl (fun G X hf hr o => rt_step2n hf hr o hc rfl (by simp [hs])) (fun G X hf hp o => lift_op (fun G' o' => tk_step2n o' (by omega) rfl (by simp [hs])) hf hp o) (fun X o1 o2 => tk_sameT o2 (fun Y hb => tk_got (o1.new hb)) (fun Y hb => tk_overn (o1.new hb)) rfl)).mono (fun e w' hh => fin hh (fun a b => .inr (.inl ⟨p, r, t, tick, hv, ho, hpr, ht, .inr (.inl ⟨a, b⟩)⟩)) ⟨rfl, rfl, by show V.cnt + 1 ≤ _; omega, fun hu => hu⟩)
    · refine (tk_stepT (V' := V) (D' := rtC 0 tick true t) (C' := tkC t tick true .nilFunc) (ln := 0) (ov := true) h gp gr hpr h1 h2 rfl rfl (fun G X hf hr o => rt_step0 hf o) (fun G X hf hp o => ?_) (fun X o1 o2 => tk_sameT o2 (fun Y hb => tk_got (o1.new hb)) (fun Y hb => tk_over (o1.new hb)) rfl)).mono (fun e w' hh => fin hh (fun a b => .inr (.inl ⟨p, r, t, tick, hv, ho, hpr, ht, .inr (.inr ⟨a, b⟩)⟩)) ⟨rfl, rfl, by omega, fun hu => hu⟩)
      refine (tk_step0 o _).mono ?_
      rintro e w' ⟨rfl, rfl⟩
      exact ⟨rfl, hf, o, Keeps.refl _ _⟩
  · have gp : G p := hG p (by rw [ho]; exact .inl rfl)
    have gr : G r := hG r (by rw [ho]; exact .inr rfl)
    rw [hv]
    have fin : ∀ {e : Ending} {w' : World} {V' : Wv} {C D : List Value}, (e = .returned (.bool true) ∧ Hf G w' A R V' V' ∧ Ob w' p C ∧ Ob w' r D ∧ Kp (fun j => G j ∧ ¬ (j = p ∨ j = r)) w w') → (Ob w' p C → Ob w' r D → TkS w' x) → (V'.M = V.M ∧ V'.I = V.I ∧ V'.cnt ≤ V.cnt + 1 ∧ ((∀ n, isU (V.tk n)) → ∀ n, isU (V'.tk n))) → PoT G w A R V x e w' := by
      intro e w' V' C D hh hS hV
      obtain ⟨h1, h2, h3, h4, h5⟩ := hh
      refine ⟨h1, V', h2, hS h3 h4, ?_, hV⟩
      rw [ho]
      exact h5
    rcases hs with ⟨h1, h2⟩ | ⟨h1, h2⟩
    · refine (tk_stepG (D' := [.int .i64 0]) (C' := [.nilFunc]) (ln := 0) (ov := true) h gp gr hpr h1 h2 rfl rfl (fun G X hf hr o => rg_step1 hf hr o hc rfl rfl) (fun G X hf hp o => lift_op (fun G' o' => gv_step o' (by omega) rfl rfl) hf hp o) (fun X o1 o2 => tk_sameG o2 (fun Y hb => gv_over (o1.new hb)) rfl)).mono (fun e w' hh => fin hh (fun a b => .inr (.inr ⟨p, r, hv, ho, hpr, .inr ⟨a, b⟩⟩)) ⟨rfl, rfl, by show V.cnt + 1 ≤ _; omega, fun hu => hu⟩)
    · refine (tk_stepG (V' := V) (D' := [.int .i64 0]) (C' := [.nilFunc]) (ln := 0) (ov := true) h gp gr hpr h1 h2 rfl rfl (fun G X hf hr o => rg_step0 hf o) (fun G X hf hp o => ?_) (fun X o1 o2 => tk_sameG o2 (fun Y hb => gv_over (o1.new hb)) rfl)).mono (fun e w' hh => fin hh (fun a b => .inr (.inr ⟨p, r, hv, ho, hpr, .inr ⟨a, b⟩⟩)) ⟨rfl, rfl, by omega, fun hu => hu⟩)
      refine (gv_step0 o _).mono ?_
      rintro e w' ⟨rfl, rfl⟩
      exact ⟨rfl, hf, o, Keeps.refl _ _⟩
/-- What each tells. -/
theorem tk_sameS (hx : TkS w x) : Calls Tryz.prog 23 #[.agg x.vals.toArray] w fun e w' => e = .returned (.bool true) ∧ Below w.heap.size w w' := by
  rcases hx with ⟨hv, ho⟩ | ⟨p, r, t, tick, hv, ho, hpr, ht, hs⟩ | ⟨p, r, hv, ho, hpr, hs⟩
  · rw [hv]
    exact tk_sameN w
  · rw [hv]
    rcases hs with ⟨h1, h2⟩ | ⟨h1, h2⟩ | ⟨h1, h2⟩
    · exact tk_sameT h2 (fun Y hb => tk_got_no (h1.new hb)) (fun Y hb => tk_overn (h1.new hb)) rfl
    · exact tk_sameT h2 (fun Y hb => tk_got (h1.new hb)) (fun Y hb => tk_overn (h1.new hb)) rfl
    · exact tk_sameT h2 (fun Y hb => tk_got (h1.new hb)) (fun Y hb => tk_over (h1.new hb)) rfl
  · rw [hv]
    rcases hs with ⟨h1, h2⟩ | ⟨h1, h2⟩
    · exact tk_sameG h2 (fun Y hb => gv_overn (h1.new hb)) rfl
    · exact tk_sameG h2 (fun Y hb => gv_over (h1.new hb)) rfl
end
/-- A table of operations in block T: six of them, of four cells each. -/
structure Tb6 (GL : Nat → Prop) (X : World) (T : Nat) (f : Nat → Ox) : Prop where
  cell : ∀ i, i < 6 → ∀ j u, (f i).vals[j]? = some u → X.cell? ⟨T, i * 4 + j, none⟩ = some u
  fz : ∀ j, j < 24 → X.frozen? ⟨T, j, none⟩ = false
  len : ∀ i, i < 6 → (f i).vals.length = 4
  all : ∀ i, i < 6 → TkS X (f i) ∧ ∀ k, (f i).own k → GL k
  dis : ∀ i j, i < 6 → j < 6 → i ≠ j → ∀ k, (f i).own k → ¬ (f j).own k
  nt : ¬ GL T
  lt : T < X.heap.size
section
variable {GL GL' : Nat → Prop} {X Y : World} {T : Nat} {f : Nat → Ox} {U : Nat → Prop}
theorem Tb6.keep (h : Tb6 GL X T f) (hk : Keeps U X Y) (hT : ¬ U T) (hU : ∀ k, GL k → ¬ U k) : Tb6 GL Y T f :=
  ⟨fun i hi j u hu => hk.cell (p := ⟨T, i * 4 + j, none⟩) hT (h.cell i hi j u hu), fun j hj => hk.frozen (p := ⟨T, j, none⟩) hT h.lt (h.fz j hj), h.len, fun i hi => ⟨stabTk _ _ _ _ (h.all i hi).1 hk (fun k o u => hU k ((h.all i hi).2 k o) u), (h.all i hi).2⟩, h.dis, h.nt, Nat.lt_of_lt_of_le h.lt hk.size⟩
theorem Tb6.new (h : Tb6 GL X T f) (hb : Below X.heap.size X Y) : Tb6 GL Y T f := h.keep (U := fun _ => False) (Keeps.of_new hb) (fun s => s) (fun _ _ s => s)
theorem Tb6.step (h : Tb6 GL X T f) {i : Nat} (hi : i < 6) (hk : Keeps U X Y) (hT : ¬ U T) (hU : ∀ k, GL k → U k → (f i).own k) (hx : TkS Y (f i)) : Tb6 GL Y T f := by
  refine ⟨fun i hi j u hu => hk.cell (p := ⟨T, i * 4 + j, none⟩) hT (h.cell i hi j u hu), fun j hj => hk.frozen (p := ⟨T, j, none⟩) hT h.lt (h.fz j hj), h.len, fun j hj => ⟨?_, (h.all j hj).2⟩, h.dis, h.nt, Nat.lt_of_lt_of_le h.lt hk.size⟩
  by_cases e : j = i
  · subst e
    exact hx
  · exact stabTk _ _ _ _ (h.all j hj).1 hk (fun k o u => h.dis j i hj hi e k o (hU k ((h.all j hj).2 k o) u))
/-- One is laid anew. -/
theorem Tb6.put (h : Tb6 GL X T f) {i : Nat} (hi : i < 6) {x : Ox} {v0 v1 v2 v3 : Value} (hv : x.vals = [v0, v1, v2, v3]) (hx : TkS X x) (hG : ∀ k, GL k → GL' k) (ho : ∀ k, x.own k → GL' k ∧ ¬ GL k) (hT : ¬ GL' T) (hY : Y = (((X.setCell ⟨T, i * 4, none⟩ v0).setCell ⟨T, i * 4 + 1, none⟩ v1).setCell ⟨T, i * 4 + 2, none⟩ v2).setCell ⟨T, i * 4 + 3, none⟩ v3) :
    Tb6 GL' Y T (fun j => if j = i then x else f j) ∧ Keeps (fun k => k = T) X Y := by
  subst hY
  have hk : Keeps (fun k => k = T) X ((((X.setCell ⟨T, i * 4, none⟩ v0).setCell ⟨T, i * 4 + 1, none⟩ v1).setCell ⟨T, i * 4 + 2, none⟩ v2).setCell ⟨T, i * 4 + 3, none⟩ v3) := ((((Keeps.refl (fun k => k = T) X).setCell (p := ⟨T, i * 4, none⟩) (.inl rfl) v0).setCell (p := ⟨T, i * 4 + 1, none⟩) (.inl rfl) v1).setCell (p := ⟨T, i * 4 + 2, none⟩) (.inl rfl) v2).setCell (p := ⟨T, i * 4 + 3, none⟩) (.inl rfl) v3
  have so : ∀ {w : World} {i j : Nat} {u v : Value}, i ≠ j → w.cell? ⟨T, j, none⟩ = some v → (w.setCell ⟨T, i, none⟩ u).cell? ⟨T, j, none⟩ = some v := fun hij hc => set_other hij hc
  have ex : ∀ j, j < 4 → ∃ u, X.cell? ⟨T, i * 4 + j, none⟩ = some u := fun j hj => ⟨_, h.cell i hi j _ (List.getElem?_eq_getElem (by rw [h.len i hi]; exact hj))⟩
  refine ⟨⟨fun i' hi' j u hu => ?_, fun j hj => by simp only [World.frozen?_setCell]; exact h.fz j hj, fun i' hi' => ?_, fun i' hi' => ?_, fun a b ha hb hab k oa ob => ?_, hT, Nat.lt_of_lt_of_le h.lt hk.size⟩, hk⟩
  · by_cases e : i' = i
    · subst e
      simp only [if_true] at hu
      rw [hv] at hu
      obtain ⟨u0, c0⟩ := ex 0 (by decide)
      obtain ⟨u1, c1⟩ := ex 1 (by decide)
      obtain ⟨u2, c2⟩ := ex 2 (by decide)
      obtain ⟨u3, c3⟩ := ex 3 (by decide)
      match j, hu with
      | 0, hu => simp at hu; subst hu; exact so (by omega) (so (by omega) (so (by omega) (World.cell?_setCell_same _ _ _ c0)))
      | 1, hu => simp at hu; subst hu; exact so (by omega) (so (by omega) (World.cell?_setCell_same _ _ _ (so (by omega) c1)))
      | 2, hu => simp at hu; subst hu; exact so (by omega) (World.cell?_setCell_same _ _ _ (so (by omega) (so (by omega) c2)))
      | 3, hu => simp at hu; subst hu; exact World.cell?_setCell_same _ _ _ (so (by omega) (so (by omega) (so (by omega) c3)))
      | j + 4, hu => simp at hu
    · simp only [if_neg e] at hu
      have hj : j < 4 := by
        have := h.len i' hi'
        rcases Nat.lt_or_ge j (f i').vals.length with h | h
        · omega
        · rw [List.getElem?_eq_none h] at hu; simp at hu
      have := h.cell i' hi' j u hu
      exact so (by omega) (so (by omega) (so (by omega) (so (by omega) this)))
  · by_cases e : i' = i
    · simp only [if_pos e, hv]; rfl
    · simp only [if_neg e]; exact h.len i' hi'
  · by_cases e : i' = i
    · simp only [if_pos e]
      exact ⟨stabTk _ _ _ _ hx hk (fun k o u => by subst u; exact hT (ho k o).1), fun k o => (ho k o).1⟩
    · simp only [if_neg e]
      exact ⟨stabTk _ _ _ _ (h.all i' hi').1 hk (fun k o u => by subst u; exact h.nt ((h.all i' hi').2 k o)), fun k o => hG k ((h.all i' hi').2 k o)⟩
  · by_cases ea : a = i
    · by_cases eb : b = i
      · exact hab (ea.trans eb.symm)
      · simp only [if_pos ea] at oa
        simp only [if_neg eb] at ob
        exact (ho k oa).2 ((h.all b hb).2 k ob)
    · by_cases eb : b = i
      · simp only [if_neg ea] at oa
        simp only [if_pos eb] at ob
        exact (ho k ob).2 ((h.all a ha).2 k oa)
      · simp only [if_neg ea] at oa
        simp only [if_neg eb] at ob
        exact h.dis a b ha hb hab k oa ob
end
/-- What stands between two acts: the pair; the table T; the blocks of G0. -/
def PlT (G0 : Nat → Prop) (T : Nat) (W : World) (A R : Ad) (X : World) (c : Int) : Prop :=
  ∃ (V : Wv) (f : Nat → Ox) (G GL : Nat → Prop), Hf G X A R V V ∧ (∀ j, G0 j ∨ j = T → G j) ∧ Tb6 GL X T f ∧ (∀ j, GL j → G j ∧ ¬ G0 j) ∧ Kp G0 W X ∧ (V.M = [] ∧ V.I.length ≤ 300 ∧ V.cnt ≤ c ∧ ∀ n, isU (V.tk n)) ∧ ¬ G0 T
section
variable {G0 : Nat → Prop} {T : Nat} {W X Y : World} {A R : Ad} {c c' : Int}
theorem PlT.new (h : PlT G0 T W A R X c) (hb : Below X.heap.size X Y) : PlT G0 T W A R Y c := by
  obtain ⟨V, f, G, GL, h1, h2, h3, h4, h5, h6, h7⟩ := h
  exact ⟨V, f, G, GL, h1.new hb, h2, h3.new hb, h4, Kp.to h5 (Kp.of hb), h6, h7⟩
theorem PlT.le (h : PlT G0 T W A R X c) (hc : c ≤ c') : PlT G0 T W A R X c' := by
  obtain ⟨V, f, G, GL, h1, h2, h3, h4, h5, ⟨a, b, d, e⟩, h7⟩ := h
  exact ⟨V, f, G, GL, h1, h2, h3, h4, h5, ⟨a, b, by omega, e⟩, h7⟩
theorem PlT.kp (h : PlT G0 T W A R X c) : Kp G0 W X := by
  obtain ⟨V, f, G, GL, h1, h2, h3, h4, h5, h6, h7⟩ := h
  exact h5
theorem PlT.store (h : PlT G0 T W A R X c) (hc : c < 1000000) {a v : Int} (ha : isU a) (hv : isU v) :
    Calls Tryz.prog 21 #[.agg #[.pointer (some ⟨A.p, 0, none⟩), .pointer (some ⟨R.p, 0, none⟩)], .agg #[.int .u64 a, .int .u64 v]] X fun e' w' => e' = .returned (.tuple #[]) ∧ PlT G0 T W A R w' (c + 1) := by
  obtain ⟨V, f, G, GL, h1, h2, h3, h4, h5, ⟨m1, m2, m3, m4⟩, h7⟩ := h
  refine (h1.pw.store (by omega) ha hv).mono ?_
  rintro e' w' ⟨he, h', hk⟩
  exact ⟨he, _, f, G, GL, h'.hf, h2, h3.keep hk (fun n => n (h2 T (.inr rfl))) (fun j g n => n (h4 j g).1), h4, Kp.to h5 (hk.less (fun j g => h2 j (.inl g))), ⟨m1, m2, by show V.cnt + 1 ≤ _; omega, m4⟩, h7⟩
theorem PlT.same (h : PlT G0 T W A R X c) :
    Calls Tryz.prog 15 #[.agg #[.pointer (some ⟨A.p, 0, none⟩), .pointer (some ⟨R.p, 0, none⟩)]] X fun e' w' => e' = .returned (.bool true) ∧ Below X.heap.size X w' := by
  obtain ⟨V, f, G, GL, h1, h2, h3, h4, h5, ⟨m1, m2, m3, m4⟩, h7⟩ := h
  obtain ⟨S, T, hp, -⟩ := h1.pw
  exact pw_same hp (by rw [m1]; decide)
theorem PlT.all (h : PlT G0 T W A R X c) (hc : c ≤ 1000000) :
    Calls Tryz.prog 13 #[.agg #[.pointer (some ⟨A.p, 0, none⟩), .pointer (some ⟨R.p, 0, none⟩)]] X fun e' w' => e' = .returned (.bool true) ∧ Below X.heap.size X w' := by
  obtain ⟨V, f, G, GL, h1, h2, h3, h4, h5, ⟨m1, m2, m3, m4⟩, h7⟩ := h
  obtain ⟨S, T, hp, -⟩ := h1.pw
  exact pw_all hp m1 m2 (by omega)
/-- Who waits, in both. -/
theorem PlT.wait (h : PlT G0 T W A R X c) {n : Nat} (hn : n < 64) : ∃ b, (∀ Y, Below X.heap.size X Y → Calls Tryz.prog 24 #[.pointer (some ⟨A.p, 0, none⟩), .int .i64 n] Y fun e w' => e = .returned (.bool b) ∧ Below Y.heap.size Y w') ∧ (∀ Y, Below X.heap.size X Y → Calls Tryz.prog 25 #[.pointer (some ⟨R.p, 0, none⟩), .int .i64 n] Y fun e w' => e = .returned (.bool b) ∧ Below Y.heap.size Y w') := by
  obtain ⟨V, f, G, GL, h1, h2, h3, h4, h5, ⟨m1, m2, m3, m4⟩, h7⟩ := h
  obtain ⟨S, T, hp, -⟩ := h1.pw
  exact ⟨_, fun Y hb => pwaits hn (hp.new hb), fun Y hb => rwaits hn (hp.new hb) (m4 n)⟩
/-- A step of one, and what it tells. -/
theorem PlT.at_ (h : PlT G0 T W A R X c) {i : Nat} (hi : i < 6) : ∃ v0 v1 v2 v3, (∀ Y, Below X.heap.size X Y → (Y.cell? ⟨T, i * 4, none⟩ = some v0 ∧ Y.cell? ⟨T, i * 4 + 1, none⟩ = some v1 ∧ Y.cell? ⟨T, i * 4 + 2, none⟩ = some v2 ∧ Y.cell? ⟨T, i * 4 + 3, none⟩ = some v3) ∧
    (c < 1000000 → Calls Tryz.prog 22 #[.agg #[v0, v1, v2, v3], .agg #[.pointer (some ⟨A.p, 0, none⟩), .pointer (some ⟨R.p, 0, none⟩)]] Y fun e' w' => e' = .returned (.bool true) ∧ PlT G0 T W A R w' (c + 1) ∧ (w'.cell? ⟨T, i * 4, none⟩ = some v0 ∧ w'.cell? ⟨T, i * 4 + 1, none⟩ = some v1 ∧ w'.cell? ⟨T, i * 4 + 2, none⟩ = some v2 ∧ w'.cell? ⟨T, i * 4 + 3, none⟩ = some v3)) ∧
    Calls Tryz.prog 23 #[.agg #[v0, v1, v2, v3]] Y fun e' w' => e' = .returned (.bool true) ∧ Below Y.heap.size Y w') := by
  obtain ⟨V, f, G, GL, h1, h2, h3, h4, h5, ⟨m1, m2, m3, m4⟩, h7⟩ := h
  obtain ⟨v0, v1, v2, v3, hv⟩ : ∃ v0 v1 v2 v3, (f i).vals = [v0, v1, v2, v3] := by
    have hl := h3.len i hi
    match (f i).vals, hl with
    | [a, b, c, d], _ => exact ⟨a, b, c, d, rfl⟩
  refine ⟨v0, v1, v2, v3, fun Y hb => ?_⟩
  have h1' := h1.new hb
  have h3' := h3.new hb
  have cells : ∀ Z, Tb6 GL Z T f → Z.cell? ⟨T, i * 4, none⟩ = some v0 ∧ Z.cell? ⟨T, i * 4 + 1, none⟩ = some v1 ∧ Z.cell? ⟨T, i * 4 + 2, none⟩ = some v2 ∧ Z.cell? ⟨T, i * 4 + 3, none⟩ = some v3 := fun Z hz => ⟨hz.cell i hi 0 _ (by rw [hv]; rfl), hz.cell i hi 1 _ (by rw [hv]; rfl), hz.cell i hi 2 _ (by rw [hv]; rfl), hz.cell i hi 3 _ (by rw [hv]; rfl)⟩
  refine ⟨cells Y h3', fun hc => ?_, ?_⟩
  · have ho : ∀ k, (f i).own k → G k := fun k o => (h4 k ((h3.all i hi).2 k o)).1
    have := tk_stepS h1' (h3'.all i hi).1 ho (by omega)
    rw [hv] at this
    refine this.mono ?_
    rintro e' w' ⟨he, V', hf, hx', hk, r1, r2, r3, r4⟩
    have nT : ¬ ¬ (G T ∧ ¬ (f i).own T) := fun n => n ⟨h2 T (.inr rfl), fun o => h3.nt ((h3.all i hi).2 T o)⟩
    have h3'' := h3'.step hi hk nT (fun k g n => Classical.byContradiction (fun no => n ⟨(h4 k g).1, no⟩)) hx'
    exact ⟨he, ⟨V', f, G, GL, hf, h2, h3'', h4, Kp.to (Kp.to h5 (Kp.of hb)) (hk.less (fun j g => ⟨h2 j (.inl g), fun o => (h4 j ((h3.all i hi).2 j o)).2 g⟩)), ⟨r1.trans m1, by rw [r2]; exact m2, by omega, r4 m4⟩, h7⟩, cells w' h3''⟩
  · have := tk_sameS (h3'.all i hi).1
    rw [hv] at this
    exact this
/-- One begins. -/
theorem PlT.put (h : PlT G0 T W A R X c) {i : Nat} (hi : i < 6) {Y Z : World} (hb : Below X.heap.size X Y) {x : Ox} {v0 v1 v2 v3 : Value} (hv : x.vals = [v0, v1, v2, v3]) (hx : TkS Y x) (ho : ∀ k, x.own k → X.heap.size ≤ k ∧ k < Y.heap.size) (hZ : Z = (((Y.setCell ⟨T, i * 4, none⟩ v0).setCell ⟨T, i * 4 + 1, none⟩ v1).setCell ⟨T, i * 4 + 2, none⟩ v2).setCell ⟨T, i * 4 + 3, none⟩ v3) :
    PlT G0 T W A R Z c := by
  obtain ⟨V, f, G, GL, h1, h2, h3, h4, h5, h6, h7⟩ := h
  have lt0 := h1.lts
  have hlt := h3.lt
  have r := (h3.new hb).put hi hv hx (GL' := fun k => GL k ∨ (X.heap.size ≤ k ∧ k < Y.heap.size)) (fun k g => .inl g) (fun k o => ⟨.inr (ho k o), fun g => by have := lt0 k (h4 k g).1; have := ho k o; omega⟩) (fun g => by
    rcases g with g | g
    · exact h3.nt g
    · omega) hZ
  refine ⟨V, _, _, _, (h1.addN hb).keep r.2 (fun k e => .inl (h2 k (.inr e))), fun j g => .inl (h2 j g), r.1, fun j g => ?_, Kp.to (Kp.to h5 (Kp.of hb)) (r.2.mono (fun k _ e g => by subst e; exact h7 g)), h6, h7⟩
  rcases g with g | g
  · exact ⟨.inl (h4 j g).1, (h4 j g).2⟩
  · exact ⟨.inr g, fun g0 => by have := lt0 j (h2 j (.inl g0)); omega⟩
/-- At first. -/
theorem PlT.first {V : Wv} {G : Nat → Prop} (h1 : Hf G X A R V V) (h2 : ∀ j, G0 j ∨ j = T → G j) (hT : ∀ i, i < 24 → X.cell? ⟨T, i, none⟩ = some (.pointer none)) (hz : ∀ i, i < 24 → X.frozen? ⟨T, i, none⟩ = false) (h7 : ¬ G0 T) (h6 : V.M = [] ∧ V.I.length ≤ 300 ∧ V.cnt ≤ c ∧ ∀ n, isU (V.tk n)) : PlT G0 T X A R X c := by
  refine ⟨V, fun _ => ⟨[.pointer none, .pointer none, .pointer none, .pointer none], fun _ => False⟩, G, fun _ => False, h1, h2, ⟨fun i hi j u hu => ?_, hz, fun i hi => rfl, fun i hi => ⟨.inl ⟨rfl, rfl⟩, fun k o => o⟩, fun i j _ _ _ k o => o.elim, fun g => g, World.block_lt_of_cell? _ _ (hT 0 (by decide))⟩, fun j g => g.elim, Keeps.refl _ _, h6, h7⟩
  match j, hu with
  | 0, hu => simp at hu; subst hu; exact hT _ (by omega)
  | 1, hu => simp at hu; subst hu; exact hT _ (by omega)
  | 2, hu => simp at hu; subst hu; exact hT _ (by omega)
  | 3, hu => simp at hu; subst hu; exact hT _ (by omega)
  | j + 4, hu => simp at hu
end
end Go.Proofs.YthlebfiedejhhaaGreat
