/- Feeds: the program's and the chapter's, side by side. -/
import Derived.Test.YtifbcejekdhnlaaRe8
namespace Go.Proofs.Ytifbcejekdhnlaa
open Go.RowKit Go.Maps
set_option linter.unusedVariables false

/-- Both feeds: the program's q with its blocks U, the chapter's p with its bytes in block g. -/
structure Pf (w W : World) (q p g : Nat) (U : Nat → Prop) (s : Fst) (hv kv : Value) (all : List UInt8) : Prop where
  fd : FdAt W q U s hv kv
  rf : RfAt W p g all
  np : ¬ U p
  ng : ¬ U g
  up : ∀ j, U j → w.heap.size ≤ j
  base : Below w.heap.size w W
  at_ : w.heap.size ≤ p
theorem Pf.new {w W W' : World} {q p g : Nat} {U : Nat → Prop} {s : Fst} {hv kv : Value} {all : List UInt8} (h : Pf w W q p g U s hv kv all) (hb : Below W.heap.size W W') : Pf w W' q p g U s hv kv all :=
  ⟨h.fd.new hb, h.rf.new hb, h.np, h.ng, h.up, h.base.trans (hb.mono h.base.size), h.at_⟩
theorem Pf.in_ {w W W' : World} {q p g : Nat} {U U' : Nat → Prop} {s s' : Fst} {hv kv hv' kv' : Value} {all : List UInt8} (h : Pf w W q p g U s hv kv all) (hf : FdAt W' q U' s' hv' kv') (hk : Keeps U W W') (hg : ∀ k, U' k → U k ∨ W.heap.size ≤ k) : Pf w W' q p g U' s' hv' kv' all := by
  obtain ⟨u, _, _, hp⟩ := h.rf.head
  have hgl := h.rf.lt
  refine ⟨hf, h.rf.keep hk h.np h.ng, fun e => ?_, fun e => ?_, fun j e => ?_, h.base.trans (hk.to_below (fun k _ e => h.up k e) h.base.size), h.at_⟩
  · rcases hg _ e with e | e
    · exact h.np e
    · omega
  · rcases hg _ e with e | e
    · exact h.ng e
    · omega
  · rcases hg _ e with e | e
    · exact h.up j e
    · have := h.base.size; omega
theorem Pf.rin {w W W' : World} {q p g g' : Nat} {U : Nat → Prop} {s : Fst} {hv kv : Value} {all all' : List UInt8} (h : Pf w W q p g U s hv kv all) (hr : RfAt W' p g' all') (hk : Keeps (fun k => k = p) W W') (hg : g' = p ∨ W.heap.size ≤ g') : Pf w W' q p g' U s hv kv all' := by
  obtain ⟨u, hu, hus, hp⟩ := h.rf.head
  refine ⟨h.fd.other hk (fun k t => ?_), hr, h.np, fun e => ?_, h.up, h.base.trans (hk.to_below (fun k _ e => by have := h.at_; omega) h.base.size), h.at_⟩
  · subst t
    exact ⟨h.np, fun x hx => by rw [hu] at hx; injection hx with hx; exact hus x hx⟩
  · rcases hg with hg | hg
    · exact h.np (hg ▸ e)
    · have := h.fd.lt _ e; omega
/-- A copy's bytes, from a place on. -/
structure Cp8 (W : World) (b j : Nat) (x : List UInt8) : Prop where
  cell : ∀ i (h : i < x.length), j ≤ i → W.cell? ⟨b, i, none⟩ = some (.int .u8 (x[i].toNat : Int)) ∧ W.frozen? ⟨b, i, none⟩ = false
  head : ∀ y, W.cell? ⟨b, 0, none⟩ ≠ some (.string y)
  lt : b < W.heap.size
theorem Cp8.keep {W W' : World} {b j : Nat} {x : List UInt8} {T : Nat → Prop} (h : Cp8 W b j x) (hk : Keeps T W W') (hb : ¬ T b) : Cp8 W' b j x :=
  ⟨fun i hi hj => ⟨hk.cell (p := ⟨b, i, none⟩) hb (h.cell i hi hj).1, hk.frozen (p := ⟨b, i, none⟩) hb h.lt (h.cell i hi hj).2⟩, fun y e => by
    have hc : W'.cell? ⟨b, 0, none⟩ = W.cell? ⟨b, 0, none⟩ := by unfold World.cell?; simp only []; rw [hk.block b h.lt hb]
    exact h.head y (by rw [← hc]; exact e), Nat.lt_of_lt_of_le h.lt hk.size⟩
theorem cp8_of {W : World} {B b c : Nat} {e : TypeId} {o : Nat} {x : List UInt8} (h : W.ownsRow B e 1 (.slice (some ⟨b, o, none⟩) x.length c) x.length (byv x)) (h0 : 0 < x.length) : o = 0 ∧ B ≤ b ∧ Cp8 W b 0 x := by
  have hl := Lst.of_own h
  obtain ⟨_, ⟨h1, _⟩ | ⟨g', cap, hv, hB, hg, hn, hc, hx⟩⟩ := hl
  · simp at h1
  · injection hv with hv
    injection hv with hv
    injection hv with h1 h2 _
    subst h1 h2
    exact ⟨rfl, hB, fun i hi _ => hx i _ (byv_at hi), fun y e => by
      rw [(hx 0 _ (byv_at h0)).1] at e
      simp at e, hg⟩
/-- A byte of the copy is turned to 10. -/
theorem Cp8.set {W : World} {b j : Nat} {x : List UInt8} (h : Cp8 W b j x) (hj : j < x.length) : Cp8 (W.setCell ⟨b, j, none⟩ (.int .u8 10)) b (j + 1) x := by
  have hs := (h.cell j hj (Nat.le_refl _)).1
  refine ⟨fun i hi hji => ⟨?_, by simpa using (h.cell i hi (by omega)).2⟩, fun y e => ?_, by simpa [World.setCell] using h.lt⟩
  · rw [World.cell?_setCell_other _ _ _ _ (by intro e; injection e with _ e; omega)]
    exact (h.cell i hi (by omega)).1
  · by_cases hj0 : j = 0
    · subst hj0
      rw [World.cell?_setCell_same _ _ _ hs] at e
      simp at e
    · rw [World.cell?_setCell_other _ _ _ _ (by intro e; injection e with _ e; omega)] at e
      exact h.head y e
theorem Pf.write {w W : World} {q p g b j : Nat} {U : Nat → Prop} {s : Fst} {hv kv u : Value} {all x : List UInt8} (h : Pf w W q p g U s hv kv all) (hc : Cp8 W b j x) (hb : ¬ U b ∧ b ≠ p ∧ b ≠ g ∧ w.heap.size ≤ b) : Pf w (W.setCell ⟨b, j, none⟩ u) q p g U s hv kv all := by
  have hk : Keeps (fun k => k = b) W (W.setCell ⟨b, j, none⟩ u) := Keeps.setCell (S := fun k => k = b) (Keeps.refl _ W) (p := ⟨b, j, none⟩) (.inl rfl) _
  exact ⟨h.fd.other hk (fun k t => by subst t; exact ⟨hb.1, hc.head⟩), h.rf.keep hk (fun e => hb.2.1 e.symm) (fun e => hb.2.2.1 e.symm), h.np, h.ng, h.up, h.base.trans (hk.to_below (fun k _ e => by omega) h.base.size), h.at_⟩
/-- The copy of a chunk, apart from both feeds. -/
def Cpy (w W : World) (a : Option Addr) (j : Nat) (x : List UInt8) (p g : Nat) (U : Nat → Prop) : Prop := 0 < x.length → ∃ b, a = some ⟨b, 0, none⟩ ∧ Cp8 W b j x ∧ ¬ U b ∧ b ≠ p ∧ b ≠ g ∧ w.heap.size ≤ b
theorem Cpy.keep {w W W' : World} {a : Option Addr} {j : Nat} {x : List UInt8} {p g g' : Nat} {U U' T : Nat → Prop} (h : Cpy w W a j x p g U) (hk : Keeps T W W') (hT : ∀ b, ¬ U b → b ≠ p → ¬ T b) (hU : ∀ b, U' b → U b ∨ W.heap.size ≤ b) (hg : g' = g ∨ g' = p ∨ W.heap.size ≤ g') : Cpy w W' a j x p g' U' := fun h0 => by
  obtain ⟨b, e, hc, h1, h2, h3, h4⟩ := h h0
  have hl := hc.lt
  refine ⟨b, e, hc.keep hk (hT b h1 h2), fun u => ?_, h2, ?_, h4⟩
  · rcases hU b u with u | u
    · exact h1 u
    · omega
  · rcases hg with hg | hg | hg <;> omega
theorem Cpy.new {w W W' : World} {a : Option Addr} {j : Nat} {x : List UInt8} {p g : Nat} {U : Nat → Prop} (h : Cpy w W a j x p g U) (hb : Below W.heap.size W W') : Cpy w W' a j x p g U :=
  h.keep (T := fun _ => False) (Keeps.of_new hb) (fun _ _ _ e => e) (fun _ u => .inl u) (.inl rfl)
theorem cpy_of {w X W : World} {q p g c : Nat} {U : Nat → Prop} {s : Fst} {hv kv : Value} {all x : List UInt8} {a : Option Addr} (hP : Pf w X q p g U s hv kv all) (h : W.ownsRow X.heap.size 5 1 (.slice a x.length c) x.length (byv x)) : Cpy w W a 0 x p g U := fun h0 => by
  obtain ⟨_, ⟨_, h1⟩ | ⟨g', cap, hv, _⟩⟩ := Lst.of_own h
  · omega
  · injection hv with hv
    subst hv
    obtain ⟨_, hB, hc⟩ := cp8_of h h0
    obtain ⟨u, _, _, hp⟩ := hP.rf.head
    have := hP.rf.lt
    have := hP.base.size
    exact ⟨g', rfl, hc, fun e => by have := hP.fd.lt _ e; omega, by omega, by omega, by omega⟩
theorem pl_same {w Wd X3 X4 : World} {q p g : Nat} {U U3 : Nat → Prop} {s s' : Fst} {hv kv hv' kv' v4 : Value} {all : List UInt8} {a3 : Option Addr} {ps3 ps4 : List (Ev × Value)} {es : List Ev} (hP : Pf w Wd q p g U s hv kv all) (hP3 : Pf w X3 q p g U3 s' hv' kv' all) (hp3 : ps3.map Prod.fst = es) (e3 : EvAt X3 U3 Wd.heap.size (.slice a3 ps3.length ps3.length) ps3) (hp4 : ps4.map Prod.fst = es) (e4 : EvRR X4 v4 ps4) (k4 : Keeps (fun k => k = p) X3 X4) (hok : ∀ e ∈ es, EvOk e) (hpl : es.length ≤ 1048576) :
    Calls Try.prog 9 #[.slice a3 ps3.length ps3.length, v4] X4 fun r w' => r = .returned (.bool true) ∧ Below X4.heap.size X4 w' := by
  obtain ⟨_, _, _, hp⟩ := hP.rf.head
  obtain ⟨u, hu, hus, _⟩ := hP3.rf.head
  refine samew ps3.length a3 v4 ps3 ps4 X4 (e3.rd_keep ?_ k4 hp hu hus) e4 (hp3.trans hp4.symm) (by rw [hp3]; exact hok)
  rw [← hp3, List.length_map] at hpl
  exact hpl
end Go.Proofs.Ytifbcejekdhnlaa
