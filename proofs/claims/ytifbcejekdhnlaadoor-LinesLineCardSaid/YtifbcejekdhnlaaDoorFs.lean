/- Feeds: a feed and the events that it has told, while bytes come in. -/
import Derived.Test.YtifbcejekdhnlaaDoorFe5
import Derived.Test.YtifbcejekdhnlaaDoorRf
namespace Go.Proofs.YtifbcejekdhnlaaDoor
open Go.RowKit Go.Maps
set_option linter.unusedVariables false

def rowsE : List (Ev × Value) → List Value
  | [] => []
  | p :: ps => evC p.1 p.2 ++ rowsE ps
theorem evC_len (e : Ev) (kv : Value) : (evC e kv).length = 13 := rfl
theorem rowsE_len : ∀ ps : List (Ev × Value), (rowsE ps).length = ps.length * 13
  | [] => rfl
  | p :: ps => by
    show (evC p.1 p.2 ++ rowsE ps).length = _
    rw [List.length_append, rowsE_len ps, evC_len, List.length_cons]; omega
theorem rowsE_snoc (p : Ev × Value) : ∀ ps : List (Ev × Value), rowsE (ps ++ [p]) = rowsE ps ++ evC p.1 p.2
  | [] => by simp [rowsE]
  | q :: ps => by
    show evC q.1 q.2 ++ rowsE (ps ++ [p]) = _
    rw [rowsE_snoc p ps]
    show _ = (evC q.1 q.2 ++ rowsE ps) ++ evC p.1 p.2
    rw [List.append_assoc]
/-- Nothing of T has a text at its head. -/
theorem KyS.other {W W' : World} {U T : Nat → Prop} {kv : Value} {l : List (List UInt8)} (h : KyS W U kv l) (hk : Keeps T W W') (hT : ∀ g, T g → ∀ x, W.cell? ⟨g, 0, none⟩ ≠ some (.string x)) : KyS W' U kv l := by
  rcases h with h | ⟨g, c, rfl, h1, h2, h3, h4, h5⟩
  · exact .inl h
  · refine .inr ⟨g, c, rfl, h1, h2, h3, Nat.lt_of_lt_of_le h4 hk.size, ?_⟩
    cases l with
    | nil => intro j x hj; simp at hj
    | cons x l => exact h5.keep hk (fun t => hT g t _ (by have := h5 0 x rfl; rwa [Nat.zero_add] at this))
theorem FdAt.other {W W' : World} {q : Nat} {U T : Nat → Prop} {s : Fst} {hv kv : Value} (h : FdAt W q U s hv kv) (hk : Keeps T W W') (hT : ∀ g, T g → ¬ U g ∧ ∀ x, W.cell? ⟨g, 0, none⟩ ≠ some (.string x)) : FdAt W' q U s hv kv :=
  ⟨h.cells.keep hk (fun t => (hT q t).1 h.me), Keeps.ownsRow h.row hk (fun g e t => (hT g t).1 (h.own g e).1), h.own, h.me, h.keys.other hk (fun g t => (hT g t).2), fun k u => Nat.lt_of_lt_of_le (h.lt k u) hk.size⟩
/-- Where bytes come in: as they came (w0, the feed q with its blocks U0, the bytes L at A), the list's box, the boxes of what the iterator has captured; the list's own blocks are from B on. -/
structure Env where
  w0 : World
  U0 : Nat → Prop
  q : Nat
  bx : Nat
  bb : Nat
  bf : Nat
  B : Nat
  A : Option Addr
  c : Nat
  L : List UInt8
  N : Nat → Prop
structure Env.Ok (E : Env) : Prop where
  B : E.w0.heap.size ≤ E.B
  bx : E.w0.heap.size ≤ E.bx ∧ E.bx < E.B
  bb : E.w0.heap.size ≤ E.bb ∧ E.bb < E.B ∧ E.bb ≠ E.bx
  bf : E.w0.heap.size ≤ E.bf ∧ E.bf < E.B ∧ E.bf ≠ E.bx
  rd : Rd E.w0 E.w0.heap.size E.A E.L
  rn : ∀ g o, E.A = some ⟨g, o, none⟩ → 0 < E.L.length → ¬ E.U0 g
  len : E.L.length ≤ 1048576
  cap : E.L.length ≤ E.c ∧ E.c ≤ maxLen
structure StU (E : Env) (U : Nat → Prop) (s : Fst) (hv kv v : Value) (ps : List (Ev × Value)) (W : World) : Prop where
  fd : FdAt W E.q U s hv kv
  box : Cb W E.bx [v]
  row : W.ownsRow E.B 67 13 v ps.length (rowsE ps)
  keys : ∀ p ∈ ps, KyS W U p.2 p.1.cmd.keys
  own : ∀ g, v.ownBlock = some g → ¬ U g
  nu : ¬ U E.bx ∧ ¬ U E.bb ∧ ¬ U E.bf
  nil : ps = [] → v = .slice none 0 0
  base : Keeps E.U0 E.w0 W
  grow : ∀ k, U k → E.U0 k ∨ E.w0.heap.size ≤ k
  cb : W.cell? ⟨E.bb, 0, none⟩ = some (.slice E.A E.L.length E.c)
  cf : W.cell? ⟨E.bf, 0, none⟩ = some (.pointer (some ⟨E.q, 0, none⟩))
  size : E.B ≤ W.heap.size
theorem StU.rd {E : Env} {U : Nat → Prop} {s : Fst} {hv kv v : Value} {ps : List (Ev × Value)} {W : World} (h : StU E U s hv kv v ps W) (ho : E.Ok) : Rd W W.heap.size E.A E.L := fun h0 => by
  obtain ⟨g, off, e, hg, hc⟩ := ho.rd h0
  exact ⟨g, off, e, Nat.lt_of_lt_of_le hg h.base.size, fun j hj => h.base.cell (p := ⟨g, off + j, none⟩) (ho.rn g off e h0) (hc j hj)⟩
theorem StU.head {E : Env} {W : World} {U : Nat → Prop} {s : Fst} {hv kv v : Value} {ps : List (Ev × Value)} (h : StU E U s hv kv v ps W) : ∀ g, (g = E.bx ∨ v.ownBlock = some g) → ¬ U g ∧ ∀ x, W.cell? ⟨g, 0, none⟩ ≠ some (.string x) := by
  intro g hg
  rcases hg with rfl | hg
  · refine ⟨h.nu.1, fun x e => ?_⟩
    rw [h.box.at_ 0 _ rfl] at e
    obtain ⟨a, c, rfl, _⟩ := row_slice h.row
    simp at e
  · refine ⟨h.own g hg, fun x e => ?_⟩
    obtain ⟨a, c, rfl, _⟩ := row_slice h.row
    cases ps with
    | nil => rw [h.nil rfl] at hg; simp [Value.ownBlock] at hg
    | cons p ps =>
      obtain ⟨_, ⟨h0, _⟩ | ⟨g', cap, cur, hvv, _⟩⟩ := id h.row
      · rw [h0] at hg; simp [Value.ownBlock] at hg
      · injection hvv with h1 h2 h3
        subst h1
        have hg' : g' = g := by simpa [Value.ownBlock] using hg
        subst hg'
        have := h.row.cells rfl 0 (.int .u8 p.1.cmd.verb) rfl
        rw [Addr.add_lit, Nat.add_zero] at this
        rw [this] at e
        simp at e
/-- The feed has taken a step. -/
theorem StU.step {E : Env} {W W' : World} {U U' : Nat → Prop} {s s' : Fst} {hv kv v hv' kv' : Value} {ps : List (Ev × Value)} (h : StU E U s hv kv v ps W) (ho : E.Ok) (ht : Turn U U' W W') (hf : FdAt W' E.q U' s' hv' kv') : StU E U' s' hv' kv' v ps W' := by
  have hs := ht.keeps.size
  have hb := h.base.size
  have hz := h.size
  have nu : ∀ b, b < E.B → ¬ U b → ¬ U' b := fun b hb hu u => by
    rcases ht.only b u with u | u
    · exact hu u
    · omega
  refine ⟨hf, h.box.keep ht.keeps h.nu.1, Keeps.ownsRow h.row ht.keeps (fun g e => h.own g e), fun p hp => (h.keys p hp).turn ht, fun g e u => ?_, ⟨nu _ ho.bx.2 h.nu.1, nu _ ho.bb.2.1 h.nu.2.1, nu _ ho.bf.2.1 h.nu.2.2⟩, h.nil, ⟨ht.keeps.os.trans h.base.os, ht.keeps.tape.trans h.base.tape, ht.keeps.output.trans h.base.output, Nat.le_trans hb hs, fun i hi hn => ?_⟩, fun k u => ?_, ht.keeps.cell (p := ⟨E.bb, 0, none⟩) h.nu.2.1 h.cb, ht.keeps.cell (p := ⟨E.bf, 0, none⟩) h.nu.2.2 h.cf, Nat.le_trans hz hs⟩
  · rcases ht.only g u with u | u
    · exact h.own g e u
    · have := (h.row.lt g e).2; omega
  · refine (ht.keeps.block i (by omega) (fun u => ?_)).trans (h.base.block i hi hn)
    rcases h.grow i u with u | u
    · exact hn u
    · omega
  · rcases ht.only k u with u | u
    · exact h.grow k u
    · exact .inr (by omega)
/-- What is no cells turns. -/
theorem StU.firm {E : Env} {W W' : World} {U : Nat → Prop} {B : Nat} {s : Fst} {hv kv v : Value} {ps : List (Ev × Value)} {row : Option Nat} (h : StU E U s hv kv v ps W) (hB : E.w0.heap.size ≤ B) (hg : W.grownBy W' row) (hr : ∀ r, row = some r → B ≤ r ∧ ∃ o : Obj, W.heap[r]? = some o ∧ o.isCells = false) : StU E U s hv kv v ps W' ∧ ∀ kv2 l, KyS W U kv2 l → KyS W' U kv2 l := by
  have hk : Keeps (fun k => row = some k) W W' := ((Keeps.refl (fun k => row = some k) W)).grown hg (fun k e => .inl e)
  have hc : ∀ (k : Nat) (a : Addr) (u : Value), a.block = k → W.cell? a = some u → ¬ row = some k := fun k a u e hu hrow => by
    obtain ⟨o, ho, hcc⟩ := cells_of_cell hu
    obtain ⟨_, o', ho', hcc'⟩ := hr k hrow
    rw [e, ho'] at ho
    injection ho with ho
    rw [ho, hcc] at hcc'
    simp at hcc'
  have hrw : ∀ {E sz n : Nat} {B0 : Nat} {u : Value} {xs : List Value}, W.ownsRow B0 E sz u n xs → W'.ownsRow B0 E sz u n xs := fun hu => Keeps.ownsRow hu hk (fun g e hrow => by
    obtain ⟨_, ⟨h0, _⟩ | ⟨g', cap, cur, h0, _, hb, _⟩⟩ := hu
    · rw [h0] at e; simp [Value.ownBlock] at e
    · rw [h0] at e
      have e' : g' = g := by simpa [Value.ownBlock] using e
      subst e'
      obtain ⟨_, o', ho', hcc'⟩ := hr g' hrow
      rw [hb] at ho'
      injection ho' with ho'
      subst ho'
      simp [Obj.isCells] at hcc')
  have hky : ∀ (kv : Value) (l : List (List UInt8)), KyS W U kv l → KyS W' U kv l := fun kv l hu => by
    rcases hu with hu | ⟨g, c, e, h1, h2, h3, h4, h5⟩
    · exact .inl hu
    · refine .inr ⟨g, c, e, h1, h2, h3, Nat.lt_of_lt_of_le h4 hk.size, fun j x hj => ?_⟩
      have := h5 j x hj
      exact hk.cell (p := ⟨g, 0 + j, none⟩) (hc g _ _ rfl this) this
  have hcb : ∀ {b : Nat} {C : List Value} {u : Value}, C[0]? = some u → Cb W b C → Cb W' b C := fun e hu => hu.keep hk (hc _ _ _ rfl (hu.at_ 0 _ e))
  refine ⟨⟨⟨hcb rfl h.fd.cells, hrw h.fd.row, h.fd.own, h.fd.me, hky _ _ h.fd.keys, fun k u => Nat.lt_of_lt_of_le (h.fd.lt k u) hk.size⟩, hcb rfl h.box, hrw h.row, fun p hp => hky _ _ (h.keys p hp), h.own, h.nu, h.nil, h.base.trans hk (fun i hi e => ?_), h.grow, hk.cell (p := ⟨E.bb, 0, none⟩) (hc _ _ _ rfl h.cb) h.cb, hk.cell (p := ⟨E.bf, 0, none⟩) (hc _ _ _ rfl h.cf) h.cf, Nat.le_trans h.size hk.size⟩, hky⟩
  have := (hr i e).1
  omega
/-- An event more. -/
theorem StU.push {E : Env} {W W1 : World} {U : Nat → Prop} {s : Fst} {hv kv v kv2 : Value} {ev : Ev} {ps : List (Ev × Value)} {o : Obj} {a' : Option Addr} {n' c' : Nat} (h : StU E U s hv kv v ps W) (ho : E.Ok) (hk2 : KyS W U kv2 ev.cmd.keys)
    (hown : W1.ownsRow E.B 67 13 (.slice a' n' c') (ps.length + 1) (rowsE ps ++ evC ev kv2)) (hg : (W.alloc o).grownBy W1 v.ownBlock) (hat : (Value.slice a' n' c').ownBlock = v.ownBlock ∨ (Value.slice a' n' c').ownBlock = some (W.heap.size + 1)) :
    StU E U s hv kv (.slice a' n' c') (ps ++ [(ev, kv2)]) (W1.setCell ⟨E.bx, 0, none⟩ (.slice a' n' c')) ∧ KeepsOthers W (W1.setCell ⟨E.bx, 0, none⟩ (.slice a' n' c')) ∧ W1.cell? ⟨E.bx, 0, none⟩ = some v ∧ W1.frozen? ⟨E.bx, 0, none⟩ = false := by
  have hz := h.size
  have hkv : Keeps (fun k => v.ownBlock = some k) W W1 := ((Keeps.refl (fun k => v.ownBlock = some k) W).alloc o).grown hg (fun k hk => .inl hk)
  have hB : ∀ g, v.ownBlock = some g → E.B ≤ g := fun g e => (h.row.lt g e).1
  have hnb : ∀ b, b < E.B → ¬ v.ownBlock = some b := fun b hb e => by have := hB b e; omega
  have hbx := h.box.keep hkv (hnb _ ho.bx.2)
  have ks : Keeps (fun j => j = E.bx) W1 (W1.setCell ⟨E.bx, 0, none⟩ (.slice a' n' c')) := Keeps.setCell (S := fun j => j = E.bx) (Keeps.refl _ W1) (p := ⟨E.bx, 0, none⟩) (.inl rfl) _
  have hk : Keeps (fun g => g = E.bx ∨ v.ownBlock = some g) W (W1.setCell ⟨E.bx, 0, none⟩ (.slice a' n' c')) :=
    (hkv.mono (fun k _ e => Or.inr e)).trans (T := fun j => j = E.bx) ks (fun k _ e => Or.inl e)
  have hh := h.head
  have hlt := fun g e => (Keeps.ownsRow (v := .slice a' n' c') hown (Keeps.refl (fun _ => False) W1) (fun _ _ f => f)).lt g e
  have hns : W.heap.size + 1 ≤ W1.heap.size := by have := hg.size; simpa using this
  refine ⟨⟨h.fd.other hk hh, hbx.set 0 _ (by show 0 < 1; decide) rfl, ?_, fun p hp => ?_, fun g e u => ?_, h.nu, fun e => by simp at e, h.base.trans hk (fun i hi e => ?_), h.grow, hk.cell (p := ⟨E.bb, 0, none⟩) (fun e => ?_) h.cb, hk.cell (p := ⟨E.bf, 0, none⟩) (fun e => ?_) h.cf, Nat.le_trans hz hk.size⟩, ?_, hbx.at_ 0 _ rfl, hbx.fz 0 (by show 0 < 1; decide)⟩
  · rw [rowsE_snoc, List.length_append]
    refine Keeps.ownsRow hown ks (fun g e n => ?_)
    have := (hlt g e).1
    have := ho.bx.2
    omega
  · rcases List.mem_append.1 hp with hp | hp
    · exact (h.keys p hp).other hk (fun g t => (hh g t).2)
    · simp at hp; subst hp
      exact hk2.other hk (fun g t => (hh g t).2)
  · rcases hat with hat | hat
    · exact h.own g (by rw [← hat]; exact e) u
    · rw [hat] at e; injection e with e; have := h.fd.lt g u; omega
  · have h1 := ho.bx.1
    have h2 := ho.B
    rcases e with e | e
    · omega
    · have := hB i e; omega
  · rcases e with e | e
    · exact ho.bb.2.2 e
    · exact hnb _ ho.bb.2.1 e
  · rcases e with e | e
    · exact ho.bf.2.2 e
    · exact hnb _ ho.bf.2.1 e
  · refine ((KeepsOthers.alloc W o).trans (KeepsOthers.of_grownBy hg (fun j oo e hj => ?_))).trans (KeepsOthers.setCell _ _ _)
    obtain ⟨_, ⟨h0, _⟩ | ⟨g', cap, cur, h0, _, hb, _⟩⟩ := id h.row
    · rw [h0] at e; simp [Value.ownBlock] at e
    · rw [h0] at e
      have e' : g' = j := by simpa [Value.ownBlock] using e
      subst e'
      have hl : g' < W.heap.size := (Array.getElem?_eq_some_iff.1 hb).1
      rw [Below.heap_alloc W o g' hl, hb] at hj
      injection hj with hj
      subst hj
      rfl
/-- Between two bytes: what came so far has told es. -/
def StA (E : Env) (s : Fst) (es : List Ev) (W : World) : Prop := ∃ U hv kv v ps, StU E U s hv kv v ps W ∧ ps.map Prod.fst = es ∧ ∀ k, E.N k → ¬ U k
/-- What is handed to a round. -/
structure Yd where
  s : Fst
  es : List Ev
  ev : Ev
  kv : Value
def Yd.args (y : Yd) : Array Value := #[.agg (evC y.ev y.kv).toArray]
def StY (E : Env) (y : Yd) (W : World) : Prop := ∃ U hv kv v ps, StU E U y.s hv kv v ps W ∧ ps.map Prod.fst = y.es ∧ KyS W U y.kv y.ev.cmd.keys ∧ (∀ k, E.N k → ¬ U k) ∧ y.es.length ≤ 1048576
def StZ (E : Env) (y : Yd) (W : World) : Prop := StA E y.s (y.es ++ [y.ev]) W
theorem stA_firm {E : Env} {B : Nat} (hB : E.w0.heap.size ≤ B) (s : Fst) (es : List Ev) : Firm B (StA E s es) := by
  rintro W W' row ⟨U, hv, kv, v, ps, h, e, hn⟩ hg hr
  exact ⟨U, hv, kv, v, ps, (h.firm hB hg hr).1, e, hn⟩
theorem stY_firm {E : Env} {B : Nat} (hB : E.w0.heap.size ≤ B) (y : Yd) : Firm B (StY E y) := by
  rintro W W' row ⟨U, hv, kv, v, ps, h, e, hk, hn⟩ hg hr
  exact ⟨U, hv, kv, v, ps, (h.firm hB hg hr).1, e, (h.firm hB hg hr).2 _ _ hk, hn⟩
end Go.Proofs.YtifbcejekdhnlaaDoor
