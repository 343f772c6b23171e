/- Feeds: the chapter's examples. -/
import Derived.Test.YteoeelhljimibaaFv
import Derived.Lib.SlBytesConst
namespace Go.Proofs.Yteoeelhljimibaa
open Go.RowKit Go.Maps
set_option linter.unusedVariables false

def exA : List UInt8 := [103, 101, 116, 32, 97, 10, 115, 101, 116, 32, 98, 32, 48, 32, 48, 32, 50, 13, 10]
def exB : List UInt8 := [120]
def exC : List UInt8 := [10, 13, 10]
def exD : List UInt8 := [115, 101, 116, 32, 99, 32, 48, 32, 48, 32, 49, 13, 10, 120, 121, 122, 10]
def exE : List UInt8 := [110, 111, 110, 115, 101, 110, 115, 101, 10]
def cmdA : Cmd := ⟨1, [[97]], 1, [97], [], 0, 0, 0, 0, -1, false⟩
def cmdB : Cmd := ⟨3, [[98]], 3, [98], [], 0, 0, 0, 0, 2, false⟩
theorem exA_ev : feedF Fst.new exA = (⟨1, [], false, cmdB, 0⟩, [⟨cmdA, [], 0⟩]) := by kernel_rfl
theorem exB_ev : feedF ⟨1, [], false, cmdB, 0⟩ exB = (⟨1, [120], false, cmdB, 0⟩, []) := by kernel_rfl
theorem exC_ev : feedF ⟨1, [120], false, cmdB, 0⟩ exC = (Fst.at 0, [⟨cmdB, [120, 10], 0⟩]) := by kernel_rfl
theorem exD_ev : feedF (Fst.at 0) exD = (Fst.at 0, [Ev.fault 6]) := by kernel_rfl
theorem exE_ev : feedF (Fst.at 0) exE = (Fst.at 0, [Ev.fault 1]) := by kernel_rfl
theorem FOk.new : FOk Fst.new := FOk.at 0 (by omega) (by omega) (by omega)
/-- A list of events, some way on: in no block of the feed's. -/
def EvS (W : World) (U : Nat → Prop) (v : Value) (l : List Ev) : Prop :=
  ∃ ps : List (Ev × Value), ps.map Prod.fst = l ∧ ((v = .slice none 0 0 ∧ l = []) ∨ ∃ g, v = .slice (some ⟨g, 0, none⟩) l.length l.length ∧ ¬ U g ∧ g < W.heap.size ∧ ∀ j x, (rowsE ps)[j]? = some x → W.cell? ⟨g, j, none⟩ = some x)
theorem EvAt.far {W : World} {U : Nat → Prop} {B : Nat} {v : Value} {ps : List (Ev × Value)} (h : EvAt W U B v ps) : EvS W U v (ps.map Prod.fst) := by
  refine ⟨ps, rfl, ?_⟩
  obtain ⟨a, rfl⟩ := h.form
  obtain ⟨_, ⟨he, h0⟩ | ⟨g, c, he, hB, hg, hn, hc, hx⟩⟩ := h.lst
  · have : ps = [] := List.eq_nil_of_length_eq_zero h0
    subst this
    exact .inl ⟨he, rfl⟩
  · injection he with h1 h2 h3
    subst h1
    exact .inr ⟨g, by simp, h.free g 0 _ _ rfl, hg, fun j x hj => (hx j x hj).1⟩
theorem EvS.next {W W' : World} {U U' : Nat → Prop} {v : Value} {l : List Ev} (h : EvS W U v l) (hk : Keeps U W W') (hg : ∀ k, U' k → U k ∨ W.heap.size ≤ k) : EvS W' U' v l := by
  obtain ⟨ps, e, h | ⟨g, e', hU, hlt, hx⟩⟩ := h
  · exact ⟨ps, e, .inl h⟩
  · refine ⟨ps, e, .inr ⟨g, e', fun u => ?_, Nat.lt_of_lt_of_le hlt hk.size, fun j x hj => hk.cell (p := ⟨g, j, none⟩) hU (hx j x hj)⟩⟩
    rcases hg g u with u | u
    · exact hU u
    · omega
theorem EvS.one {W : World} {U : Nat → Prop} {v : Value} {e : Ev} (h : EvS W U v [e]) : ∃ g kv, v = .slice (some ⟨g, 0, none⟩) 1 1 ∧ ∀ j x, (evC e kv)[j]? = some x → W.cell? ⟨g, j, none⟩ = some x := by
  obtain ⟨ps, he, h | ⟨g, hv, hU, hlt, hx⟩⟩ := h
  · exact absurd h.2 (by simp)
  · match ps, he with
    | [p], he =>
      simp only [List.map_cons, List.map_nil, List.cons.injEq, and_true] at he
      subst he
      exact ⟨g, p.2, hv, fun j x hj => hx j x (by show (evC p.1 p.2 ++ [])[j]? = some x; rw [List.append_nil]; exact hj)⟩
theorem EvS.none {W : World} {U : Nat → Prop} {v : Value} (h : EvS W U v []) : v = .slice none 0 0 ∨ ∃ g, v = .slice (some ⟨g, 0, none⟩) 0 0 := by
  obtain ⟨ps, he, h | ⟨g, hv, _⟩⟩ := h
  · exact .inl h.1
  · exact .inr ⟨g, hv⟩
/-- Bytes that a call has just built. -/
theorem inlit (q : Nat) (U0 : Nat → Prop) (s0 s1 : Fst) (hv kv : Value) (L : List UInt8) (C : Array Value) (T : TypeId) (fr : Nat × Nat) (es : List Ev) (W : World) (n : Nat) (h : FdAt W q U0 s0 hv kv) (hs : FOk s0) (hC : C = (byv L).toArray) (hn : L.length = n) (hl : n ≤ 1048576) (hf : feedF s0 L = (s1, es)) :
    Calls Try.prog 26 #[.pointer (some ⟨q, 0, none⟩), .slice (some ⟨W.heap.size, 0, none⟩) n n] (W.alloc (.cells C T fr)) fun e W' => ∃ U hv kv v, e = .returned v ∧ FdAt W' q U s1 hv kv ∧ Keeps U0 W W' ∧ (∀ k, U k → U0 k ∨ W.heap.size ≤ k) ∧ EvS W' U v es := by
  subst hC hn
  have hb : Below W.heap.size W (W.alloc (.cells (byv L).toArray T fr)) := (Below.refl _ _).alloc (Nat.le_refl _) _
  refine Calls.mono (inw q U0 s0 hv kv (some ⟨W.heap.size, 0, none⟩) L.length L (W.alloc (.cells (byv L).toArray T fr)) (h.new hb) hs ⟨Nat.le_refl _, by unfold maxLen; omega⟩ hl ?_ ?_) ?_
  · refine fun _ => ⟨_, _, rfl, by simp, fun j hj => ?_⟩
    rw [Nat.zero_add, World.cell?_alloc_mark, List.getElem?_toArray]
    exact byv_at hj
  · intro g o e _ u
    injection e with e
    injection e with e1 _
    have := h.lt _ u
    omega
  · rintro e W' ⟨U, hv', kv', v, ps, rfl, hfd, hk, hg, hp, hev⟩
    rw [hf] at hfd hp
    refine ⟨U, hv', kv', v, rfl, hfd, (Keeps.of_new hb).trans hk (fun i _ u => u), fun k u => ?_, ?_⟩
    · rcases hg k u with u | u
      · exact .inl u
      · simp at u; exact .inr (by omega)
    · have := hev.far
      rwa [hp] at this
end Go.Proofs.Yteoeelhljimibaa
