/- Feeds: the chapter's examples. -/
import Derived.Test.YtifbcejekdhnlaaDoorFv
import Derived.Lib.SlBytesConst
namespace Go.Proofs.YtifbcejekdhnlaaDoor
open Go.RowKit Go.Maps
set_option linter.unusedVariables false

def exA : List UInt8 := [103, 101, 116, 32, 97, 10, 115, 101, 116, 32, 98, 32, 48, 32, 48, 32, 50, 13, 10]
def exB : List UInt8 := [120]
def exC : List UInt8 := [10, 13, 10]
def exD : List UInt8 := [115, 101, 116, 32, 99, 32, 48, 32, 48, 32, 49, 13, 10, 120, 121, 122, 10]
def exE : List UInt8 := [110, 111, 110, 115, 101, 110, 115, 101, 10]
def cmdA : Cmd := ⟨1, [[97]], 1, [97], [], 0, 0, 0, 0, -1, false⟩
def cmdB : Cmd := ⟨3, [[98]], 3, [98], [], 0, 0, 0, 0, 2, false⟩
theorem exA_ev : feedF Fst.new exA = (⟨1, [], false, cmdB, 0⟩, [⟨cmdA, [], 0⟩]) := by kernel_rfl
theorem exB_ev : feedF ⟨1, [], false, cmdB, 0⟩ exB = (⟨1, [120], false, cmdB, 0⟩, []) := by kernel_rfl
theorem exC_ev : feedF ⟨1, [120], false, cmdB, 0⟩ exC = (Fst.at 0, [⟨cmdB, [120, 10], 0⟩]) := by kernel_rfl
theorem exD_ev : feedF (Fst.at 0) exD = (Fst.at 0, [Ev.fault 6]) := by kernel_rfl
theorem exE_ev : feedF (Fst.at 0) exE = (Fst.at 0, [Ev.fault 1]) := by kernel_rfl
theorem FOk.new : FOk Fst.new := FOk.at 0 (by omega) (by omega) (by omega)
/-- A list of events, some way on: in no block of the feed's. -/
def EvS (W : World) (U : Nat → Prop) (v : Value) (l : List Ev) : Prop :=
  ∃ ps : List (Ev × Value), ps.map Prod.fst = l ∧ ((v = .slice none 0 0 ∧ l = []) ∨ ∃ g, v = .slice (some ⟨g, 0, none⟩) l.length l.length ∧ ¬ U g ∧ g < W.heap.size ∧ ∀ j x, (rowsE ps)[j]? = some x → W.cell? ⟨g, j, none⟩ = some x)
theorem EvAt.far {W : World} {U : Nat → Prop} {B : Nat} {v : Value} {ps : List (Ev × Value)} (h : EvAt W U B v ps) : EvS W U v (ps.map Prod.fst) := by
  refine ⟨ps, rfl, ?_⟩
  obtain ⟨a, rfl⟩ := h.form
  obtain ⟨_, ⟨he, h0⟩ | ⟨g, c, he, hB, hg, hn, hc, hx⟩⟩ := h.lst
  · have : ps = [] := List.eq_nil_of_length_eq_zero h0
    subst this
    exact .inl ⟨he, rfl⟩
  · injection he with h1 h2 h3
    subst h1
    exact .inr ⟨g, by simp, h.free g 0 _ _ rfl, hg, fun j x hj => (hx j x hj).1⟩
theorem EvS.next {W W' : World} {U U' : Nat → Prop} {v : Value} {l : List Ev} (h : EvS W U v l) (hk : Keeps U W W') (hg : ∀ k, U' k → U k ∨ W.heap.size ≤ k) : EvS W' U' v l := by
  obtain ⟨ps, e, h | ⟨g, e', hU, hlt, hx⟩⟩ := h
  · exact ⟨ps, e, .inl h⟩
  · refine ⟨ps, e, .inr ⟨g, e', fun u => ?_, Nat.lt_of_lt_of_le hlt hk.size, fun j x hj => hk.cell (p := ⟨g, j, none⟩) hU (hx j x hj)⟩⟩
    rcases hg g u with u | u
    · exact hU u
    · omega
theorem EvS.one {W : World} {U : Nat → Prop} {v : Value} {e : Ev} (h : EvS W U v [e]) : ∃ g kv, v = .slice (some ⟨g, 0, none⟩) 1 1 ∧ ∀ j x, (evC e kv)[j]? = some x → W.cell? ⟨g, j, none⟩ = some x := by
  obtain ⟨ps, he, h | ⟨g, hv, hU, hlt, hx⟩⟩ := h
  · exact absurd h.2 (by simp)
  · match ps, he with
    | [p], he =>
      simp only [List.map_cons, List.map_nil, List.cons.injEq, and_true] at he
      subst he
      exact ⟨g, p.2, hv, fun j x hj => hx j x (by show (evC p.1 p.2 ++ [])[j]? = some x; rw [List.append_nil]; exact hj)⟩
theorem EvS.none {W : World} {U : Nat → Prop} {v : Value} (h : EvS W U v []) : v = .slice none 0 0 ∨ ∃ g, v = .slice (some ⟨g, 0, none⟩) 0 0 := by
  obtain ⟨ps, he, h | ⟨g, hv, _⟩⟩ := h
  · exact .inl h.1
  · exact .inr ⟨g, hv⟩
/-- Bytes that a call has just built. -/
theorem inlit (q : Nat) (U0 : Nat → Prop) (s0 s1 : Fst) (hv kv : Value) (L : List UInt8) (C : Array Value) (T : TypeId) (fr : Nat × Nat) (es : List Ev) (W : World) (n : Nat) (h : FdAt W q U0 s0 hv kv) (hs : FOk s0) (hC : C = (byv L).toArray) (hn : L.length = n) (hl : n ≤ 1048576) (hf : feedF s0 L = (s1, es)) :
    Calls Tryd.prog 27 #[.pointer (some ⟨q, 0, none⟩), .slice (some ⟨W.heap.size, 0, none⟩) n n] (W.alloc (.cells C T fr)) fun e W' => ∃ U hv kv v, e = .returned v ∧ FdAt W' q U s1 hv kv ∧ Keeps U0 W W' ∧ (∀ k, U k → U0 k ∨ W.heap.size ≤ k) ∧ EvS W' U v es := by
  subst hC hn
  have hb : Below W.heap.size W (W.alloc (.cells (byv L).toArray T fr)) := (Below.refl _ _).alloc (Nat.le_refl _) _
  refine Calls.mono (inw q U0 s0 hv kv (some ⟨W.heap.size, 0, none⟩) L.length L (W.alloc (.cells (byv L).toArray T fr)) (h.new hb) hs ⟨Nat.le_refl _, by unfold maxLen; omega⟩ hl ?_ ?_) ?_
  · refine fun _ => ⟨_, _, rfl, by simp, fun j hj => ?_⟩
    rw [Nat.zero_add, World.cell?_alloc_mark, List.getElem?_toArray]
    exact byv_at hj
  · intro g o e _ u
    injection e with e
    injection e with e1 _
    have := h.lt _ u
    omega
  · rintro e W' ⟨U, hv', kv', v, ps, rfl, hfd, hk, hg, hp, hev⟩
    rw [hf] at hfd hp
    refine ⟨U, hv', kv', v, rfl, hfd, (Keeps.of_new hb).trans hk (fun i _ u => u), fun k u => ?_, ?_⟩
    · rcases hg k u with u | u
      · exact .inl u
      · simp at u; exact .inr (by omega)
    · have := hev.far
      rwa [hp] at this
set_option maxHeartbeats 4000000 in
set_option maxRecDepth 100000 in
theorem lives30 (w : World) : Calls Tryd.prog 24 #[] w fun e w' => e = .returned (.bool true) ∧ Below w.heap.size w w' := by
  have kc := fun (w : World) (C : Array Value) (n c : Nat) => Lib.run_convert_bytes_const (P := Tryd.prog) w 46 5 C n c Tryd.underlying46 Tryd.underlying5
  go_enter Tryd.func24, Tryd.ntmps24
  go_wp2_with fail
  refine (newFd w).mono ?_
  rintro e W0 ⟨rfl, f0, hb0⟩
  obtain ⟨q, hq⟩ : ∃ q, w.heap.size = q := ⟨_, rfl⟩
  have HB := Lib.hid (And.intro hq hb0)
  clear hb0
  rw [hq] at f0 ⊢
  have F0 := Lib.hid f0
  clear f0 hq
  go_wp2_with fail
  refine (inlit q _ _ _ _ _ exA _ _ _ _ W0 19 F0.out FOk.new (by kernel_rfl) rfl (by omega) exA_ev).mono ?_
  rintro e W1 ⟨U1, hv1, kv1, va, rfl, f1, k1, g1, ea⟩
  have ok1 := FOk.new.feed exA
  rw [exA_ev] at ok1
  have F1 := Lib.hid (And.intro f1 (And.intro k1 (And.intro g1 ea)))
  have OK1 := Lib.hid ok1
  clear f1 k1 g1 ea ok1
  go_wp2_with fail
  refine (inlit q _ _ _ _ _ exB _ _ _ _ W1 1 F1.out.1 OK1.out (by kernel_rfl) rfl (by omega) exB_ev).mono ?_
  rintro e W2 ⟨U2, hv2, kv2, vb, rfl, f2, k2, g2, eb⟩
  have ok2 := OK1.out.feed exB
  rw [exB_ev] at ok2
  have ea2 := F1.out.2.2.2.next k2 g2
  have F2 := Lib.hid (And.intro f2 (And.intro k2 (And.intro g2 (And.intro ea2 eb))))
  have OK2 := Lib.hid ok2
  clear f2 k2 g2 ea2 eb ok2
  go_wp2_with fail
  refine (leftw q _ _ _ W2 F2.out.1.cells F2.out.1.row (by simp)).mono ?_
  rintro e w3 ⟨rfl, rfl⟩
  go_wp2_with fail
  refine (inlit q _ _ _ _ _ exC _ _ _ _ W2 3 F2.out.1 OK2.out (by kernel_rfl) rfl (by omega) exC_ev).mono ?_
  rintro e W3 ⟨U3, hv3, kv3, vc, rfl, f3, k3, g3, ec⟩
  have ea3 := F2.out.2.2.2.1.next k3 g3
  have eb3 := F2.out.2.2.2.2.next k3 g3
  have F3 := Lib.hid (And.intro f3 (And.intro k3 (And.intro g3 (And.intro ea3 (And.intro eb3 ec)))))
  clear f3 k3 g3 ea3 eb3 ec
  go_wp2_with fail
  refine (inlit q _ _ _ _ _ exD _ _ _ _ W3 17 F3.out.1 FOk.new (by kernel_rfl) rfl (by omega) exD_ev).mono ?_
  rintro e W4 ⟨U4, hv4, kv4, vd, rfl, f4, k4, g4, ed⟩
  have ea4 := F3.out.2.2.2.1.next k4 g4
  have eb4 := F3.out.2.2.2.2.1.next k4 g4
  have ec4 := F3.out.2.2.2.2.2.next k4 g4
  have F4 := Lib.hid (And.intro f4 (And.intro k4 (And.intro g4 (And.intro ea4 (And.intro eb4 (And.intro ec4 ed))))))
  clear f4 k4 g4 ea4 eb4 ec4 ed
  go_wp2_with fail
  refine (inlit q _ _ _ _ _ exE _ _ _ _ W4 9 F4.out.1 FOk.new (by kernel_rfl) rfl (by omega) exE_ev).mono ?_
  rintro e W5 ⟨U5, hv5, kv5, ve, rfl, f5, k5, g5, ee⟩
  have hb : Below w.heap.size w W5 := by
    obtain ⟨hq, hb0⟩ := HB.out
    refine hb0.trans (Keeps.to_below (S := fun k => q ≤ k) ?_ (fun k _ h => by omega) hb0.size)
    have s1 : Keeps (fun k => q ≤ k) W0 W1 := F1.out.2.1.mono (fun k _ e => by omega)
    have m1 : ∀ k, U1 k → q ≤ k := fun k u => by rcases F1.out.2.2.1 k u with u | u <;> (have := hb0.size; omega)
    have s2 : Keeps (fun k => q ≤ k) W1 W2 := F2.out.2.1.mono (fun k _ e => m1 k e)
    have m2 : ∀ k, U2 k → q ≤ k := fun k u => by
      rcases F2.out.2.2.1 k u with u | u
      · exact m1 k u
      · have := hb0.size; have := s1.size; omega
    have s3 : Keeps (fun k => q ≤ k) W2 W3 := F3.out.2.1.mono (fun k _ e => m2 k e)
    have m3 : ∀ k, U3 k → q ≤ k := fun k u => by
      rcases F3.out.2.2.1 k u with u | u
      · exact m2 k u
      · have := hb0.size; have := s1.size; have := s2.size; omega
    have s4 : Keeps (fun k => q ≤ k) W3 W4 := F4.out.2.1.mono (fun k _ e => m3 k e)
    have m4 : ∀ k, U4 k → q ≤ k := fun k u => by
      rcases F4.out.2.2.1 k u with u | u
      · exact m3 k u
      · have := hb0.size; have := s1.size; have := s2.size; have := s3.size; omega
    have s5 : Keeps (fun k => q ≤ k) W4 W5 := k5.mono (fun k _ e => m4 k e)
    exact ((((s1.trans s2 fun _ _ h => h).trans s3 fun _ _ h => h).trans s4 fun _ _ h => h).trans s5 fun _ _ h => h)
  have HBB := Lib.hid hb
  obtain ⟨ga, ka, rfl, ca⟩ := (F4.out.2.2.2.1.next k5 g5).one
  have eb5 := (F4.out.2.2.2.2.1.next k5 g5).none
  obtain ⟨gc, kc', rfl, cc⟩ := (F4.out.2.2.2.2.2.1.next k5 g5).one
  obtain ⟨gd, kd, rfl, cd⟩ := (F4.out.2.2.2.2.2.2.next k5 g5).one
  obtain ⟨ge, ke, rfl, ce⟩ := ee.one
  have a0 := ca 0 _ rfl
  have c0 := cc 0 _ rfl
  have c3 := cc 3 _ rfl
  have c11 := cc 11 _ rfl
  have d12 := cd 12 _ rfl
  have e12 := ce 12 _ rfl
  clear ca cc cd ce ee f5 k5 g5 hb HB F0 F1 F2 F3 F4 OK1 OK2 kc
  rcases eb5 with rfl | ⟨gb, rfl⟩
  all_goals
    simp only [cmdA, cmdB, Ev.fault] at a0 c0 c3 c11 d12 e12
    go_wp2
    go_ret
    exact ⟨rfl, HBB.out⟩
end Go.Proofs.YtifbcejekdhnlaaDoor
