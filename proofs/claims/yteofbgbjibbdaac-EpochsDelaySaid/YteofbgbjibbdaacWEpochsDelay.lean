/- The law EpochsDelay. -/
import Derived.Test.YteofbgbjibbdaacEpDelay0
import Derived.Test.YteofbgbjibbdaacEpDelay1
import Derived.Test.YteofbgbjibbdaacEpDelay2
namespace Go.Proofs.Yteofbgbjibbdaac
open Go.RowKit
set_option linter.unusedVariables false
theorem fl_in (n a d : Int) (n1 : 0 ≤ n) (n2 : n < 1048576) (a1 : 0 ≤ a) (a2 : a ≤ 16777215) (d1 : 1 ≤ d) (d2 : d ≤ 200) : flushf (putf n a 3) d = putf n (n + d) 3 := by
  obtain ⟨p1, p2, p3⟩ := put_parts n a 3 n1 (by omega) a1 a2 (by decide) (by decide)
  unfold flushf
  rw [p1, p3, if_pos (by decide), if_neg (by omega), if_pos (by omega)]
theorem fl_now (n a : Int) (n1 : 0 ≤ n) (n2 : n < 1048576) (a1 : 0 ≤ a) (a2 : a ≤ 16777215) : flushf (putf n a 3) 0 = putf n 0 4 := by
  obtain ⟨p1, p2, p3⟩ := put_parts n a 3 n1 (by omega) a1 a2 (by decide) (by decide)
  unfold flushf
  rw [p1, p3, if_pos (by decide), if_pos (by decide)]
  rfl
theorem fl_ok (n a : Int) : flushes (putf n a 3) = true := by
  unfold flushes; rw [gen_put]; decide
theorem al_is (n a g h : Int) (g1 : 0 ≤ g) (g2 : g ≤ 65535) (b : Bool) (hb : (g == h) = b) : alivef h (-1) (putf n a g) = b := by
  unfold alivef; rw [gen_put, show g % 65536 = g by omega, hb]; simp
theorem di_is (x : Int) : diesf x 0 = -1 := by unfold diesf; rw [if_pos rfl]
theorem walk_EpochsDelay (z z0 z1 z2 o : Int) (w : World) (w0 : (Lit.int .u32 z).wf = true) (w1_0 : (Lit.int .u16 z0).wf = true) (w1_1 : (Lit.int .u16 z1).wf = true) (w1_2 : (Lit.int .u16 z2).wf = true) (w2 : (Lit.int .u8 o).wf = true) :
    Calls Try.prog 4 #[.int .u32 z, .agg #[.int .u16 z0, .int .u16 z1, .int .u16 z2], .int .u8 o] w fun e w' => e = .returned (.bool true) ∧ Below w.heap.size w w' := by
  obtain ⟨l0, u0⟩ := bounds_u32 w0
  obtain ⟨l1, u1⟩ := bounds_u16 w1_0
  obtain ⟨l2, u2⟩ := bounds_u16 w1_1
  obtain ⟨l3, u3⟩ := bounds_u16 w1_2
  obtain ⟨l4, u4⟩ := bounds_u8 w2
  clear w0 w1_0 w1_1 w1_2 w2
  obtain ⟨n, hn⟩ : ∃ n, z % 1048576 = n := ⟨_, rfl⟩
  obtain ⟨d, hd⟩ : ∃ d, 1 + z0 % 200 = d := ⟨_, rfl⟩
  obtain ⟨e, he⟩ : ∃ e, 1 + z2 % 200 = e := ⟨_, rfl⟩
  obtain ⟨p, hp⟩ : ∃ p : Nat, z1 % 300 = (p : Int) := ⟨(z1 % 300).toNat, by omega⟩
  have n1 : 0 ≤ n := by omega
  have n2 : n < 1048576 := by omega
  have d1 : 1 ≤ d := by omega
  have d2 : d ≤ 200 := by omega
  have e1 : 1 ≤ e := by omega
  have e2 : e ≤ 200 := by omega
  have p2 : p < 300 := by omega
  have F := fl_in n 0 d n1 n2 (by decide) (by decide) d1 d2
  have F' := fl_ok n 0
  obtain ⟨x1, x2, x3⟩ := put_parts n (n + d) 3 n1 (by omega) (by omega) (by omega) (by decide) (by decide)
  have al := al_is n (n + d) 3 3 (by decide) (by decide) true rfl
  have hm : o % 3 = 0 ∨ o % 3 = 1 ∨ o % 3 = 2 := by omega
  rcases hm with ho | ho | ho
  ·
    by_cases c : (p : Int) < d
    · have L := ticks_wait n (n + d) 3 n1 (by omega) (by decide) (by decide) p (by omega)
      have L2 := ticks_past (n + p) (n + d) 3 (by omega) (by omega) (by decide) (by decide) 300 (by omega) (by omega)
      obtain ⟨y1, y2, y3⟩ := put_parts (n + p) (n + d) 3 (by omega) (by omega) (by omega) (by omega) (by decide) (by decide)
      exact delay_0a (l0 := l0) (u0 := u0) (l1 := l1) (u1 := u1) (l2 := l2) (u2 := u2) (l3 := l3) (u3 := u3) (l4 := l4) (u4 := u4) (hn := hn) (hd := hd) (hp := hp) (ho := ho) (n1 := n1) (n2 := n2) (d1 := d1) (d2 := d2) (p2 := p2) (F := F) (F' := F') (R1 := (putf_range _ _ _).1) (R2 := (putf_range _ _ _).2) (dv := di_is _) (gv := x3) (al := al) (av := x2) (hq := rfl) (hr := rfl) (R3 := (putf_range _ _ _).1) (R4 := (putf_range _ _ _).2) (nl := y1) (gl := y3) (dl := di_is _) (R5 := (putf_range _ _ _).1) (R6 := (putf_range _ _ _).2) (w := w) (hD := rfl) (L := L) (L2 := L2) (c := by omega) (c2 := by omega) (q1 := by omega) (q2 := by omega) (D1 := by omega) (D2 := by omega) (al2 := al_is _ _ _ _ (by decide) (by decide) true rfl) (af := al_is _ _ _ _ (by decide) (by decide) false rfl)
    · have L := ticks_past n (n + d) 3 n1 (by omega) (by decide) (by decide) p (by omega) (by omega)
      have L2 := ticks_free (n + p) (3 + 1) (by omega) (by decide) (by decide) 300 (by omega)
      obtain ⟨y1, y2, y3⟩ := put_parts (n + p) 0 (3 + 1) (by omega) (by omega) (by decide) (by decide) (by decide) (by decide)
      exact delay_0b (l0 := l0) (u0 := u0) (l1 := l1) (u1 := u1) (l2 := l2) (u2 := u2) (l3 := l3) (u3 := u3) (l4 := l4) (u4 := u4) (hn := hn) (hd := hd) (hp := hp) (ho := ho) (n1 := n1) (n2 := n2) (d1 := d1) (d2 := d2) (p2 := p2) (F := F) (F' := F') (R1 := (putf_range _ _ _).1) (R2 := (putf_range _ _ _).2) (dv := di_is _) (gv := x3) (al := al) (av := x2) (hq := rfl) (hr := rfl) (R3 := (putf_range _ _ _).1) (R4 := (putf_range _ _ _).2) (nl := y1) (gl := y3) (dl := di_is _) (R5 := (putf_range _ _ _).1) (R6 := (putf_range _ _ _).2) (w := w) (hD := rfl) (L := L) (L2 := L2) (c := by omega) (T1 := by rw [decide_eq_false_iff_not]; omega) (T2 := by rw [decide_eq_true_iff]; omega) (q1 := by omega) (q2 := by omega) (D1 := by omega) (D2 := by omega) (al2 := al_is _ _ _ _ (by decide) (by decide) false rfl) (af := al_is _ _ _ _ (by decide) (by decide) true rfl)
  · have E := fl_in n (n + d) e n1 n2 (by omega) (by omega) e1 e2
    have E2 := fl_ok n (n + d)
    by_cases c : (p : Int) < e
    · have L := ticks_wait n (n + e) 3 n1 (by omega) (by decide) (by decide) p (by omega)
      have L2 := ticks_past (n + p) (n + e) 3 (by omega) (by omega) (by decide) (by decide) 300 (by omega) (by omega)
      obtain ⟨y1, y2, y3⟩ := put_parts (n + p) (n + e) 3 (by omega) (by omega) (by omega) (by omega) (by decide) (by decide)
      exact delay_1a (l0 := l0) (u0 := u0) (l1 := l1) (u1 := u1) (l2 := l2) (u2 := u2) (l3 := l3) (u3 := u3) (l4 := l4) (u4 := u4) (hn := hn) (hd := hd) (hp := hp) (ho := ho) (n1 := n1) (n2 := n2) (d1 := d1) (d2 := d2) (p2 := p2) (F := F) (F' := F') (R1 := (putf_range _ _ _).1) (R2 := (putf_range _ _ _).2) (dv := di_is _) (gv := x3) (al := al) (av := x2) (hq := rfl) (hr := rfl) (R3 := (putf_range _ _ _).1) (R4 := (putf_range _ _ _).2) (nl := y1) (gl := y3) (dl := di_is _) (R5 := (putf_range _ _ _).1) (R6 := (putf_range _ _ _).2) (w := w) (hD1 := rfl) (he := he) (e1 := e1) (e2 := e2) (E := E) (E2 := E2) (R7 := (putf_range _ _ _).1) (R8 := (putf_range _ _ _).2) (hD := rfl) (L := L) (L2 := L2) (c := by omega) (c2 := by omega) (q1 := by omega) (q2 := by omega) (D1 := by omega) (D2 := by omega) (al2 := al_is _ _ _ _ (by decide) (by decide) true rfl) (af := al_is _ _ _ _ (by decide) (by decide) false rfl)
    · have L := ticks_past n (n + e) 3 n1 (by omega) (by decide) (by decide) p (by omega) (by omega)
      have L2 := ticks_free (n + p) (3 + 1) (by omega) (by decide) (by decide) 300 (by omega)
      obtain ⟨y1, y2, y3⟩ := put_parts (n + p) 0 (3 + 1) (by omega) (by omega) (by decide) (by decide) (by decide) (by decide)
      exact delay_1b (l0 := l0) (u0 := u0) (l1 := l1) (u1 := u1) (l2 := l2) (u2 := u2) (l3 := l3) (u3 := u3) (l4 := l4) (u4 := u4) (hn := hn) (hd := hd) (hp := hp) (ho := ho) (n1 := n1) (n2 := n2) (d1 := d1) (d2 := d2) (p2 := p2) (F := F) (F' := F') (R1 := (putf_range _ _ _).1) (R2 := (putf_range _ _ _).2) (dv := di_is _) (gv := x3) (al := al) (av := x2) (hq := rfl) (hr := rfl) (R3 := (putf_range _ _ _).1) (R4 := (putf_range _ _ _).2) (nl := y1) (gl := y3) (dl := di_is _) (R5 := (putf_range _ _ _).1) (R6 := (putf_range _ _ _).2) (w := w) (hD1 := rfl) (he := he) (e1 := e1) (e2 := e2) (E := E) (E2 := E2) (R7 := (putf_range _ _ _).1) (R8 := (putf_range _ _ _).2) (hD := rfl) (L := L) (L2 := L2) (c := by omega) (T1 := by rw [decide_eq_false_iff_not]; omega) (T2 := by rw [decide_eq_true_iff]; omega) (q1 := by omega) (q2 := by omega) (D1 := by omega) (D2 := by omega) (al2 := al_is _ _ _ _ (by decide) (by decide) false rfl) (af := al_is _ _ _ _ (by decide) (by decide) true rfl)
  · have E := fl_now n (n + d) n1 n2 (by omega) (by omega)
    have E2 := fl_ok n (n + d)
    have L := ticks_free n 4 n1 (by decide) (by decide) p (by omega)
    have L2 := ticks_free (n + p) 4 (by omega) (by decide) (by decide) 300 (by omega)
    obtain ⟨y1, y2, y3⟩ := put_parts (n + p) 0 4 (by omega) (by omega) (by decide) (by decide) (by decide) (by decide)
    obtain ⟨s1, s2, s3⟩ := put_parts n 0 4 (by omega) (by omega) (by decide) (by decide) (by decide) (by decide)
    exact delay_2 (l0 := l0) (u0 := u0) (l1 := l1) (u1 := u1) (l2 := l2) (u2 := u2) (l3 := l3) (u3 := u3) (l4 := l4) (u4 := u4) (hn := hn) (hd := hd) (hp := hp) (ho := ho) (n1 := n1) (n2 := n2) (d1 := d1) (d2 := d2) (p2 := p2) (F := F) (F' := F') (R1 := (putf_range _ _ _).1) (R2 := (putf_range _ _ _).2) (dv := di_is _) (gv := x3) (al := al) (av := x2) (hq := rfl) (hr := rfl) (R3 := (putf_range _ _ _).1) (R4 := (putf_range _ _ _).2) (nl := y1) (gl := y3) (dl := di_is _) (R5 := (putf_range _ _ _).1) (R6 := (putf_range _ _ _).2) (w := w) (hD1 := rfl) (E := E) (E2 := E2) (R7 := (putf_range _ _ _).1) (R8 := (putf_range _ _ _).2) (al3 := al_is _ _ _ _ (by decide) (by decide) false rfl) (av2 := s2) (dv2 := di_is _) (gv2 := s3) (hD := rfl) (L := L) (L2 := L2) (c := by omega) (c2 := by omega) (T1 := by rw [decide_eq_false_iff_not]; omega) (T2 := by rw [decide_eq_true_iff]; omega) (T3 := by rw [decide_eq_true_iff]; omega) (q1 := by omega) (q2 := by omega) (D1 := by omega) (D2 := by omega) (al2 := al_is _ _ _ _ (by decide) (by decide) true rfl) (af := al_is _ _ _ _ (by decide) (by decide) true rfl)
end Go.Proofs.Yteofbgbjibbdaac
