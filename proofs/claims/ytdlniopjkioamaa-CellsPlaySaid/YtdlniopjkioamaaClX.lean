/- Contracts of package cells: an access. -/
import Derived.Test.YtdlniopjkioamaaClP
namespace Go.Proofs.Ytdlniopjkioamaa
open Go.RowKit Go.Maps
set_option linter.unusedVariables false

/-- What an access leaves: from w1 on. -/
def AccPost (w : World) (p : Nat) (f : Int → Int) (cnt k a0 x y : Int) (n : Nat) (S : Nat → Prop) (w' : World) : Prop := ∃ S', Turn S S' w w' ∧ Cel w' p f cnt k a0 x y n S'
section
variable {w w1 : World} {p n : Nat} {f : Int → Int} {cnt k a0 x y a is kk : Int} {S T : Nat → Prop}
set_option maxRecDepth 100000 in
theorem access_same (K : Nat) (cap : Array Value) (h : Cel w p f cnt k a0 x y n S) (ha : isU a) (hc0 : 0 ≤ cnt) (hc1 : cnt < 1000000000000) (hi : is = f a)
    (hK : ∀ (args : Array Value) (w : World), (callFunc K args).run Try.prog w = .ok (.enter K args) w) (hcl : Calls Try.prog K (#[.int .u64 (f a)] ++ cap) w fun e w' => e = .returned (.int .u64 is) ∧ w1 = w') (h1 : Keeps T w w1) (hT : ∀ k, S k → ¬ T k) :
    Calls Try.prog 27 #[.pointer (some ⟨p, 0, none⟩), .int .u8 kk, .int .u64 a, .func (.func K) #[] cap] w fun e w' => e = .returned (.int .u64 (f a)) ∧ AccPost w1 p f (cnt + 1) kk a (f a) is n S w' := by
  have hw1 : Cel w1 p f cnt k a0 x y n S := IsCells.keep h h1 hT
  have HP := peek_any h a ha
  have HT := Lib.hid (IsCells.told hw1 (cnt + 1) kk a (f a) is)
  have c1 := hw1.c1
  have c2 := hw1.c2
  have c3 := hw1.c3
  have c4 := hw1.c4
  have c5 := hw1.c5
  have z1 := hw1.fz 1 (by decide)
  have z2 := hw1.fz 2 (by decide)
  have z3 := hw1.fz 3 (by decide)
  have z4 := hw1.fz 4 (by decide)
  have z5 := hw1.fz 5 (by decide)
  have y1 : IntKind.i64.wrap (cnt + 1) = cnt + 1 := IntWalk.i64_in _ (by omega)
  obtain rfl := hi
  have HC := Lib.hid hcl
  clear h h1 hT hw1 hcl
  generalize hz : f a = z at *
  have q1 : (z == z) = true := beq_self_eq_true z
  have q2 : (z != z) = false := by simp
  clear hz
  go_enter Try.func27, Try.ntmps27
  go_wp2_with (first
    | (go_at_call 10; refine HP.mono ?_; rintro e w' ⟨rfl, rfl⟩)
    | (with_reducible refine HC.out.mono ?_; rintro e w' ⟨rfl, rfl⟩))
  go_ret
  exact ⟨rfl, S, HT.out.2, HT.out.1⟩
set_option maxRecDepth 100000 in
theorem access_other (K : Nat) (cap : Array Value) (h : Cel w p f cnt k a0 x y n S) (ha : isU a) (hu : isU is) (hn : n < 1099511627776) (hc0 : 0 ≤ cnt) (hc1 : cnt < 1000000000000) (hi : is ≠ f a)
    (hK : ∀ (args : Array Value) (w : World), (callFunc K args).run Try.prog w = .ok (.enter K args) w) (hcl : Calls Try.prog K (#[.int .u64 (f a)] ++ cap) w fun e w' => e = .returned (.int .u64 is) ∧ w1 = w') (h1 : Keeps T w w1) (hT : ∀ k, S k → ¬ T k) :
    Calls Try.prog 27 #[.pointer (some ⟨p, 0, none⟩), .int .u8 kk, .int .u64 a, .func (.func K) #[] cap] w fun e w' => e = .returned (.int .u64 (f a)) ∧ AccPost w1 p (upd f a is) (cnt + 1) kk a (f a) is (n + 1) S w' := by
  have hw1 : Cel w1 p f cnt k a0 x y n S := IsCells.keep h h1 hT
  have HP := peek_any h a ha
  have HU := Lib.hid (put_any hw1 ha hu hn)
  have y1 : IntKind.i64.wrap (cnt + 1) = cnt + 1 := IntWalk.i64_in _ (by omega)
  have q1 : (is == f a) = false := beq_eq_false_iff_ne.2 hi
  have q2 : (is != f a) = true := bne_iff_ne.2 hi
  have HC := Lib.hid hcl
  clear h h1 hT hw1 hcl hi
  generalize hz : f a = z at *
  generalize upd f a is = f' at *
  clear hz
  go_enter Try.func27, Try.ntmps27
  go_wp2_with (first
    | (go_at_call 10; refine HP.mono ?_; rintro e w' ⟨rfl, rfl⟩)
    | (go_at_call 19; refine HU.out.mono ?_; rintro e w2 ⟨rfl, S2, t2, hw2⟩; have HT := Lib.hid (IsCells.told hw2 (cnt + 1) kk a z is); have T2 := Lib.hid t2; have c1 := hw2.c1; have c2 := hw2.c2; have c3 := hw2.c3; have c4 := hw2.c4; have c5 := hw2.c5; have z1 := hw2.fz 1 (by decide); have z2 := hw2.fz 2 (by decide); have z3 := hw2.fz 3 (by decide); have z4 := hw2.fz 4 (by decide); have z5 := hw2.fz 5 (by decide); clear t2 hw2)
    | (with_reducible refine HC.out.mono ?_; rintro e w' ⟨rfl, rfl⟩))
  go_ret
  exact ⟨rfl, S2, T2.out.trans HT.out.2, HT.out.1⟩
/-- An access of what stands at a, by a closure that says what stands then. -/
theorem access_any (K : Nat) (cap : Array Value) (h : Cel w p f cnt k a0 x y n S) (ha : isU a) (hu : isU is) (hn : n < 1099511627776) (hc0 : 0 ≤ cnt) (hc1 : cnt < 1000000000000)
    (hK : ∀ (args : Array Value) (w : World), (callFunc K args).run Try.prog w = .ok (.enter K args) w) (hcl : Calls Try.prog K (#[.int .u64 (f a)] ++ cap) w fun e w' => e = .returned (.int .u64 is) ∧ w1 = w') (h1 : Keeps T w w1) (hT : ∀ k, S k → ¬ T k) :
    Calls Try.prog 27 #[.pointer (some ⟨p, 0, none⟩), .int .u8 kk, .int .u64 a, .func (.func K) #[] cap] w fun e w' => e = .returned (.int .u64 (f a)) ∧ AccPost w1 p (upd f a is) (cnt + 1) kk a (f a) is (n + 1) S w' := by
  by_cases hi : is = f a
  · refine (access_same K cap h ha hc0 hc1 hi hK hcl h1 hT).mono ?_
    rintro e w' ⟨rfl, S', t, q⟩
    have e1 : upd f a is = f := by rw [hi]; exact upd_id f a
    rw [e1]
    exact ⟨rfl, S', t, IsCells.more q (by omega) (fun _ s => s)⟩
  · exact access_other K cap h ha hu hn hc0 hc1 hi hK hcl h1 hT
end
end Go.Proofs.Ytdlniopjkioamaa
