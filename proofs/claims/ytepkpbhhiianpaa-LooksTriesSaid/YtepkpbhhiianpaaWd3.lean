/- Worlds: steps, full, grows, tick. -/
import Derived.Test.YtepkpbhhiianpaaWd2
import Derived.Test.YtepkpbhhiianpaaGEp
import Derived.Deep.QuietTactic
import Derived.BigQuiet
namespace Go.Proofs.Ytepkpbhhiianpaa
open Go.RowKit Go.Maps
set_option linter.unusedVariables false

theorem belowWd {B : Nat} {a w : World} (h : Below B a w) (n : Nat) : Below B a (w.drewN n) := by
  induction n with
  | zero => exact h
  | succ n ih => exact ih.drew
theorem wsteps {w : World} {A : Ad} {V : Wv} {S : Nat → Prop} (h : Wd w A V S) :
    Calls Try.prog 25 #[.pointer (some ⟨A.p, 0, none⟩)] w fun e w' => e = .returned (.int .i64 V.cnt) ∧ w = w' := by
  have c0 := h.box.c0
  have C := Lib.hid (wcount h)
  clear h
  go_enter Try.func25, Try.ntmps25
  go_wp2_with fail
  refine C.out.mono ?_
  rintro e w' ⟨rfl, rfl⟩
  go_wp2_with fail
  go_ret
  exact ⟨rfl, rfl⟩
/-- May the tables grow? -/
def growsF (V : Wv) : Bool := (asN (V.f 2) == 0) && mayf V.c.bits V.c.budget (asO (V.f 2))
theorem isU_tick (x : Int) : isU (tickf x) := by
  obtain ⟨⟨a1, a2⟩, ⟨a3, a4⟩, ⟨a5, a6⟩⟩ := ep_range x
  unfold tickf
  generalize nowf x = n at *
  generalize atf x = a at *
  generalize genf x = g at *
  unfold putf isU
  split <;> split <;> (try split) <;> constructor <;> omega
end Go.Proofs.Ytepkpbhhiianpaa
