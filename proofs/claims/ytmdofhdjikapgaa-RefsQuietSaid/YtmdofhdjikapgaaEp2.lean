/- Contracts of package epochs: ticks, flushes, when items die. -/
import Derived.Test.YtmdofhdjikapgaaEp
namespace Go.Proofs.Ytmdofhdjikapgaa
open Go.RowKit
set_option linter.unusedVariables false

def tickf (x : Int) : Int :=
  if nowf x < 16777215 then
    if 0 < atf x ∧ atf x ≤ nowf x + 1 then putf (nowf x + 1) 0 (if genf x < 65535 then genf x + 1 else 65535) else putf (nowf x + 1) (atf x) (genf x)
  else if 0 < atf x then putf 16777215 0 (if genf x < 65535 then genf x + 1 else 65535) else putf 16777215 (atf x) (genf x)
theorem tickw (x : Int) (w : World) (h1 : 0 ≤ x) (h2 : x < 18446744073709551616) :
    Calls Try.prog 64 #[.int .u64 x] w fun e w' => e = .returned (.int .u64 (tickf x)) ∧ Below w.heap.size w w' := by
  obtain ⟨⟨a1, a2⟩, ⟨a3, a4⟩, ⟨a5, a6⟩⟩ := ep_range x
  unfold tickf
  by_cases c1 : nowf x < 16777215
  · rw [if_pos c1]
    by_cases c2 : 0 < atf x
    · by_cases c3 : atf x ≤ nowf x + 1
      · rw [if_pos ⟨c2, c3⟩]
        by_cases c4 : genf x < 65535
        · rw [if_pos c4]; exact tick_a1 x _ _ _ w h1 h2 rfl rfl rfl a1 a2 a3 a4 a5 a6 c1 c2 c3 c4
        · rw [if_neg c4]; exact tick_a2 x _ _ _ w h1 h2 rfl rfl rfl a1 a2 a3 a4 a5 a6 c1 c2 c3 c4
      · rw [if_neg (by omega)]; exact tick_b1 x _ _ _ w h1 h2 rfl rfl rfl a1 a2 a3 a4 a5 a6 c1 c2 (by omega)
    · rw [if_neg (by omega)]; exact tick_c1 x _ _ _ w h1 h2 rfl rfl rfl a1 a2 a3 a4 a5 a6 c1 c2
  · rw [if_neg c1]
    by_cases c2 : 0 < atf x
    · rw [if_pos c2]
      by_cases c4 : genf x < 65535
      · rw [if_pos c4]; exact tick_a3 x _ _ _ w h1 h2 rfl rfl rfl a1 a2 a3 a4 a5 a6 c1 c2 a4 c4
      · rw [if_neg c4]; exact tick_a4 x _ _ _ w h1 h2 rfl rfl rfl a1 a2 a3 a4 a5 a6 c1 c2 a4 c4
    · rw [if_neg c2]; exact tick_c2 x _ _ _ w h1 h2 rfl rfl rfl a1 a2 a3 a4 a5 a6 c1 c2

def flushes (x : Int) : Bool := decide (genf x < 65535)
def flushf (x d : Int) : Int := if genf x < 65535 then (if d < 1 then putf (nowf x) 0 (genf x + 1) else putf (nowf x) (if d < 16777215 - nowf x then nowf x + d else 16777215) (genf x)) else x
def diesf (x e : Int) : Int := if e = 0 then -1 else if e < 0 then nowf x else if e ≤ 2592000 then nowf x + e else e
def alivef (g d x : Int) : Bool := genf x == g && !(d != -1 && decide (d ≤ nowf x))
end Go.Proofs.Ytmdofhdjikapgaa
