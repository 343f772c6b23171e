/- Small lemmas that hold over any program: hidden facts; calls that write nothing, inside a region whose order is open. -/
import Derived.WalkKit
import Derived.ProofKit
import Derived.WalkLawsBesides
import Derived.WalkSpells
import Derived.Outline
import Derived.Below
import Derived.Lib.Hide
import Derived.Deep.QuietTactic
import Derived.BigQuiet
import Derived.OpenShut
namespace Go.Proofs.YtmjklkcjinfmaaaDoor
open Go.RowKit

theorem quiet_add_left {P : Program} {f : FuncId} {args : Array Value} {w : World} {a n : Nat} {v : Value}
    (h : Calls P f args (w.drewN (a + n)) fun e w' => e = .returned v ∧ w.drewN (a + n) = w') :
    Calls P f args (w.drewN (a + n)) fun e w'' => e = .returned v ∧ ∃ m, w'' = w.drewN (a + m) :=
  h.mono fun _ _ ⟨he, hm⟩ => ⟨he, n, hm.symm⟩
theorem quiet_left {P : Program} {f : FuncId} {args : Array Value} {w : World} {n : Nat} {v : Value}
    (h : Calls P f args (w.drewN n) fun e w' => e = .returned v ∧ w.drewN n = w') : Calls P f args (w.drewN n) fun e w'' => e = .returned v ∧ ∃ m, w'' = w.drewN m :=
  h.mono fun _ _ ⟨he, hm⟩ => ⟨he, n, hm.symm⟩
theorem below_then {w a b : World} (h : Below w.heap.size w a) (k : Below a.heap.size a b) : Below w.heap.size w b := h.trans (k.mono h.size)
theorem box_then {B : Nat} {A a b : World} (h : Below B A a) (hB : B ≤ A.heap.size) (k : Below a.heap.size a b) : Below B A b := h.trans (k.mono (Nat.le_trans hB h.size))
theorem box_cell {B : Nat} {A a : World} {p : Addr} {v : Value} (h : Below B A a) (hp : p.block < B) (hc : A.cell? p = some v) : a.cell? p = some v := (h.cell hp).trans hc
/-- One new block, then whatever leaves it as it is. -/
theorem box_out {w a : World} {o : Obj} {n : Nat} (hn : n = w.heap.size + 1) (h : Below n (w.alloc o) a) : Below w.heap.size w a := ((Below.refl _ _).alloc (Nat.le_refl _) o).trans (h.mono (by omega))
theorem ret_int {k : IntKind} {a b : Int} (h : a = b) : Ending.returned (.int k a) = .returned (.int k b) := by rw [h]
theorem ret_bool {a b : Bool} (h : a = b) : Ending.returned (.bool a) = .returned (.bool b) := by rw [h]

end Go.Proofs.YtmjklkcjinfmaaaDoor
