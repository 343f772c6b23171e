/- Touches of an item: Step, Run. -/
import Derived.Test.YthlebfiedejhhaaTo
import Derived.Laws.EntriesVeiled
namespace Go.Proofs.Ythlebfiedejhhaa
open Go.RowKit Go.Maps
set_option linter.unusedVariables false
section
variable {G : Nat → Prop} {w : World} {A : Ad} {V : Wv} {q : Nat} {mark word : Int} {done : Bool}
/-- What a step leaves. -/
def StP (G : Nat → Prop) (w : World) (A : Ad) (V : Wv) (q : Nat) (mark word left : Int) (done over : Bool) (e : Ending) (w' : World) : Prop := e = .returned (.bool over) ∧ Tw G w' A V q mark word left done ∧ Kp G w w'
end
end Go.Proofs.Ythlebfiedejhhaa
