/- Touches of an item: NewTouch, Run. -/
import Derived.Test.YthlebfiedejhhaaTo2
import Derived.LoopTactic
namespace Go.Proofs.Ythlebfiedejhhaa
open Go.RowKit Go.Maps
set_option linter.unusedVariables false
section
variable {G : Nat → Prop} {w : World} {A : Ad} {V : Wv} {q : Nat} {mark word : Int} {done : Bool}
end
end Go.Proofs.Ythlebfiedejhhaa
