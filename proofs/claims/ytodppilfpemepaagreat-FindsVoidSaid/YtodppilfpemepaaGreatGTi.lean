/- Takes and Gives of the lock. -/
import Derived.Test.YtodppilfpemepaaGreatOb
import Derived.Laws.EntriesVeiled
import Derived.Deep.Cut
import Derived.Deep.CutBlock
import Derived.Deep.RegionHeld3
namespace Go.Proofs.YtodppilfpemepaaGreat
open Go.RowKit Go.Maps
set_option linter.unusedVariables false
/-- A Take's cells. -/
def tkC (t tick : Int) (dr : Bool) (nx : Value) : List Value := [.int .i64 t, .int .u64 tick, .bool dr, nx]
/-- What comes next: a method of the block. -/
def mV (f : FuncId) (q : Nat) : Value := .func (.func f) #[.pointer (some ⟨q, 0, none⟩)] #[]
section
variable {G : Nat → Prop} {w : World} {A : Ad} {V : Wv} {q : Nat} {t tick : Int} {dr : Bool}
end
end Go.Proofs.YtodppilfpemepaaGreat
/- Next: Takes and Gives of the lock: steps. -/
namespace Go.Proofs.YtodppilfpemepaaGreat
open Go.RowKit Go.Maps
set_option linter.unusedVariables false
/-- What a step leaves. -/
def OpP (G : Nat → Prop) (w : World) (A : Ad) (V : Wv) (q : Nat) (C : List Value) (over : Bool) (e : Ending) (w' : World) : Prop := e = .returned (.bool over) ∧ Opw G w' A V q C ∧ Kp G w w'
section
variable {G : Nat → Prop} {w : World} {A : Ad} {V : Wv} {q : Nat} {t tick : Int} {dr : Bool}
end
end Go.Proofs.YtodppilfpemepaaGreat
/- Next: Gives of the lock; who waits. -/
namespace Go.Proofs.YtodppilfpemepaaGreat
open Go.RowKit Go.Maps
set_option linter.unusedVariables false
section
variable {G : Nat → Prop} {w : World} {A : Ad} {V : Wv} {q : Nat}
end
end Go.Proofs.YtodppilfpemepaaGreat
