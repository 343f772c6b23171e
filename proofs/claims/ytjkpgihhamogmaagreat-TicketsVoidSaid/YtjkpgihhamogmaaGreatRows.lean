/-
  No cell of these rows narrows 'for every input' (looked for: loops, veiled, ifaces, maps, wideKeys, modest, calm, conditions, laid).
  DERIVED. THE GIVEN ROWS OF THIS SEAT. 3 by the template 'for every input the law returns true; each argument reads behind the call as it read before'; 0 by the template 'total and deterministic' (their statements: YtjkpgihhamogmaaGreatTotals.lean).
  GIVEN WITH THE SEED: the statements are not yours to turn. If you find one false, say at which input.
  Laid BY PROGRAM, IN A SANDBOX (cutbox-rows.mjs): the forced cells as the released guide's own fill.sh prints them over the translation 3cf96ff7f9e8ebf2… (all of the seat's roots in one cut). By AI agents, Wed Nov 11 2026. No macro, syntax, notation, axiom, sorry.
-/
import Derived.Test.YtjkpgihhamogmaaGreatChecked
import GoSem.Claim
import GoSem.ClaimJoined
import GoSem.ClaimMapViews
import Derived.JoinedTies
import Derived.KernelRfl
namespace Go.Proofs.YtjkpgihhamogmaaGreat
/- THE CELL 'sum', in the pinned program and in every row, IS THE sha256 OF THE DUMP (.gsa) THAT YtjkpgihhamogmaaGreatProg.lean LOADS. Nothing in Lean hashes anything: it is a label: what it is worth is what the hold of that sum in a sandbox is worth. -/
noncomputable def Tryz.pinned : Pinned := { name := "ytjkpgihhamogmaagreat", sum := "3cf96ff7f9e8ebf285f43bb3b1032e3f4c1cc96758c085d6e0e6ec8f7f1bd8ad", checked := Tryz.checked }
namespace Rows
def none {H : Type} : Left H := { results := [], args := [] }

/-- 'nestboxlaw11.TicketsVoid': WHATEVER THE INPUT: true; the input reads as it did. -/
def ticketsVoidSpec : ChangeSpec := { name := "ticketsVoid", fn := fun _ => fun
  | [d] => { results := [.lit (.bool true)], args := [d] }
  | _ => none }
def ticketsVoidRow : OpenClaim := { program := "ytjkpgihhamogmaagreat", sum := "3cf96ff7f9e8ebf285f43bb3b1032e3f4c1cc96758c085d6e0e6ec8f7f1bd8ad", func := "nestbox/nestboxlaw11.TicketsVoid", spec := "ticketsVoid", inPlace := ["sync/atomic.StoreUint64", "sync/atomic.LoadUint64"], unfollowed := true, recurses := true, apart := false }
def TicketsVoidSaid : Prop := ticketsVoidRow.holds Tryz.pinned (OpenSpec.ofChange ticketsVoidSpec)

/-- ITS FALSE NEIGHBOUR: 'it returns false'. Refute it at one input. -/
def ticketsVoidWrong : ChangeSpec := { name := "ticketsVoid", fn := fun _ => fun
  | [d] => { results := [.lit (.bool false)], args := [d] }
  | _ => none }
def TicketsVoidWrongFalsely : Prop := ticketsVoidRow.holds Tryz.pinned (OpenSpec.ofChange ticketsVoidWrong)

/-- 'nestboxlaw12.StripesVoid': WHATEVER THE INPUT: true; the input reads as it did. -/
def stripesVoidSpec : ChangeSpec := { name := "stripesVoid", fn := fun _ => fun
  | [d] => { results := [.lit (.bool true)], args := [d] }
  | _ => none }
def stripesVoidRow : OpenClaim := { program := "ytjkpgihhamogmaagreat", sum := "3cf96ff7f9e8ebf285f43bb3b1032e3f4c1cc96758c085d6e0e6ec8f7f1bd8ad", func := "nestbox/nestboxlaw12.StripesVoid", spec := "stripesVoid", inPlace := ["sync/atomic.StoreUint64", "sync/atomic.LoadUint64"], unfollowed := true, recurses := true, apart := false }
def StripesVoidSaid : Prop := stripesVoidRow.holds Tryz.pinned (OpenSpec.ofChange stripesVoidSpec)

/-- ITS FALSE NEIGHBOUR: 'it returns false'. Refute it at one input. -/
def stripesVoidWrong : ChangeSpec := { name := "stripesVoid", fn := fun _ => fun
  | [d] => { results := [.lit (.bool false)], args := [d] }
  | _ => none }
def StripesVoidWrongFalsely : Prop := stripesVoidRow.holds Tryz.pinned (OpenSpec.ofChange stripesVoidWrong)

/-- 'nestboxlaw13.PutsVoid': WHATEVER THE INPUT: true; the input reads as it did. -/
def putsVoidSpec : ChangeSpec := { name := "putsVoid", fn := fun _ => fun
  | [d1, d2, d3] => { results := [.lit (.bool true)], args := [d1, d2, d3] }
  | _ => none }
def putsVoidRow : OpenClaim := { program := "ytjkpgihhamogmaagreat", sum := "3cf96ff7f9e8ebf285f43bb3b1032e3f4c1cc96758c085d6e0e6ec8f7f1bd8ad", func := "nestbox/nestboxlaw13.PutsVoid", spec := "putsVoid", inPlace := ["sync/atomic.StoreUint64", "sync/atomic.LoadUint64"], unfollowed := true, recurses := true, apart := false }
def PutsVoidSaid : Prop := putsVoidRow.holds Tryz.pinned (OpenSpec.ofChange putsVoidSpec)

/-- ITS FALSE NEIGHBOUR: 'it returns false'. Refute it at one input. -/
def putsVoidWrong : ChangeSpec := { name := "putsVoid", fn := fun _ => fun
  | [d1, d2, d3] => { results := [.lit (.bool false)], args := [d1, d2, d3] }
  | _ => none }
def PutsVoidWrongFalsely : Prop := putsVoidRow.holds Tryz.pinned (OpenSpec.ofChange putsVoidWrong)

/- THE SECOND FORM. 'bulk': how many values and letters a reading holds, each counted each time it is reached (what is shared counts as often as it is met; a slice's spare places count too). A statement '..UptoSaid' is the law's where the arguments, and the package variables that the reading takes, are together of bulk at most 1048576: NARROWER than '..Said'. Prove '..Said' where nothing that the law and all that it calls make is longer than what came in: it says more and counts as full. Else prove '..UptoSaid'. A law counts once. -/
mutual
def uptoBulk {H : Type} : DataW H → Nat
  | .lit (.string bytes) => bytes.length + 1
  | .lit _ => 1
  | .nil => 1
  | .ptr d => uptoBulk d + 1
  | .slice elems spare => uptoBulkAll elems + uptoBulkAll spare + 1
  | .agg parts => uptoBulkAll parts + 1
  | .iface _ d => uptoBulk d + 1
  | .map entries => uptoBulkEntries entries + 1
  | .held _ => 1
def uptoBulkAll {H : Type} : List (DataW H) → Nat
  | [] => 0
  | d :: r => uptoBulk d + uptoBulkAll r
def uptoBulkEntries {H : Type} : List (Lit × DataW H) → Nat
  | [] => 0
  | x :: r => uptoBulkEntry x + uptoBulkEntries r
def uptoBulkEntry {H : Type} : Lit × DataW H → Nat
  | (.string bytes, d) => bytes.length + uptoBulk d + 1
  | (_, d) => uptoBulk d + 1
 end
def uptoSmall : (H : Type) → List (DataW H) → Bool := fun _ ds => decide (uptoBulkAll ds ≤ 1048576)
def OpenSpec.upto (s : _root_.Go.ChangeSpec) : _root_.Go.OpenSpec := { _root_.Go.OpenSpec.ofChange s with cond := some uptoSmall }

/-- 'nestboxlaw11.TicketsVoid', WHERE WHAT IT READS IS OF BULK AT MOST 1048576: true; the input reads as it did. -/
def ticketsVoidUptoRow : OpenClaim := { program := "ytjkpgihhamogmaagreat", sum := "3cf96ff7f9e8ebf285f43bb3b1032e3f4c1cc96758c085d6e0e6ec8f7f1bd8ad", func := "nestbox/nestboxlaw11.TicketsVoid", spec := "ticketsVoid", inPlace := ["sync/atomic.StoreUint64", "sync/atomic.LoadUint64"], unfollowed := true, recurses := true, apart := false, narrowed := true }
def TicketsVoidUptoSaid : Prop := ticketsVoidUptoRow.holds Tryz.pinned (OpenSpec.upto ticketsVoidSpec)

/-- 'nestboxlaw12.StripesVoid', WHERE WHAT IT READS IS OF BULK AT MOST 1048576: true; the input reads as it did. -/
def stripesVoidUptoRow : OpenClaim := { program := "ytjkpgihhamogmaagreat", sum := "3cf96ff7f9e8ebf285f43bb3b1032e3f4c1cc96758c085d6e0e6ec8f7f1bd8ad", func := "nestbox/nestboxlaw12.StripesVoid", spec := "stripesVoid", inPlace := ["sync/atomic.StoreUint64", "sync/atomic.LoadUint64"], unfollowed := true, recurses := true, apart := false, narrowed := true }
def StripesVoidUptoSaid : Prop := stripesVoidUptoRow.holds Tryz.pinned (OpenSpec.upto stripesVoidSpec)

/-- 'nestboxlaw13.PutsVoid', WHERE WHAT IT READS IS OF BULK AT MOST 1048576: true; the input reads as it did. -/
def putsVoidUptoRow : OpenClaim := { program := "ytjkpgihhamogmaagreat", sum := "3cf96ff7f9e8ebf285f43bb3b1032e3f4c1cc96758c085d6e0e6ec8f7f1bd8ad", func := "nestbox/nestboxlaw13.PutsVoid", spec := "putsVoid", inPlace := ["sync/atomic.StoreUint64", "sync/atomic.LoadUint64"], unfollowed := true, recurses := true, apart := false, narrowed := true }
def PutsVoidUptoSaid : Prop := putsVoidUptoRow.holds Tryz.pinned (OpenSpec.upto putsVoidSpec)

end Rows
end Go.Proofs.YtjkpgihhamogmaaGreat
