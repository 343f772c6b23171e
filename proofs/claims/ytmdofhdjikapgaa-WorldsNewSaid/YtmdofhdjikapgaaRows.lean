/-
  No cell of these rows narrows 'for every input' (looked for: loops, veiled, ifaces, maps, wideKeys, modest, calm, conditions, laid).
  DERIVED. THE GIVEN ROWS OF THIS SEAT. 9 by the template 'for every input the law returns true; each argument reads behind the call as it read before'; 0 by the template 'total and deterministic' (their statements: YtmdofhdjikapgaaTotals.lean).
  GIVEN WITH THE SEED: the statements are not yours to turn. If you find one false, say at which input.
  Laid BY PROGRAM, IN A SANDBOX (cutbox-rows.mjs): the forced cells as the released guide's own fill.sh prints them over the translation 7c1d4a45cf536be4… (all of the seat's roots in one cut). By AI agents, Wed Nov 11 2026. No macro, syntax, notation, axiom, sorry.
-/
import Derived.Test.YtmdofhdjikapgaaChecked
import GoSem.Claim
import GoSem.ClaimJoined
import GoSem.ClaimMapViews
import Derived.JoinedTies
import Derived.KernelRfl
namespace Go.Proofs.Ytmdofhdjikapgaa
/- THE CELL 'sum', in the pinned program and in every row, IS THE sha256 OF THE DUMP (.gsa) THAT YtmdofhdjikapgaaProg.lean LOADS. Nothing in Lean hashes anything: it is a label: what it is worth is what the hold of that sum in a sandbox is worth. -/
noncomputable def Try.pinned : Pinned := { name := "ytmdofhdjikapgaa", sum := "7c1d4a45cf536be46c7777aafc25694ec563f561007ff45e6225167c33833a43", checked := Try.checked }
namespace Rows
def none {H : Type} : Left H := { results := [], args := [] }

/-- 'nestboxlaw10.WorldsNew': WHATEVER THE INPUT: true; the input reads as it did. -/
def worldsNewSpec : ChangeSpec := { name := "worldsNew", fn := fun _ => fun
  | [d] => { results := [.lit (.bool true)], args := [d] }
  | _ => none }
def worldsNewRow : OpenClaim := { program := "ytmdofhdjikapgaa", sum := "7c1d4a45cf536be46c7777aafc25694ec563f561007ff45e6225167c33833a43", func := "nestbox/nestboxlaw10.WorldsNew", spec := "worldsNew", inPlace := ["sync/atomic.StoreUint64", "sync/atomic.LoadUint64"], unfollowed := true, recurses := true, apart := false }
def WorldsNewSaid : Prop := worldsNewRow.holds Try.pinned (OpenSpec.ofChange worldsNewSpec)

/-- ITS FALSE NEIGHBOUR: 'it returns false'. Refute it at one input. -/
def worldsNewWrong : ChangeSpec := { name := "worldsNew", fn := fun _ => fun
  | [d] => { results := [.lit (.bool false)], args := [d] }
  | _ => none }
def WorldsNewWrongFalsely : Prop := worldsNewRow.holds Try.pinned (OpenSpec.ofChange worldsNewWrong)

/-- 'nestboxlaw10.WorldsVoid': WHATEVER THE INPUT: true; the input reads as it did. -/
def worldsVoidSpec : ChangeSpec := { name := "worldsVoid", fn := fun _ => fun
  | [d] => { results := [.lit (.bool true)], args := [d] }
  | _ => none }
def worldsVoidRow : OpenClaim := { program := "ytmdofhdjikapgaa", sum := "7c1d4a45cf536be46c7777aafc25694ec563f561007ff45e6225167c33833a43", func := "nestbox/nestboxlaw10.WorldsVoid", spec := "worldsVoid", inPlace := ["sync/atomic.LoadUint64", "sync/atomic.StoreUint64"], unfollowed := true, recurses := true, apart := false }
def WorldsVoidSaid : Prop := worldsVoidRow.holds Try.pinned (OpenSpec.ofChange worldsVoidSpec)

/-- ITS FALSE NEIGHBOUR: 'it returns false'. Refute it at one input. -/
def worldsVoidWrong : ChangeSpec := { name := "worldsVoid", fn := fun _ => fun
  | [d] => { results := [.lit (.bool false)], args := [d] }
  | _ => none }
def WorldsVoidWrongFalsely : Prop := worldsVoidRow.holds Try.pinned (OpenSpec.ofChange worldsVoidWrong)

/-- 'nestboxlaw10.WorldsSteps': WHATEVER THE INPUT: true; the input reads as it did. -/
def worldsStepsSpec : ChangeSpec := { name := "worldsSteps", fn := fun _ => fun
  | [d1, d2, d3] => { results := [.lit (.bool true)], args := [d1, d2, d3] }
  | _ => none }
def worldsStepsRow : OpenClaim := { program := "ytmdofhdjikapgaa", sum := "7c1d4a45cf536be46c7777aafc25694ec563f561007ff45e6225167c33833a43", func := "nestbox/nestboxlaw10.WorldsSteps", spec := "worldsSteps", inPlace := ["sync/atomic.StoreUint64", "sync/atomic.LoadUint64"], unfollowed := true, recurses := true, apart := false }
def WorldsStepsSaid : Prop := worldsStepsRow.holds Try.pinned (OpenSpec.ofChange worldsStepsSpec)

/-- ITS FALSE NEIGHBOUR: 'it returns false'. Refute it at one input. -/
def worldsStepsWrong : ChangeSpec := { name := "worldsSteps", fn := fun _ => fun
  | [d1, d2, d3] => { results := [.lit (.bool false)], args := [d1, d2, d3] }
  | _ => none }
def WorldsStepsWrongFalsely : Prop := worldsStepsRow.holds Try.pinned (OpenSpec.ofChange worldsStepsWrong)

/-- 'nestboxlaw10.WorldsGrow': WHATEVER THE INPUT: true; the input reads as it did. -/
def worldsGrowSpec : ChangeSpec := { name := "worldsGrow", fn := fun _ => fun
  | [d] => { results := [.lit (.bool true)], args := [d] }
  | _ => none }
def worldsGrowRow : OpenClaim := { program := "ytmdofhdjikapgaa", sum := "7c1d4a45cf536be46c7777aafc25694ec563f561007ff45e6225167c33833a43", func := "nestbox/nestboxlaw10.WorldsGrow", spec := "worldsGrow", inPlace := ["sync/atomic.StoreUint64", "sync/atomic.LoadUint64"], unfollowed := true, recurses := true, apart := false }
def WorldsGrowSaid : Prop := worldsGrowRow.holds Try.pinned (OpenSpec.ofChange worldsGrowSpec)

/-- ITS FALSE NEIGHBOUR: 'it returns false'. Refute it at one input. -/
def worldsGrowWrong : ChangeSpec := { name := "worldsGrow", fn := fun _ => fun
  | [d] => { results := [.lit (.bool false)], args := [d] }
  | _ => none }
def WorldsGrowWrongFalsely : Prop := worldsGrowRow.holds Try.pinned (OpenSpec.ofChange worldsGrowWrong)

/-- 'nestboxlaw10.WorldsFull': WHATEVER THE INPUT: true; the input reads as it did. -/
def worldsFullSpec : ChangeSpec := { name := "worldsFull", fn := fun _ => fun
  | [d1, d2] => { results := [.lit (.bool true)], args := [d1, d2] }
  | _ => none }
def worldsFullRow : OpenClaim := { program := "ytmdofhdjikapgaa", sum := "7c1d4a45cf536be46c7777aafc25694ec563f561007ff45e6225167c33833a43", func := "nestbox/nestboxlaw10.WorldsFull", spec := "worldsFull", inPlace := ["sync/atomic.StoreUint64", "sync/atomic.LoadUint64"], unfollowed := true, recurses := true, apart := false }
def WorldsFullSaid : Prop := worldsFullRow.holds Try.pinned (OpenSpec.ofChange worldsFullSpec)

/-- ITS FALSE NEIGHBOUR: 'it returns false'. Refute it at one input. -/
def worldsFullWrong : ChangeSpec := { name := "worldsFull", fn := fun _ => fun
  | [d1, d2] => { results := [.lit (.bool false)], args := [d1, d2] }
  | _ => none }
def WorldsFullWrongFalsely : Prop := worldsFullRow.holds Try.pinned (OpenSpec.ofChange worldsFullWrong)

/-- 'nestboxlaw22.RefsWord': WHATEVER THE INPUT: true; the input reads as it did. -/
def refsWordSpec : ChangeSpec := { name := "refsWord", fn := fun _ => fun
  | [d] => { results := [.lit (.bool true)], args := [d] }
  | _ => none }
def refsWordRow : OpenClaim := { program := "ytmdofhdjikapgaa", sum := "7c1d4a45cf536be46c7777aafc25694ec563f561007ff45e6225167c33833a43", func := "nestbox/nestboxlaw22.RefsWord", spec := "refsWord", inPlace := ["sync/atomic.StoreUint64", "sync/atomic.LoadUint64"], unfollowed := true, recurses := true, apart := false }
def RefsWordSaid : Prop := refsWordRow.holds Try.pinned (OpenSpec.ofChange refsWordSpec)

/-- ITS FALSE NEIGHBOUR: 'it returns false'. Refute it at one input. -/
def refsWordWrong : ChangeSpec := { name := "refsWord", fn := fun _ => fun
  | [d] => { results := [.lit (.bool false)], args := [d] }
  | _ => none }
def RefsWordWrongFalsely : Prop := refsWordRow.holds Try.pinned (OpenSpec.ofChange refsWordWrong)

/-- 'nestboxlaw22.RefsOnce': WHATEVER THE INPUT: true; the input reads as it did. -/
def refsOnceSpec : ChangeSpec := { name := "refsOnce", fn := fun _ => fun
  | [d1, d2, d3] => { results := [.lit (.bool true)], args := [d1, d2, d3] }
  | _ => none }
def refsOnceRow : OpenClaim := { program := "ytmdofhdjikapgaa", sum := "7c1d4a45cf536be46c7777aafc25694ec563f561007ff45e6225167c33833a43", func := "nestbox/nestboxlaw22.RefsOnce", spec := "refsOnce", inPlace := ["sync/atomic.StoreUint64", "sync/atomic.LoadUint64"], unfollowed := true, recurses := true, apart := false }
def RefsOnceSaid : Prop := refsOnceRow.holds Try.pinned (OpenSpec.ofChange refsOnceSpec)

/-- ITS FALSE NEIGHBOUR: 'it returns false'. Refute it at one input. -/
def refsOnceWrong : ChangeSpec := { name := "refsOnce", fn := fun _ => fun
  | [d1, d2, d3] => { results := [.lit (.bool false)], args := [d1, d2, d3] }
  | _ => none }
def RefsOnceWrongFalsely : Prop := refsOnceRow.holds Try.pinned (OpenSpec.ofChange refsOnceWrong)

/-- 'nestboxlaw22.RefsLess': WHATEVER THE INPUT: true; the input reads as it did. -/
def refsLessSpec : ChangeSpec := { name := "refsLess", fn := fun _ => fun
  | [d] => { results := [.lit (.bool true)], args := [d] }
  | _ => none }
def refsLessRow : OpenClaim := { program := "ytmdofhdjikapgaa", sum := "7c1d4a45cf536be46c7777aafc25694ec563f561007ff45e6225167c33833a43", func := "nestbox/nestboxlaw22.RefsLess", spec := "refsLess", inPlace := ["sync/atomic.StoreUint64", "sync/atomic.LoadUint64"], unfollowed := true, recurses := true, apart := false }
def RefsLessSaid : Prop := refsLessRow.holds Try.pinned (OpenSpec.ofChange refsLessSpec)

/-- ITS FALSE NEIGHBOUR: 'it returns false'. Refute it at one input. -/
def refsLessWrong : ChangeSpec := { name := "refsLess", fn := fun _ => fun
  | [d] => { results := [.lit (.bool false)], args := [d] }
  | _ => none }
def RefsLessWrongFalsely : Prop := refsLessRow.holds Try.pinned (OpenSpec.ofChange refsLessWrong)

/-- 'nestboxlaw22.RefsQuiet': WHATEVER THE INPUT: true; the input reads as it did. -/
def refsQuietSpec : ChangeSpec := { name := "refsQuiet", fn := fun _ => fun
  | [d1, d2, d3] => { results := [.lit (.bool true)], args := [d1, d2, d3] }
  | _ => none }
def refsQuietRow : OpenClaim := { program := "ytmdofhdjikapgaa", sum := "7c1d4a45cf536be46c7777aafc25694ec563f561007ff45e6225167c33833a43", func := "nestbox/nestboxlaw22.RefsQuiet", spec := "refsQuiet", inPlace := ["sync/atomic.StoreUint64", "sync/atomic.LoadUint64"], unfollowed := true, recurses := true, apart := false }
def RefsQuietSaid : Prop := refsQuietRow.holds Try.pinned (OpenSpec.ofChange refsQuietSpec)

/-- ITS FALSE NEIGHBOUR: 'it returns false'. Refute it at one input. -/
def refsQuietWrong : ChangeSpec := { name := "refsQuiet", fn := fun _ => fun
  | [d1, d2, d3] => { results := [.lit (.bool false)], args := [d1, d2, d3] }
  | _ => none }
def RefsQuietWrongFalsely : Prop := refsQuietRow.holds Try.pinned (OpenSpec.ofChange refsQuietWrong)

/- THE SECOND FORM. 'bulk': how many values and letters a reading holds, each counted each time it is reached (what is shared counts as often as it is met; a slice's spare places count too). A statement '..UptoSaid' is the law's where the arguments, and the package variables that the reading takes, are together of bulk at most 1048576: NARROWER than '..Said'. Prove '..Said' where nothing that the law and all that it calls make is longer than what came in: it says more and counts as full. Else prove '..UptoSaid'. A law counts once. -/
mutual
def uptoBulk {H : Type} : DataW H → Nat
  | .lit (.string bytes) => bytes.length + 1
  | .lit _ => 1
  | .nil => 1
  | .ptr d => uptoBulk d + 1
  | .slice elems spare => uptoBulkAll elems + uptoBulkAll spare + 1
  | .agg parts => uptoBulkAll parts + 1
  | .iface _ d => uptoBulk d + 1
  | .map entries => uptoBulkEntries entries + 1
  | .held _ => 1
def uptoBulkAll {H : Type} : List (DataW H) → Nat
  | [] => 0
  | d :: r => uptoBulk d + uptoBulkAll r
def uptoBulkEntries {H : Type} : List (Lit × DataW H) → Nat
  | [] => 0
  | x :: r => uptoBulkEntry x + uptoBulkEntries r
def uptoBulkEntry {H : Type} : Lit × DataW H → Nat
  | (.string bytes, d) => bytes.length + uptoBulk d + 1
  | (_, d) => uptoBulk d + 1
 end
def uptoSmall : (H : Type) → List (DataW H) → Bool := fun _ ds => decide (uptoBulkAll ds ≤ 1048576)
def OpenSpec.upto (s : _root_.Go.ChangeSpec) : _root_.Go.OpenSpec := { _root_.Go.OpenSpec.ofChange s with cond := some uptoSmall }

/-- 'nestboxlaw10.WorldsNew', WHERE WHAT IT READS IS OF BULK AT MOST 1048576: true; the input reads as it did. -/
def worldsNewUptoRow : OpenClaim := { program := "ytmdofhdjikapgaa", sum := "7c1d4a45cf536be46c7777aafc25694ec563f561007ff45e6225167c33833a43", func := "nestbox/nestboxlaw10.WorldsNew", spec := "worldsNew", inPlace := ["sync/atomic.StoreUint64", "sync/atomic.LoadUint64"], unfollowed := true, recurses := true, apart := false, narrowed := true }
def WorldsNewUptoSaid : Prop := worldsNewUptoRow.holds Try.pinned (OpenSpec.upto worldsNewSpec)

/-- 'nestboxlaw10.WorldsVoid', WHERE WHAT IT READS IS OF BULK AT MOST 1048576: true; the input reads as it did. -/
def worldsVoidUptoRow : OpenClaim := { program := "ytmdofhdjikapgaa", sum := "7c1d4a45cf536be46c7777aafc25694ec563f561007ff45e6225167c33833a43", func := "nestbox/nestboxlaw10.WorldsVoid", spec := "worldsVoid", inPlace := ["sync/atomic.LoadUint64", "sync/atomic.StoreUint64"], unfollowed := true, recurses := true, apart := false, narrowed := true }
def WorldsVoidUptoSaid : Prop := worldsVoidUptoRow.holds Try.pinned (OpenSpec.upto worldsVoidSpec)

/-- 'nestboxlaw10.WorldsSteps', WHERE WHAT IT READS IS OF BULK AT MOST 1048576: true; the input reads as it did. -/
def worldsStepsUptoRow : OpenClaim := { program := "ytmdofhdjikapgaa", sum := "7c1d4a45cf536be46c7777aafc25694ec563f561007ff45e6225167c33833a43", func := "nestbox/nestboxlaw10.WorldsSteps", spec := "worldsSteps", inPlace := ["sync/atomic.StoreUint64", "sync/atomic.LoadUint64"], unfollowed := true, recurses := true, apart := false, narrowed := true }
def WorldsStepsUptoSaid : Prop := worldsStepsUptoRow.holds Try.pinned (OpenSpec.upto worldsStepsSpec)

/-- 'nestboxlaw10.WorldsGrow', WHERE WHAT IT READS IS OF BULK AT MOST 1048576: true; the input reads as it did. -/
def worldsGrowUptoRow : OpenClaim := { program := "ytmdofhdjikapgaa", sum := "7c1d4a45cf536be46c7777aafc25694ec563f561007ff45e6225167c33833a43", func := "nestbox/nestboxlaw10.WorldsGrow", spec := "worldsGrow", inPlace := ["sync/atomic.StoreUint64", "sync/atomic.LoadUint64"], unfollowed := true, recurses := true, apart := false, narrowed := true }
def WorldsGrowUptoSaid : Prop := worldsGrowUptoRow.holds Try.pinned (OpenSpec.upto worldsGrowSpec)

/-- 'nestboxlaw10.WorldsFull', WHERE WHAT IT READS IS OF BULK AT MOST 1048576: true; the input reads as it did. -/
def worldsFullUptoRow : OpenClaim := { program := "ytmdofhdjikapgaa", sum := "7c1d4a45cf536be46c7777aafc25694ec563f561007ff45e6225167c33833a43", func := "nestbox/nestboxlaw10.WorldsFull", spec := "worldsFull", inPlace := ["sync/atomic.StoreUint64", "sync/atomic.LoadUint64"], unfollowed := true, recurses := true, apart := false, narrowed := true }
def WorldsFullUptoSaid : Prop := worldsFullUptoRow.holds Try.pinned (OpenSpec.upto worldsFullSpec)

/-- 'nestboxlaw22.RefsWord', WHERE WHAT IT READS IS OF BULK AT MOST 1048576: true; the input reads as it did. -/
def refsWordUptoRow : OpenClaim := { program := "ytmdofhdjikapgaa", sum := "7c1d4a45cf536be46c7777aafc25694ec563f561007ff45e6225167c33833a43", func := "nestbox/nestboxlaw22.RefsWord", spec := "refsWord", inPlace := ["sync/atomic.StoreUint64", "sync/atomic.LoadUint64"], unfollowed := true, recurses := true, apart := false, narrowed := true }
def RefsWordUptoSaid : Prop := refsWordUptoRow.holds Try.pinned (OpenSpec.upto refsWordSpec)

/-- 'nestboxlaw22.RefsOnce', WHERE WHAT IT READS IS OF BULK AT MOST 1048576: true; the input reads as it did. -/
def refsOnceUptoRow : OpenClaim := { program := "ytmdofhdjikapgaa", sum := "7c1d4a45cf536be46c7777aafc25694ec563f561007ff45e6225167c33833a43", func := "nestbox/nestboxlaw22.RefsOnce", spec := "refsOnce", inPlace := ["sync/atomic.StoreUint64", "sync/atomic.LoadUint64"], unfollowed := true, recurses := true, apart := false, narrowed := true }
def RefsOnceUptoSaid : Prop := refsOnceUptoRow.holds Try.pinned (OpenSpec.upto refsOnceSpec)

/-- 'nestboxlaw22.RefsLess', WHERE WHAT IT READS IS OF BULK AT MOST 1048576: true; the input reads as it did. -/
def refsLessUptoRow : OpenClaim := { program := "ytmdofhdjikapgaa", sum := "7c1d4a45cf536be46c7777aafc25694ec563f561007ff45e6225167c33833a43", func := "nestbox/nestboxlaw22.RefsLess", spec := "refsLess", inPlace := ["sync/atomic.StoreUint64", "sync/atomic.LoadUint64"], unfollowed := true, recurses := true, apart := false, narrowed := true }
def RefsLessUptoSaid : Prop := refsLessUptoRow.holds Try.pinned (OpenSpec.upto refsLessSpec)

/-- 'nestboxlaw22.RefsQuiet', WHERE WHAT IT READS IS OF BULK AT MOST 1048576: true; the input reads as it did. -/
def refsQuietUptoRow : OpenClaim := { program := "ytmdofhdjikapgaa", sum := "7c1d4a45cf536be46c7777aafc25694ec563f561007ff45e6225167c33833a43", func := "nestbox/nestboxlaw22.RefsQuiet", spec := "refsQuiet", inPlace := ["sync/atomic.StoreUint64", "sync/atomic.LoadUint64"], unfollowed := true, recurses := true, apart := false, narrowed := true }
def RefsQuietUptoSaid : Prop := refsQuietUptoRow.holds Try.pinned (OpenSpec.upto refsQuietSpec)

end Rows
end Go.Proofs.Ytmdofhdjikapgaa
