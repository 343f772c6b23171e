/-
  No cell of these rows narrows 'for every input' (looked for: loops, veiled, ifaces, maps, wideKeys, modest, calm, conditions, laid).
  DERIVED. THE GIVEN ROWS OF THIS SEAT. 4 by the template 'for every input the law returns true; each argument reads behind the call as it read before'; 0 by the template 'total and deterministic' (their statements: YteoeelhljimibaaTotals.lean).
  GIVEN WITH THE SEED: the statements are not yours to turn. If you find one false, say at which input.
  Laid BY PROGRAM, IN A SANDBOX (cutbox-rows.mjs): the forced cells as the released guide's own fill.sh prints them over the translation 739d2fa7ceb33e2d… (all of the seat's roots in one cut). By AI agents, Wed Nov 11 2026. No macro, syntax, notation, axiom, sorry.
-/
import Derived.Test.YteoeelhljimibaaChecked
import GoSem.Claim
import GoSem.ClaimJoined
import GoSem.ClaimMapViews
import Derived.JoinedTies
import Derived.KernelRfl
namespace Go.Proofs.Yteoeelhljimibaa
/- THE CELL 'sum', in the pinned program and in every row, IS THE sha256 OF THE DUMP (.gsa) THAT YteoeelhljimibaaProg.lean LOADS. Nothing in Lean hashes anything: it is a label: what it is worth is what the hold of that sum in a sandbox is worth. -/
noncomputable def Try.pinned : Pinned := { name := "yteoeelhljimibaa", sum := "739d2fa7ceb33e2d195d32fac8f3e4bea324b5e2c7dec429004f2d8c8a96b79d", checked := Try.checked }
namespace Rows
def none {H : Type} : Left H := { results := [], args := [] }

/-- 'nestboxlaw40.BoundsSum': WHATEVER THE INPUT: true; the input reads as it did. -/
def boundsSumSpec : ChangeSpec := { name := "boundsSum", fn := fun _ => fun
  | [d1, d2, d3] => { results := [.lit (.bool true)], args := [d1, d2, d3] }
  | _ => none }
def boundsSumRow : OpenClaim := { program := "yteoeelhljimibaa", sum := "739d2fa7ceb33e2d195d32fac8f3e4bea324b5e2c7dec429004f2d8c8a96b79d", func := "nestbox/nestboxlaw40.BoundsSum", spec := "boundsSum", unfollowed := true, recurses := true, apart := false }
def BoundsSumSaid : Prop := boundsSumRow.holds Try.pinned (OpenSpec.ofChange boundsSumSpec)

/-- ITS FALSE NEIGHBOUR: 'it returns false'. Refute it at one input. -/
def boundsSumWrong : ChangeSpec := { name := "boundsSum", fn := fun _ => fun
  | [d1, d2, d3] => { results := [.lit (.bool false)], args := [d1, d2, d3] }
  | _ => none }
def BoundsSumWrongFalsely : Prop := boundsSumRow.holds Try.pinned (OpenSpec.ofChange boundsSumWrong)

/-- 'nestboxlaw40.BoundsCalls': WHATEVER THE INPUT: true; the input reads as it did. -/
def boundsCallsSpec : ChangeSpec := { name := "boundsCalls", fn := fun _ => fun
  | [d] => { results := [.lit (.bool true)], args := [d] }
  | _ => none }
def boundsCallsRow : OpenClaim := { program := "yteoeelhljimibaa", sum := "739d2fa7ceb33e2d195d32fac8f3e4bea324b5e2c7dec429004f2d8c8a96b79d", func := "nestbox/nestboxlaw40.BoundsCalls", spec := "boundsCalls", unfollowed := true, recurses := true, apart := false }
def BoundsCallsSaid : Prop := boundsCallsRow.holds Try.pinned (OpenSpec.ofChange boundsCallsSpec)

/-- ITS FALSE NEIGHBOUR: 'it returns false'. Refute it at one input. -/
def boundsCallsWrong : ChangeSpec := { name := "boundsCalls", fn := fun _ => fun
  | [d] => { results := [.lit (.bool false)], args := [d] }
  | _ => none }
def BoundsCallsWrongFalsely : Prop := boundsCallsRow.holds Try.pinned (OpenSpec.ofChange boundsCallsWrong)

/-- 'nestboxlaw40.BoundsMore': WHATEVER THE INPUT: true; the input reads as it did. -/
def boundsMoreSpec : ChangeSpec := { name := "boundsMore", fn := fun _ => fun
  | [d1, d2, d3] => { results := [.lit (.bool true)], args := [d1, d2, d3] }
  | _ => none }
def boundsMoreRow : OpenClaim := { program := "yteoeelhljimibaa", sum := "739d2fa7ceb33e2d195d32fac8f3e4bea324b5e2c7dec429004f2d8c8a96b79d", func := "nestbox/nestboxlaw40.BoundsMore", spec := "boundsMore", unfollowed := true, recurses := true, apart := false }
def BoundsMoreSaid : Prop := boundsMoreRow.holds Try.pinned (OpenSpec.ofChange boundsMoreSpec)

/-- ITS FALSE NEIGHBOUR: 'it returns false'. Refute it at one input. -/
def boundsMoreWrong : ChangeSpec := { name := "boundsMore", fn := fun _ => fun
  | [d1, d2, d3] => { results := [.lit (.bool false)], args := [d1, d2, d3] }
  | _ => none }
def BoundsMoreWrongFalsely : Prop := boundsMoreRow.holds Try.pinned (OpenSpec.ofChange boundsMoreWrong)

/-- 'nestboxlaw40.BoundsCut': WHATEVER THE INPUT: true; the input reads as it did. -/
def boundsCutSpec : ChangeSpec := { name := "boundsCut", fn := fun _ => fun
  | [d1, d2] => { results := [.lit (.bool true)], args := [d1, d2] }
  | _ => none }
def boundsCutRow : OpenClaim := { program := "yteoeelhljimibaa", sum := "739d2fa7ceb33e2d195d32fac8f3e4bea324b5e2c7dec429004f2d8c8a96b79d", func := "nestbox/nestboxlaw40.BoundsCut", spec := "boundsCut", unfollowed := true, recurses := true, apart := false }
def BoundsCutSaid : Prop := boundsCutRow.holds Try.pinned (OpenSpec.ofChange boundsCutSpec)

/-- ITS FALSE NEIGHBOUR: 'it returns false'. Refute it at one input. -/
def boundsCutWrong : ChangeSpec := { name := "boundsCut", fn := fun _ => fun
  | [d1, d2] => { results := [.lit (.bool false)], args := [d1, d2] }
  | _ => none }
def BoundsCutWrongFalsely : Prop := boundsCutRow.holds Try.pinned (OpenSpec.ofChange boundsCutWrong)

/- THE SECOND FORM. 'bulk': how many values and letters a reading holds, each counted each time it is reached (what is shared counts as often as it is met; a slice's spare places count too). A statement '..UptoSaid' is the law's where the arguments, and the package variables that the reading takes, are together of bulk at most 1048576: NARROWER than '..Said'. Prove '..Said' where nothing that the law and all that it calls make is longer than what came in: it says more and counts as full. Else prove '..UptoSaid'. A law counts once. -/
mutual
def uptoBulk {H : Type} : DataW H → Nat
  | .lit (.string bytes) => bytes.length + 1
  | .lit _ => 1
  | .nil => 1
  | .ptr d => uptoBulk d + 1
  | .slice elems spare => uptoBulkAll elems + uptoBulkAll spare + 1
  | .agg parts => uptoBulkAll parts + 1
  | .iface _ d => uptoBulk d + 1
  | .map entries => uptoBulkEntries entries + 1
  | .held _ => 1
def uptoBulkAll {H : Type} : List (DataW H) → Nat
  | [] => 0
  | d :: r => uptoBulk d + uptoBulkAll r
def uptoBulkEntries {H : Type} : List (Lit × DataW H) → Nat
  | [] => 0
  | x :: r => uptoBulkEntry x + uptoBulkEntries r
def uptoBulkEntry {H : Type} : Lit × DataW H → Nat
  | (.string bytes, d) => bytes.length + uptoBulk d + 1
  | (_, d) => uptoBulk d + 1
 end
def uptoSmall : (H : Type) → List (DataW H) → Bool := fun _ ds => decide (uptoBulkAll ds ≤ 1048576)
def OpenSpec.upto (s : _root_.Go.ChangeSpec) : _root_.Go.OpenSpec := { _root_.Go.OpenSpec.ofChange s with cond := some uptoSmall }

/-- 'nestboxlaw40.BoundsSum', WHERE WHAT IT READS IS OF BULK AT MOST 1048576: true; the input reads as it did. -/
def boundsSumUptoRow : OpenClaim := { program := "yteoeelhljimibaa", sum := "739d2fa7ceb33e2d195d32fac8f3e4bea324b5e2c7dec429004f2d8c8a96b79d", func := "nestbox/nestboxlaw40.BoundsSum", spec := "boundsSum", unfollowed := true, recurses := true, apart := false, narrowed := true }
def BoundsSumUptoSaid : Prop := boundsSumUptoRow.holds Try.pinned (OpenSpec.upto boundsSumSpec)

/-- 'nestboxlaw40.BoundsCalls', WHERE WHAT IT READS IS OF BULK AT MOST 1048576: true; the input reads as it did. -/
def boundsCallsUptoRow : OpenClaim := { program := "yteoeelhljimibaa", sum := "739d2fa7ceb33e2d195d32fac8f3e4bea324b5e2c7dec429004f2d8c8a96b79d", func := "nestbox/nestboxlaw40.BoundsCalls", spec := "boundsCalls", unfollowed := true, recurses := true, apart := false, narrowed := true }
def BoundsCallsUptoSaid : Prop := boundsCallsUptoRow.holds Try.pinned (OpenSpec.upto boundsCallsSpec)

/-- 'nestboxlaw40.BoundsMore', WHERE WHAT IT READS IS OF BULK AT MOST 1048576: true; the input reads as it did. -/
def boundsMoreUptoRow : OpenClaim := { program := "yteoeelhljimibaa", sum := "739d2fa7ceb33e2d195d32fac8f3e4bea324b5e2c7dec429004f2d8c8a96b79d", func := "nestbox/nestboxlaw40.BoundsMore", spec := "boundsMore", unfollowed := true, recurses := true, apart := false, narrowed := true }
def BoundsMoreUptoSaid : Prop := boundsMoreUptoRow.holds Try.pinned (OpenSpec.upto boundsMoreSpec)

/-- 'nestboxlaw40.BoundsCut', WHERE WHAT IT READS IS OF BULK AT MOST 1048576: true; the input reads as it did. -/
def boundsCutUptoRow : OpenClaim := { program := "yteoeelhljimibaa", sum := "739d2fa7ceb33e2d195d32fac8f3e4bea324b5e2c7dec429004f2d8c8a96b79d", func := "nestbox/nestboxlaw40.BoundsCut", spec := "boundsCut", unfollowed := true, recurses := true, apart := false, narrowed := true }
def BoundsCutUptoSaid : Prop := boundsCutUptoRow.holds Try.pinned (OpenSpec.upto boundsCutSpec)

end Rows
end Go.Proofs.Yteoeelhljimibaa
