/-
  No cell of these rows narrows 'for every input' (looked for: loops, veiled, ifaces, maps, wideKeys, modest, calm, conditions, laid).
  DERIVED. THE GIVEN ROWS OF THIS SEAT. 12 by the template 'for every input the law returns true; each argument reads behind the call as it read before'; 0 by the template 'total and deterministic' (their statements: YteofbgbjibbdaabTotals.lean).
  GIVEN WITH THE SEED: the statements are not yours to turn. If you find one false, say at which input.
  Laid BY PROGRAM, IN A SANDBOX (cutbox-rows.mjs): the forced cells as the released guide's own fill.sh prints them over the translation 9b70b8c42d9412d1… (all of the seat's roots in one cut). By AI agents, Wed Nov 11 2026. No macro, syntax, notation, axiom, sorry.
-/
import Derived.Test.YteofbgbjibbdaabChecked
import GoSem.Claim
import GoSem.ClaimJoined
import GoSem.ClaimMapViews
import Derived.JoinedTies
import Derived.KernelRfl
namespace Go.Proofs.Yteofbgbjibbdaab
/- THE CELL 'sum', in the pinned program and in every row, IS THE sha256 OF THE DUMP (.gsa) THAT YteofbgbjibbdaabProg.lean LOADS. Nothing in Lean hashes anything: it is a label: what it is worth is what the hold of that sum in a sandbox is worth. -/
noncomputable def Try.pinned : Pinned := { name := "yteofbgbjibbdaab", sum := "9b70b8c42d9412d1128b238e611039cf6b15398ca70a5a7bb842e116aa9cb1eb", checked := Try.checked }
namespace Rows
def none {H : Type} : Left H := { results := [], args := [] }

/-- 'nestboxlaw05.CellsVoid': WHATEVER THE INPUT: true; the input reads as it did. -/
def cellsVoidSpec : ChangeSpec := { name := "cellsVoid", fn := fun _ => fun
  | [d] => { results := [.lit (.bool true)], args := [d] }
  | _ => none }
def cellsVoidRow : OpenClaim := { program := "yteofbgbjibbdaab", sum := "9b70b8c42d9412d1128b238e611039cf6b15398ca70a5a7bb842e116aa9cb1eb", func := "nestbox/nestboxlaw05.CellsVoid", spec := "cellsVoid", inPlace := ["sync/atomic.LoadUint64", "sync/atomic.StoreUint64"], unfollowed := true, recurses := true, apart := false }
def CellsVoidSaid : Prop := cellsVoidRow.holds Try.pinned (OpenSpec.ofChange cellsVoidSpec)

/-- ITS FALSE NEIGHBOUR: 'it returns false'. Refute it at one input. -/
def cellsVoidWrong : ChangeSpec := { name := "cellsVoid", fn := fun _ => fun
  | [d] => { results := [.lit (.bool false)], args := [d] }
  | _ => none }
def CellsVoidWrongFalsely : Prop := cellsVoidRow.holds Try.pinned (OpenSpec.ofChange cellsVoidWrong)

/-- 'nestboxlaw05.CellsApart': WHATEVER THE INPUT: true; the input reads as it did. -/
def cellsApartSpec : ChangeSpec := { name := "cellsApart", fn := fun _ => fun
  | [d1, d2, d3] => { results := [.lit (.bool true)], args := [d1, d2, d3] }
  | _ => none }
def cellsApartRow : OpenClaim := { program := "yteofbgbjibbdaab", sum := "9b70b8c42d9412d1128b238e611039cf6b15398ca70a5a7bb842e116aa9cb1eb", func := "nestbox/nestboxlaw05.CellsApart", spec := "cellsApart", inPlace := ["sync/atomic.StoreUint64", "sync/atomic.LoadUint64"], unfollowed := true, recurses := true, apart := false }
def CellsApartSaid : Prop := cellsApartRow.holds Try.pinned (OpenSpec.ofChange cellsApartSpec)

/-- ITS FALSE NEIGHBOUR: 'it returns false'. Refute it at one input. -/
def cellsApartWrong : ChangeSpec := { name := "cellsApart", fn := fun _ => fun
  | [d1, d2, d3] => { results := [.lit (.bool false)], args := [d1, d2, d3] }
  | _ => none }
def CellsApartWrongFalsely : Prop := cellsApartRow.holds Try.pinned (OpenSpec.ofChange cellsApartWrong)

/-- 'nestboxlaw05.CellsBack': WHATEVER THE INPUT: true; the input reads as it did. -/
def cellsBackSpec : ChangeSpec := { name := "cellsBack", fn := fun _ => fun
  | [d1, d2] => { results := [.lit (.bool true)], args := [d1, d2] }
  | _ => none }
def cellsBackRow : OpenClaim := { program := "yteofbgbjibbdaab", sum := "9b70b8c42d9412d1128b238e611039cf6b15398ca70a5a7bb842e116aa9cb1eb", func := "nestbox/nestboxlaw05.CellsBack", spec := "cellsBack", inPlace := ["sync/atomic.StoreUint64", "sync/atomic.LoadUint64"], unfollowed := true, recurses := true, apart := false }
def CellsBackSaid : Prop := cellsBackRow.holds Try.pinned (OpenSpec.ofChange cellsBackSpec)

/-- ITS FALSE NEIGHBOUR: 'it returns false'. Refute it at one input. -/
def cellsBackWrong : ChangeSpec := { name := "cellsBack", fn := fun _ => fun
  | [d1, d2] => { results := [.lit (.bool false)], args := [d1, d2] }
  | _ => none }
def CellsBackWrongFalsely : Prop := cellsBackRow.holds Try.pinned (OpenSpec.ofChange cellsBackWrong)

/-- 'nestboxlaw06.ItemsPlay': WHATEVER THE INPUT: true; the input reads as it did. -/
def itemsPlaySpec : ChangeSpec := { name := "itemsPlay", fn := fun _ => fun
  | [d1, d2] => { results := [.lit (.bool true)], args := [d1, d2] }
  | _ => none }
def itemsPlayRow : OpenClaim := { program := "yteofbgbjibbdaab", sum := "9b70b8c42d9412d1128b238e611039cf6b15398ca70a5a7bb842e116aa9cb1eb", func := "nestbox/nestboxlaw06.ItemsPlay", spec := "itemsPlay", unfollowed := true, recurses := true, apart := false }
def ItemsPlaySaid : Prop := itemsPlayRow.holds Try.pinned (OpenSpec.ofChange itemsPlaySpec)

/-- ITS FALSE NEIGHBOUR: 'it returns false'. Refute it at one input. -/
def itemsPlayWrong : ChangeSpec := { name := "itemsPlay", fn := fun _ => fun
  | [d1, d2] => { results := [.lit (.bool false)], args := [d1, d2] }
  | _ => none }
def ItemsPlayWrongFalsely : Prop := itemsPlayRow.holds Try.pinned (OpenSpec.ofChange itemsPlayWrong)

/-- 'nestboxlaw06.ItemsVoid': WHATEVER THE INPUT: true; the input reads as it did. -/
def itemsVoidSpec : ChangeSpec := { name := "itemsVoid", fn := fun _ => fun
  | [d1, d2] => { results := [.lit (.bool true)], args := [d1, d2] }
  | _ => none }
def itemsVoidRow : OpenClaim := { program := "yteofbgbjibbdaab", sum := "9b70b8c42d9412d1128b238e611039cf6b15398ca70a5a7bb842e116aa9cb1eb", func := "nestbox/nestboxlaw06.ItemsVoid", spec := "itemsVoid", unfollowed := true, recurses := true, apart := false }
def ItemsVoidSaid : Prop := itemsVoidRow.holds Try.pinned (OpenSpec.ofChange itemsVoidSpec)

/-- ITS FALSE NEIGHBOUR: 'it returns false'. Refute it at one input. -/
def itemsVoidWrong : ChangeSpec := { name := "itemsVoid", fn := fun _ => fun
  | [d1, d2] => { results := [.lit (.bool false)], args := [d1, d2] }
  | _ => none }
def ItemsVoidWrongFalsely : Prop := itemsVoidRow.holds Try.pinned (OpenSpec.ofChange itemsVoidWrong)

/-- 'nestboxlaw06.ItemsStay': WHATEVER THE INPUT: true; the input reads as it did. -/
def itemsStaySpec : ChangeSpec := { name := "itemsStay", fn := fun _ => fun
  | [d1, d2] => { results := [.lit (.bool true)], args := [d1, d2] }
  | _ => none }
def itemsStayRow : OpenClaim := { program := "yteofbgbjibbdaab", sum := "9b70b8c42d9412d1128b238e611039cf6b15398ca70a5a7bb842e116aa9cb1eb", func := "nestbox/nestboxlaw06.ItemsStay", spec := "itemsStay", unfollowed := true, recurses := true, apart := false }
def ItemsStaySaid : Prop := itemsStayRow.holds Try.pinned (OpenSpec.ofChange itemsStaySpec)

/-- ITS FALSE NEIGHBOUR: 'it returns false'. Refute it at one input. -/
def itemsStayWrong : ChangeSpec := { name := "itemsStay", fn := fun _ => fun
  | [d1, d2] => { results := [.lit (.bool false)], args := [d1, d2] }
  | _ => none }
def ItemsStayWrongFalsely : Prop := itemsStayRow.holds Try.pinned (OpenSpec.ofChange itemsStayWrong)

/-- 'nestboxlaw06.ItemsNone': WHATEVER THE INPUT: true; the input reads as it did. -/
def itemsNoneSpec : ChangeSpec := { name := "itemsNone", fn := fun _ => fun
  | [d1, d2] => { results := [.lit (.bool true)], args := [d1, d2] }
  | _ => none }
def itemsNoneRow : OpenClaim := { program := "yteofbgbjibbdaab", sum := "9b70b8c42d9412d1128b238e611039cf6b15398ca70a5a7bb842e116aa9cb1eb", func := "nestbox/nestboxlaw06.ItemsNone", spec := "itemsNone", unfollowed := true, recurses := true, apart := false }
def ItemsNoneSaid : Prop := itemsNoneRow.holds Try.pinned (OpenSpec.ofChange itemsNoneSpec)

/-- ITS FALSE NEIGHBOUR: 'it returns false'. Refute it at one input. -/
def itemsNoneWrong : ChangeSpec := { name := "itemsNone", fn := fun _ => fun
  | [d1, d2] => { results := [.lit (.bool false)], args := [d1, d2] }
  | _ => none }
def ItemsNoneWrongFalsely : Prop := itemsNoneRow.holds Try.pinned (OpenSpec.ofChange itemsNoneWrong)

/-- 'nestboxlaw06.ItemsFull': WHATEVER THE INPUT: true; the input reads as it did. -/
def itemsFullSpec : ChangeSpec := { name := "itemsFull", fn := fun _ => fun
  | [] => { results := [.lit (.bool true)], args := [] }
  | _ => none }
def itemsFullRow : OpenClaim := { program := "yteofbgbjibbdaab", sum := "9b70b8c42d9412d1128b238e611039cf6b15398ca70a5a7bb842e116aa9cb1eb", func := "nestbox/nestboxlaw06.ItemsFull", spec := "itemsFull", unfollowed := true, recurses := true, apart := false }
def ItemsFullSaid : Prop := itemsFullRow.holds Try.pinned (OpenSpec.ofChange itemsFullSpec)

/-- ITS FALSE NEIGHBOUR: 'it returns false'. Refute it at one input. -/
def itemsFullWrong : ChangeSpec := { name := "itemsFull", fn := fun _ => fun
  | [] => { results := [.lit (.bool false)], args := [] }
  | _ => none }
def ItemsFullWrongFalsely : Prop := itemsFullRow.holds Try.pinned (OpenSpec.ofChange itemsFullWrong)

/-- 'nestboxlaw07.EpochsWord': WHATEVER THE INPUT: true; the input reads as it did. -/
def epochsWordSpec : ChangeSpec := { name := "epochsWord", fn := fun _ => fun
  | [d1, d2, d3] => { results := [.lit (.bool true)], args := [d1, d2, d3] }
  | _ => none }
def epochsWordRow : OpenClaim := { program := "yteofbgbjibbdaab", sum := "9b70b8c42d9412d1128b238e611039cf6b15398ca70a5a7bb842e116aa9cb1eb", func := "nestbox/nestboxlaw07.EpochsWord", spec := "epochsWord", apart := false }
def EpochsWordSaid : Prop := epochsWordRow.holds Try.pinned (OpenSpec.ofChange epochsWordSpec)

/-- ITS FALSE NEIGHBOUR: 'it returns false'. Refute it at one input. -/
def epochsWordWrong : ChangeSpec := { name := "epochsWord", fn := fun _ => fun
  | [d1, d2, d3] => { results := [.lit (.bool false)], args := [d1, d2, d3] }
  | _ => none }
def EpochsWordWrongFalsely : Prop := epochsWordRow.holds Try.pinned (OpenSpec.ofChange epochsWordWrong)

/-- 'nestboxlaw07.EpochsAlive': WHATEVER THE INPUT: true; the input reads as it did. -/
def epochsAliveSpec : ChangeSpec := { name := "epochsAlive", fn := fun _ => fun
  | [d1, d2, d3] => { results := [.lit (.bool true)], args := [d1, d2, d3] }
  | _ => none }
def epochsAliveRow : OpenClaim := { program := "yteofbgbjibbdaab", sum := "9b70b8c42d9412d1128b238e611039cf6b15398ca70a5a7bb842e116aa9cb1eb", func := "nestbox/nestboxlaw07.EpochsAlive", spec := "epochsAlive", apart := false }
def EpochsAliveSaid : Prop := epochsAliveRow.holds Try.pinned (OpenSpec.ofChange epochsAliveSpec)

/-- ITS FALSE NEIGHBOUR: 'it returns false'. Refute it at one input. -/
def epochsAliveWrong : ChangeSpec := { name := "epochsAlive", fn := fun _ => fun
  | [d1, d2, d3] => { results := [.lit (.bool false)], args := [d1, d2, d3] }
  | _ => none }
def EpochsAliveWrongFalsely : Prop := epochsAliveRow.holds Try.pinned (OpenSpec.ofChange epochsAliveWrong)

/-- 'nestboxlaw07.EpochsBack': WHATEVER THE INPUT: true; the input reads as it did. -/
def epochsBackSpec : ChangeSpec := { name := "epochsBack", fn := fun _ => fun
  | [d] => { results := [.lit (.bool true)], args := [d] }
  | _ => none }
def epochsBackRow : OpenClaim := { program := "yteofbgbjibbdaab", sum := "9b70b8c42d9412d1128b238e611039cf6b15398ca70a5a7bb842e116aa9cb1eb", func := "nestbox/nestboxlaw07.EpochsBack", spec := "epochsBack", apart := false }
def EpochsBackSaid : Prop := epochsBackRow.holds Try.pinned (OpenSpec.ofChange epochsBackSpec)

/-- ITS FALSE NEIGHBOUR: 'it returns false'. Refute it at one input. -/
def epochsBackWrong : ChangeSpec := { name := "epochsBack", fn := fun _ => fun
  | [d] => { results := [.lit (.bool false)], args := [d] }
  | _ => none }
def EpochsBackWrongFalsely : Prop := epochsBackRow.holds Try.pinned (OpenSpec.ofChange epochsBackWrong)

/-- 'nestboxlaw07.EpochsDead': WHATEVER THE INPUT: true; the input reads as it did. -/
def epochsDeadSpec : ChangeSpec := { name := "epochsDead", fn := fun _ => fun
  | [d1, d2, d3] => { results := [.lit (.bool true)], args := [d1, d2, d3] }
  | _ => none }
def epochsDeadRow : OpenClaim := { program := "yteofbgbjibbdaab", sum := "9b70b8c42d9412d1128b238e611039cf6b15398ca70a5a7bb842e116aa9cb1eb", func := "nestbox/nestboxlaw07.EpochsDead", spec := "epochsDead", apart := false }
def EpochsDeadSaid : Prop := epochsDeadRow.holds Try.pinned (OpenSpec.ofChange epochsDeadSpec)

/-- ITS FALSE NEIGHBOUR: 'it returns false'. Refute it at one input. -/
def epochsDeadWrong : ChangeSpec := { name := "epochsDead", fn := fun _ => fun
  | [d1, d2, d3] => { results := [.lit (.bool false)], args := [d1, d2, d3] }
  | _ => none }
def EpochsDeadWrongFalsely : Prop := epochsDeadRow.holds Try.pinned (OpenSpec.ofChange epochsDeadWrong)

/- THE SECOND FORM. 'bulk': how many values and letters a reading holds, each counted each time it is reached (what is shared counts as often as it is met; a slice's spare places count too). A statement '..UptoSaid' is the law's where the arguments, and the package variables that the reading takes, are together of bulk at most 1048576: NARROWER than '..Said'. Prove '..Said' where nothing that the law and all that it calls make is longer than what came in: it says more and counts as full. Else prove '..UptoSaid'. A law counts once. -/
mutual
def uptoBulk {H : Type} : DataW H → Nat
  | .lit (.string bytes) => bytes.length + 1
  | .lit _ => 1
  | .nil => 1
  | .ptr d => uptoBulk d + 1
  | .slice elems spare => uptoBulkAll elems + uptoBulkAll spare + 1
  | .agg parts => uptoBulkAll parts + 1
  | .iface _ d => uptoBulk d + 1
  | .map entries => uptoBulkEntries entries + 1
  | .held _ => 1
def uptoBulkAll {H : Type} : List (DataW H) → Nat
  | [] => 0
  | d :: r => uptoBulk d + uptoBulkAll r
def uptoBulkEntries {H : Type} : List (Lit × DataW H) → Nat
  | [] => 0
  | x :: r => uptoBulkEntry x + uptoBulkEntries r
def uptoBulkEntry {H : Type} : Lit × DataW H → Nat
  | (.string bytes, d) => bytes.length + uptoBulk d + 1
  | (_, d) => uptoBulk d + 1
 end
def uptoSmall : (H : Type) → List (DataW H) → Bool := fun _ ds => decide (uptoBulkAll ds ≤ 1048576)
def OpenSpec.upto (s : _root_.Go.ChangeSpec) : _root_.Go.OpenSpec := { _root_.Go.OpenSpec.ofChange s with cond := some uptoSmall }

/-- 'nestboxlaw05.CellsVoid', WHERE WHAT IT READS IS OF BULK AT MOST 1048576: true; the input reads as it did. -/
def cellsVoidUptoRow : OpenClaim := { program := "yteofbgbjibbdaab", sum := "9b70b8c42d9412d1128b238e611039cf6b15398ca70a5a7bb842e116aa9cb1eb", func := "nestbox/nestboxlaw05.CellsVoid", spec := "cellsVoid", inPlace := ["sync/atomic.LoadUint64", "sync/atomic.StoreUint64"], unfollowed := true, recurses := true, apart := false, narrowed := true }
def CellsVoidUptoSaid : Prop := cellsVoidUptoRow.holds Try.pinned (OpenSpec.upto cellsVoidSpec)

/-- 'nestboxlaw05.CellsApart', WHERE WHAT IT READS IS OF BULK AT MOST 1048576: true; the input reads as it did. -/
def cellsApartUptoRow : OpenClaim := { program := "yteofbgbjibbdaab", sum := "9b70b8c42d9412d1128b238e611039cf6b15398ca70a5a7bb842e116aa9cb1eb", func := "nestbox/nestboxlaw05.CellsApart", spec := "cellsApart", inPlace := ["sync/atomic.StoreUint64", "sync/atomic.LoadUint64"], unfollowed := true, recurses := true, apart := false, narrowed := true }
def CellsApartUptoSaid : Prop := cellsApartUptoRow.holds Try.pinned (OpenSpec.upto cellsApartSpec)

/-- 'nestboxlaw05.CellsBack', WHERE WHAT IT READS IS OF BULK AT MOST 1048576: true; the input reads as it did. -/
def cellsBackUptoRow : OpenClaim := { program := "yteofbgbjibbdaab", sum := "9b70b8c42d9412d1128b238e611039cf6b15398ca70a5a7bb842e116aa9cb1eb", func := "nestbox/nestboxlaw05.CellsBack", spec := "cellsBack", inPlace := ["sync/atomic.StoreUint64", "sync/atomic.LoadUint64"], unfollowed := true, recurses := true, apart := false, narrowed := true }
def CellsBackUptoSaid : Prop := cellsBackUptoRow.holds Try.pinned (OpenSpec.upto cellsBackSpec)

/-- 'nestboxlaw06.ItemsPlay', WHERE WHAT IT READS IS OF BULK AT MOST 1048576: true; the input reads as it did. -/
def itemsPlayUptoRow : OpenClaim := { program := "yteofbgbjibbdaab", sum := "9b70b8c42d9412d1128b238e611039cf6b15398ca70a5a7bb842e116aa9cb1eb", func := "nestbox/nestboxlaw06.ItemsPlay", spec := "itemsPlay", unfollowed := true, recurses := true, apart := false, narrowed := true }
def ItemsPlayUptoSaid : Prop := itemsPlayUptoRow.holds Try.pinned (OpenSpec.upto itemsPlaySpec)

/-- 'nestboxlaw06.ItemsVoid', WHERE WHAT IT READS IS OF BULK AT MOST 1048576: true; the input reads as it did. -/
def itemsVoidUptoRow : OpenClaim := { program := "yteofbgbjibbdaab", sum := "9b70b8c42d9412d1128b238e611039cf6b15398ca70a5a7bb842e116aa9cb1eb", func := "nestbox/nestboxlaw06.ItemsVoid", spec := "itemsVoid", unfollowed := true, recurses := true, apart := false, narrowed := true }
def ItemsVoidUptoSaid : Prop := itemsVoidUptoRow.holds Try.pinned (OpenSpec.upto itemsVoidSpec)

/-- 'nestboxlaw06.ItemsStay', WHERE WHAT IT READS IS OF BULK AT MOST 1048576: true; the input reads as it did. -/
def itemsStayUptoRow : OpenClaim := { program := "yteofbgbjibbdaab", sum := "9b70b8c42d9412d1128b238e611039cf6b15398ca70a5a7bb842e116aa9cb1eb", func := "nestbox/nestboxlaw06.ItemsStay", spec := "itemsStay", unfollowed := true, recurses := true, apart := false, narrowed := true }
def ItemsStayUptoSaid : Prop := itemsStayUptoRow.holds Try.pinned (OpenSpec.upto itemsStaySpec)

/-- 'nestboxlaw06.ItemsNone', WHERE WHAT IT READS IS OF BULK AT MOST 1048576: true; the input reads as it did. -/
def itemsNoneUptoRow : OpenClaim := { program := "yteofbgbjibbdaab", sum := "9b70b8c42d9412d1128b238e611039cf6b15398ca70a5a7bb842e116aa9cb1eb", func := "nestbox/nestboxlaw06.ItemsNone", spec := "itemsNone", unfollowed := true, recurses := true, apart := false, narrowed := true }
def ItemsNoneUptoSaid : Prop := itemsNoneUptoRow.holds Try.pinned (OpenSpec.upto itemsNoneSpec)

/-- 'nestboxlaw06.ItemsFull', WHERE WHAT IT READS IS OF BULK AT MOST 1048576: true; the input reads as it did. -/
def itemsFullUptoRow : OpenClaim := { program := "yteofbgbjibbdaab", sum := "9b70b8c42d9412d1128b238e611039cf6b15398ca70a5a7bb842e116aa9cb1eb", func := "nestbox/nestboxlaw06.ItemsFull", spec := "itemsFull", unfollowed := true, recurses := true, apart := false, narrowed := true }
def ItemsFullUptoSaid : Prop := itemsFullUptoRow.holds Try.pinned (OpenSpec.upto itemsFullSpec)

/-- 'nestboxlaw07.EpochsWord', WHERE WHAT IT READS IS OF BULK AT MOST 1048576: true; the input reads as it did. -/
def epochsWordUptoRow : OpenClaim := { program := "yteofbgbjibbdaab", sum := "9b70b8c42d9412d1128b238e611039cf6b15398ca70a5a7bb842e116aa9cb1eb", func := "nestbox/nestboxlaw07.EpochsWord", spec := "epochsWord", apart := false, narrowed := true }
def EpochsWordUptoSaid : Prop := epochsWordUptoRow.holds Try.pinned (OpenSpec.upto epochsWordSpec)

/-- 'nestboxlaw07.EpochsAlive', WHERE WHAT IT READS IS OF BULK AT MOST 1048576: true; the input reads as it did. -/
def epochsAliveUptoRow : OpenClaim := { program := "yteofbgbjibbdaab", sum := "9b70b8c42d9412d1128b238e611039cf6b15398ca70a5a7bb842e116aa9cb1eb", func := "nestbox/nestboxlaw07.EpochsAlive", spec := "epochsAlive", apart := false, narrowed := true }
def EpochsAliveUptoSaid : Prop := epochsAliveUptoRow.holds Try.pinned (OpenSpec.upto epochsAliveSpec)

/-- 'nestboxlaw07.EpochsBack', WHERE WHAT IT READS IS OF BULK AT MOST 1048576: true; the input reads as it did. -/
def epochsBackUptoRow : OpenClaim := { program := "yteofbgbjibbdaab", sum := "9b70b8c42d9412d1128b238e611039cf6b15398ca70a5a7bb842e116aa9cb1eb", func := "nestbox/nestboxlaw07.EpochsBack", spec := "epochsBack", apart := false, narrowed := true }
def EpochsBackUptoSaid : Prop := epochsBackUptoRow.holds Try.pinned (OpenSpec.upto epochsBackSpec)

/-- 'nestboxlaw07.EpochsDead', WHERE WHAT IT READS IS OF BULK AT MOST 1048576: true; the input reads as it did. -/
def epochsDeadUptoRow : OpenClaim := { program := "yteofbgbjibbdaab", sum := "9b70b8c42d9412d1128b238e611039cf6b15398ca70a5a7bb842e116aa9cb1eb", func := "nestbox/nestboxlaw07.EpochsDead", spec := "epochsDead", apart := false, narrowed := true }
def EpochsDeadUptoSaid : Prop := epochsDeadUptoRow.holds Try.pinned (OpenSpec.upto epochsDeadSpec)

end Rows
end Go.Proofs.Yteofbgbjibbdaab
