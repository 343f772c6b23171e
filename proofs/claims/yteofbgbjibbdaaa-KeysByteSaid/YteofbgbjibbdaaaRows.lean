/-
  No cell of these rows narrows 'for every input' (looked for: loops, veiled, ifaces, maps, wideKeys, modest, calm, conditions, laid).
  DERIVED. THE GIVEN ROWS OF THIS SEAT. 7 by the template 'for every input the law returns true; each argument reads behind the call as it read before'; 0 by the template 'total and deterministic' (their statements: YteofbgbjibbdaaaTotals.lean).
  GIVEN WITH THE SEED: the statements are not yours to turn. If you find one false, say at which input.
  Laid BY PROGRAM, IN A SANDBOX (cutbox-rows.mjs): the forced cells as the released guide's own fill.sh prints them over the translation 0d2aae82d4846a35… (all of the seat's roots in one cut). By AI agents, Wed Nov 11 2026. No macro, syntax, notation, axiom, sorry.
-/
import Derived.Test.YteofbgbjibbdaaaChecked
import GoSem.Claim
import GoSem.ClaimJoined
import GoSem.ClaimMapViews
import Derived.JoinedTies
import Derived.KernelRfl
namespace Go.Proofs.Yteofbgbjibbdaaa
/- THE CELL 'sum', in the pinned program and in every row, IS THE sha256 OF THE DUMP (.gsa) THAT YteofbgbjibbdaaaProg.lean LOADS. Nothing in Lean hashes anything: it is a label: what it is worth is what the hold of that sum in a sandbox is worth. -/
noncomputable def Try.pinned : Pinned := { name := "yteofbgbjibbdaaa", sum := "0d2aae82d4846a35179b02920250325ad10c7bea380cd24836a54472b2ab6ca6", checked := Try.checked }
namespace Rows
def none {H : Type} : Left H := { results := [], args := [] }

/-- 'nestboxlaw03.KeysLook': WHATEVER THE INPUT: true; the input reads as it did. -/
def keysLookSpec : ChangeSpec := { name := "keysLook", fn := fun _ => fun
  | [d1, d2] => { results := [.lit (.bool true)], args := [d1, d2] }
  | _ => none }
def keysLookRow : OpenClaim := { program := "yteofbgbjibbdaaa", sum := "0d2aae82d4846a35179b02920250325ad10c7bea380cd24836a54472b2ab6ca6", func := "nestbox/nestboxlaw03.KeysLook", spec := "keysLook", inPlace := ["internal/abi.NoEscape", "internal/bytealg.MakeNoZero"], apart := false }
def KeysLookSaid : Prop := keysLookRow.holds Try.pinned (OpenSpec.ofChange keysLookSpec)

/-- ITS FALSE NEIGHBOUR: 'it returns false'. Refute it at one input. -/
def keysLookWrong : ChangeSpec := { name := "keysLook", fn := fun _ => fun
  | [d1, d2] => { results := [.lit (.bool false)], args := [d1, d2] }
  | _ => none }
def KeysLookWrongFalsely : Prop := keysLookRow.holds Try.pinned (OpenSpec.ofChange keysLookWrong)

/-- 'nestboxlaw03.KeysWords': WHATEVER THE INPUT: true; the input reads as it did. -/
def keysWordsSpec : ChangeSpec := { name := "keysWords", fn := fun _ => fun
  | [d] => { results := [.lit (.bool true)], args := [d] }
  | _ => none }
def keysWordsRow : OpenClaim := { program := "yteofbgbjibbdaaa", sum := "0d2aae82d4846a35179b02920250325ad10c7bea380cd24836a54472b2ab6ca6", func := "nestbox/nestboxlaw03.KeysWords", spec := "keysWords", inPlace := ["internal/abi.NoEscape", "internal/bytealg.MakeNoZero"], apart := false }
def KeysWordsSaid : Prop := keysWordsRow.holds Try.pinned (OpenSpec.ofChange keysWordsSpec)

/-- ITS FALSE NEIGHBOUR: 'it returns false'. Refute it at one input. -/
def keysWordsWrong : ChangeSpec := { name := "keysWords", fn := fun _ => fun
  | [d] => { results := [.lit (.bool false)], args := [d] }
  | _ => none }
def KeysWordsWrongFalsely : Prop := keysWordsRow.holds Try.pinned (OpenSpec.ofChange keysWordsWrong)

/-- 'nestboxlaw03.KeysByte': WHATEVER THE INPUT: true; the input reads as it did. -/
def keysByteSpec : ChangeSpec := { name := "keysByte", fn := fun _ => fun
  | [d1, d2, d3] => { results := [.lit (.bool true)], args := [d1, d2, d3] }
  | _ => none }
def keysByteRow : OpenClaim := { program := "yteofbgbjibbdaaa", sum := "0d2aae82d4846a35179b02920250325ad10c7bea380cd24836a54472b2ab6ca6", func := "nestbox/nestboxlaw03.KeysByte", spec := "keysByte", inPlace := ["internal/abi.NoEscape", "internal/bytealg.MakeNoZero"], apart := false }
def KeysByteSaid : Prop := keysByteRow.holds Try.pinned (OpenSpec.ofChange keysByteSpec)

/-- ITS FALSE NEIGHBOUR: 'it returns false'. Refute it at one input. -/
def keysByteWrong : ChangeSpec := { name := "keysByte", fn := fun _ => fun
  | [d1, d2, d3] => { results := [.lit (.bool false)], args := [d1, d2, d3] }
  | _ => none }
def KeysByteWrongFalsely : Prop := keysByteRow.holds Try.pinned (OpenSpec.ofChange keysByteWrong)

/-- 'nestboxlaw03.KeysOne': WHATEVER THE INPUT: true; the input reads as it did. -/
def keysOneSpec : ChangeSpec := { name := "keysOne", fn := fun _ => fun
  | [d1, d2] => { results := [.lit (.bool true)], args := [d1, d2] }
  | _ => none }
def keysOneRow : OpenClaim := { program := "yteofbgbjibbdaaa", sum := "0d2aae82d4846a35179b02920250325ad10c7bea380cd24836a54472b2ab6ca6", func := "nestbox/nestboxlaw03.KeysOne", spec := "keysOne", inPlace := ["internal/abi.NoEscape", "internal/bytealg.MakeNoZero", "internal/bytealg.IndexByteString", "internal/bytealg.IndexString"], named := ["internal/bytealg.MaxLen"], apart := false }
def KeysOneSaid : Prop := keysOneRow.holds Try.pinned (OpenSpec.ofChange keysOneSpec)

/-- ITS FALSE NEIGHBOUR: 'it returns false'. Refute it at one input. -/
def keysOneWrong : ChangeSpec := { name := "keysOne", fn := fun _ => fun
  | [d1, d2] => { results := [.lit (.bool false)], args := [d1, d2] }
  | _ => none }
def KeysOneWrongFalsely : Prop := keysOneRow.holds Try.pinned (OpenSpec.ofChange keysOneWrong)

/-- 'nestboxlaw04.NumsParse': WHATEVER THE INPUT: true; the input reads as it did. -/
def numsParseSpec : ChangeSpec := { name := "numsParse", fn := fun _ => fun
  | [d] => { results := [.lit (.bool true)], args := [d] }
  | _ => none }
def numsParseRow : OpenClaim := { program := "yteofbgbjibbdaaa", sum := "0d2aae82d4846a35179b02920250325ad10c7bea380cd24836a54472b2ab6ca6", func := "nestbox/nestboxlaw04.NumsParse", spec := "numsParse", inPlace := ["internal/abi.NoEscape", "internal/bytealg.MakeNoZero"], apart := false }
def NumsParseSaid : Prop := numsParseRow.holds Try.pinned (OpenSpec.ofChange numsParseSpec)

/-- ITS FALSE NEIGHBOUR: 'it returns false'. Refute it at one input. -/
def numsParseWrong : ChangeSpec := { name := "numsParse", fn := fun _ => fun
  | [d] => { results := [.lit (.bool false)], args := [d] }
  | _ => none }
def NumsParseWrongFalsely : Prop := numsParseRow.holds Try.pinned (OpenSpec.ofChange numsParseWrong)

/-- 'nestboxlaw04.NumsSteps': WHATEVER THE INPUT: true; the input reads as it did. -/
def numsStepsSpec : ChangeSpec := { name := "numsSteps", fn := fun _ => fun
  | [d1, d2, d3] => { results := [.lit (.bool true)], args := [d1, d2, d3] }
  | _ => none }
def numsStepsRow : OpenClaim := { program := "yteofbgbjibbdaaa", sum := "0d2aae82d4846a35179b02920250325ad10c7bea380cd24836a54472b2ab6ca6", func := "nestbox/nestboxlaw04.NumsSteps", spec := "numsSteps", inPlace := ["internal/abi.NoEscape", "internal/bytealg.MakeNoZero"], apart := false }
def NumsStepsSaid : Prop := numsStepsRow.holds Try.pinned (OpenSpec.ofChange numsStepsSpec)

/-- ITS FALSE NEIGHBOUR: 'it returns false'. Refute it at one input. -/
def numsStepsWrong : ChangeSpec := { name := "numsSteps", fn := fun _ => fun
  | [d1, d2, d3] => { results := [.lit (.bool false)], args := [d1, d2, d3] }
  | _ => none }
def NumsStepsWrongFalsely : Prop := numsStepsRow.holds Try.pinned (OpenSpec.ofChange numsStepsWrong)

/-- 'nestboxlaw05.CellsPlay': WHATEVER THE INPUT: true; the input reads as it did. -/
def cellsPlaySpec : ChangeSpec := { name := "cellsPlay", fn := fun _ => fun
  | [d1, d2] => { results := [.lit (.bool true)], args := [d1, d2] }
  | _ => none }
def cellsPlayRow : OpenClaim := { program := "yteofbgbjibbdaaa", sum := "0d2aae82d4846a35179b02920250325ad10c7bea380cd24836a54472b2ab6ca6", func := "nestbox/nestboxlaw05.CellsPlay", spec := "cellsPlay", inPlace := ["sync/atomic.StoreUint64", "sync/atomic.LoadUint64"], unfollowed := true, recurses := true, apart := false }
def CellsPlaySaid : Prop := cellsPlayRow.holds Try.pinned (OpenSpec.ofChange cellsPlaySpec)

/-- ITS FALSE NEIGHBOUR: 'it returns false'. Refute it at one input. -/
def cellsPlayWrong : ChangeSpec := { name := "cellsPlay", fn := fun _ => fun
  | [d1, d2] => { results := [.lit (.bool false)], args := [d1, d2] }
  | _ => none }
def CellsPlayWrongFalsely : Prop := cellsPlayRow.holds Try.pinned (OpenSpec.ofChange cellsPlayWrong)

/- THE SECOND FORM. 'bulk': how many values and letters a reading holds, each counted each time it is reached (what is shared counts as often as it is met; a slice's spare places count too). A statement '..UptoSaid' is the law's where the arguments, and the package variables that the reading takes, are together of bulk at most 1048576: NARROWER than '..Said'. Prove '..Said' where nothing that the law and all that it calls make is longer than what came in: it says more and counts as full. Else prove '..UptoSaid'. A law counts once. -/
mutual
def uptoBulk {H : Type} : DataW H → Nat
  | .lit (.string bytes) => bytes.length + 1
  | .lit _ => 1
  | .nil => 1
  | .ptr d => uptoBulk d + 1
  | .slice elems spare => uptoBulkAll elems + uptoBulkAll spare + 1
  | .agg parts => uptoBulkAll parts + 1
  | .iface _ d => uptoBulk d + 1
  | .map entries => uptoBulkEntries entries + 1
  | .held _ => 1
def uptoBulkAll {H : Type} : List (DataW H) → Nat
  | [] => 0
  | d :: r => uptoBulk d + uptoBulkAll r
def uptoBulkEntries {H : Type} : List (Lit × DataW H) → Nat
  | [] => 0
  | x :: r => uptoBulkEntry x + uptoBulkEntries r
def uptoBulkEntry {H : Type} : Lit × DataW H → Nat
  | (.string bytes, d) => bytes.length + uptoBulk d + 1
  | (_, d) => uptoBulk d + 1
 end
def uptoSmall : (H : Type) → List (DataW H) → Bool := fun _ ds => decide (uptoBulkAll ds ≤ 1048576)
def OpenSpec.upto (s : _root_.Go.ChangeSpec) : _root_.Go.OpenSpec := { _root_.Go.OpenSpec.ofChange s with cond := some uptoSmall }

/-- 'nestboxlaw03.KeysLook', WHERE WHAT IT READS IS OF BULK AT MOST 1048576: true; the input reads as it did. -/
def keysLookUptoRow : OpenClaim := { program := "yteofbgbjibbdaaa", sum := "0d2aae82d4846a35179b02920250325ad10c7bea380cd24836a54472b2ab6ca6", func := "nestbox/nestboxlaw03.KeysLook", spec := "keysLook", inPlace := ["internal/abi.NoEscape", "internal/bytealg.MakeNoZero"], apart := false, narrowed := true }
def KeysLookUptoSaid : Prop := keysLookUptoRow.holds Try.pinned (OpenSpec.upto keysLookSpec)

/-- 'nestboxlaw03.KeysWords', WHERE WHAT IT READS IS OF BULK AT MOST 1048576: true; the input reads as it did. -/
def keysWordsUptoRow : OpenClaim := { program := "yteofbgbjibbdaaa", sum := "0d2aae82d4846a35179b02920250325ad10c7bea380cd24836a54472b2ab6ca6", func := "nestbox/nestboxlaw03.KeysWords", spec := "keysWords", inPlace := ["internal/abi.NoEscape", "internal/bytealg.MakeNoZero"], apart := false, narrowed := true }
def KeysWordsUptoSaid : Prop := keysWordsUptoRow.holds Try.pinned (OpenSpec.upto keysWordsSpec)

/-- 'nestboxlaw03.KeysByte', WHERE WHAT IT READS IS OF BULK AT MOST 1048576: true; the input reads as it did. -/
def keysByteUptoRow : OpenClaim := { program := "yteofbgbjibbdaaa", sum := "0d2aae82d4846a35179b02920250325ad10c7bea380cd24836a54472b2ab6ca6", func := "nestbox/nestboxlaw03.KeysByte", spec := "keysByte", inPlace := ["internal/abi.NoEscape", "internal/bytealg.MakeNoZero"], apart := false, narrowed := true }
def KeysByteUptoSaid : Prop := keysByteUptoRow.holds Try.pinned (OpenSpec.upto keysByteSpec)

/-- 'nestboxlaw03.KeysOne', WHERE WHAT IT READS IS OF BULK AT MOST 1048576: true; the input reads as it did. -/
def keysOneUptoRow : OpenClaim := { program := "yteofbgbjibbdaaa", sum := "0d2aae82d4846a35179b02920250325ad10c7bea380cd24836a54472b2ab6ca6", func := "nestbox/nestboxlaw03.KeysOne", spec := "keysOne", inPlace := ["internal/abi.NoEscape", "internal/bytealg.MakeNoZero", "internal/bytealg.IndexByteString", "internal/bytealg.IndexString"], named := ["internal/bytealg.MaxLen"], apart := false, narrowed := true }
def KeysOneUptoSaid : Prop := keysOneUptoRow.holds Try.pinned (OpenSpec.upto keysOneSpec)

/-- 'nestboxlaw04.NumsParse', WHERE WHAT IT READS IS OF BULK AT MOST 1048576: true; the input reads as it did. -/
def numsParseUptoRow : OpenClaim := { program := "yteofbgbjibbdaaa", sum := "0d2aae82d4846a35179b02920250325ad10c7bea380cd24836a54472b2ab6ca6", func := "nestbox/nestboxlaw04.NumsParse", spec := "numsParse", inPlace := ["internal/abi.NoEscape", "internal/bytealg.MakeNoZero"], apart := false, narrowed := true }
def NumsParseUptoSaid : Prop := numsParseUptoRow.holds Try.pinned (OpenSpec.upto numsParseSpec)

/-- 'nestboxlaw04.NumsSteps', WHERE WHAT IT READS IS OF BULK AT MOST 1048576: true; the input reads as it did. -/
def numsStepsUptoRow : OpenClaim := { program := "yteofbgbjibbdaaa", sum := "0d2aae82d4846a35179b02920250325ad10c7bea380cd24836a54472b2ab6ca6", func := "nestbox/nestboxlaw04.NumsSteps", spec := "numsSteps", inPlace := ["internal/abi.NoEscape", "internal/bytealg.MakeNoZero"], apart := false, narrowed := true }
def NumsStepsUptoSaid : Prop := numsStepsUptoRow.holds Try.pinned (OpenSpec.upto numsStepsSpec)

/-- 'nestboxlaw05.CellsPlay', WHERE WHAT IT READS IS OF BULK AT MOST 1048576: true; the input reads as it did. -/
def cellsPlayUptoRow : OpenClaim := { program := "yteofbgbjibbdaaa", sum := "0d2aae82d4846a35179b02920250325ad10c7bea380cd24836a54472b2ab6ca6", func := "nestbox/nestboxlaw05.CellsPlay", spec := "cellsPlay", inPlace := ["sync/atomic.StoreUint64", "sync/atomic.LoadUint64"], unfollowed := true, recurses := true, apart := false, narrowed := true }
def CellsPlayUptoSaid : Prop := cellsPlayUptoRow.holds Try.pinned (OpenSpec.upto cellsPlaySpec)

end Rows
end Go.Proofs.Yteofbgbjibbdaaa
