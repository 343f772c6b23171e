/-
  No cell of these rows narrows 'for every input' (looked for: loops, veiled, ifaces, maps, wideKeys, modest, calm, conditions, laid).
  DERIVED. THE GIVEN ROWS OF THIS SEAT. 11 by the template 'for every input the law returns true; each argument reads behind the call as it read before'; 0 by the template 'total and deterministic' (their statements: YtbfokakglanbdaaTotals.lean).
  GIVEN WITH THE SEED: the statements are not yours to turn. If you find one false, say at which input.
  Laid BY PROGRAM, IN A SANDBOX (cutbox-rows.mjs): the forced cells as the released guide's own fill.sh prints them over the translation a5ba993b911a174a… (all of the seat's roots in one cut). By AI agents, Wed Nov 11 2026. No macro, syntax, notation, axiom, sorry.
-/
import Derived.Test.YtbfokakglanbdaaChecked
import GoSem.Claim
import GoSem.ClaimJoined
import GoSem.ClaimMapViews
import Derived.JoinedTies
import Derived.KernelRfl
namespace Go.Proofs.Ytbfokakglanbdaa
/- THE CELL 'sum', in the pinned program and in every row, IS THE sha256 OF THE DUMP (.gsa) THAT YtbfokakglanbdaaProg.lean LOADS. Nothing in Lean hashes anything: it is a label: what it is worth is what the hold of that sum in a sandbox is worth. -/
noncomputable def Try.pinned : Pinned := { name := "ytbfokakglanbdaa", sum := "a5ba993b911a174a9ddc2f2bd2d5340c40db97b4265864edd3841053caf9b1ae", checked := Try.checked }
namespace Rows
def none {H : Type} : Left H := { results := [], args := [] }

/-- 'nestboxlaw01.FnvsHash': WHATEVER THE INPUT: true; the input reads as it did. -/
def fnvsHashSpec : ChangeSpec := { name := "fnvsHash", fn := fun _ => fun
  | [d1, d2] => { results := [.lit (.bool true)], args := [d1, d2] }
  | _ => none }
def fnvsHashRow : OpenClaim := { program := "ytbfokakglanbdaa", sum := "a5ba993b911a174a9ddc2f2bd2d5340c40db97b4265864edd3841053caf9b1ae", func := "nestbox/nestboxlaw01.FnvsHash", spec := "fnvsHash", unfollowed := true, recurses := true, apart := false }
def FnvsHashSaid : Prop := fnvsHashRow.holds Try.pinned (OpenSpec.ofChange fnvsHashSpec)

/-- ITS FALSE NEIGHBOUR: 'it returns false'. Refute it at one input. -/
def fnvsHashWrong : ChangeSpec := { name := "fnvsHash", fn := fun _ => fun
  | [d1, d2] => { results := [.lit (.bool false)], args := [d1, d2] }
  | _ => none }
def FnvsHashWrongFalsely : Prop := fnvsHashRow.holds Try.pinned (OpenSpec.ofChange fnvsHashWrong)

/-- 'nestboxlaw01.FnvsPlace': WHATEVER THE INPUT: true; the input reads as it did. -/
def fnvsPlaceSpec : ChangeSpec := { name := "fnvsPlace", fn := fun _ => fun
  | [d1, d2, d3] => { results := [.lit (.bool true)], args := [d1, d2, d3] }
  | _ => none }
def fnvsPlaceRow : OpenClaim := { program := "ytbfokakglanbdaa", sum := "a5ba993b911a174a9ddc2f2bd2d5340c40db97b4265864edd3841053caf9b1ae", func := "nestbox/nestboxlaw01.FnvsPlace", spec := "fnvsPlace", unfollowed := true, recurses := true, apart := false }
def FnvsPlaceSaid : Prop := fnvsPlaceRow.holds Try.pinned (OpenSpec.ofChange fnvsPlaceSpec)

/-- ITS FALSE NEIGHBOUR: 'it returns false'. Refute it at one input. -/
def fnvsPlaceWrong : ChangeSpec := { name := "fnvsPlace", fn := fun _ => fun
  | [d1, d2, d3] => { results := [.lit (.bool false)], args := [d1, d2, d3] }
  | _ => none }
def FnvsPlaceWrongFalsely : Prop := fnvsPlaceRow.holds Try.pinned (OpenSpec.ofChange fnvsPlaceWrong)

/-- 'nestboxlaw01.FnvsBack': WHATEVER THE INPUT: true; the input reads as it did. -/
def fnvsBackSpec : ChangeSpec := { name := "fnvsBack", fn := fun _ => fun
  | [d1, d2, d3] => { results := [.lit (.bool true)], args := [d1, d2, d3] }
  | _ => none }
def fnvsBackRow : OpenClaim := { program := "ytbfokakglanbdaa", sum := "a5ba993b911a174a9ddc2f2bd2d5340c40db97b4265864edd3841053caf9b1ae", func := "nestbox/nestboxlaw01.FnvsBack", spec := "fnvsBack", unfollowed := true, recurses := true, apart := false }
def FnvsBackSaid : Prop := fnvsBackRow.holds Try.pinned (OpenSpec.ofChange fnvsBackSpec)

/-- ITS FALSE NEIGHBOUR: 'it returns false'. Refute it at one input. -/
def fnvsBackWrong : ChangeSpec := { name := "fnvsBack", fn := fun _ => fun
  | [d1, d2, d3] => { results := [.lit (.bool false)], args := [d1, d2, d3] }
  | _ => none }
def FnvsBackWrongFalsely : Prop := fnvsBackRow.holds Try.pinned (OpenSpec.ofChange fnvsBackWrong)

/-- 'nestboxlaw01.FnvsGrow': WHATEVER THE INPUT: true; the input reads as it did. -/
def fnvsGrowSpec : ChangeSpec := { name := "fnvsGrow", fn := fun _ => fun
  | [d1, d2] => { results := [.lit (.bool true)], args := [d1, d2] }
  | _ => none }
def fnvsGrowRow : OpenClaim := { program := "ytbfokakglanbdaa", sum := "a5ba993b911a174a9ddc2f2bd2d5340c40db97b4265864edd3841053caf9b1ae", func := "nestbox/nestboxlaw01.FnvsGrow", spec := "fnvsGrow", unfollowed := true, recurses := true, apart := false }
def FnvsGrowSaid : Prop := fnvsGrowRow.holds Try.pinned (OpenSpec.ofChange fnvsGrowSpec)

/-- ITS FALSE NEIGHBOUR: 'it returns false'. Refute it at one input. -/
def fnvsGrowWrong : ChangeSpec := { name := "fnvsGrow", fn := fun _ => fun
  | [d1, d2] => { results := [.lit (.bool false)], args := [d1, d2] }
  | _ => none }
def FnvsGrowWrongFalsely : Prop := fnvsGrowRow.holds Try.pinned (OpenSpec.ofChange fnvsGrowWrong)

/-- 'nestboxlaw01.FnvsBytes': WHATEVER THE INPUT: true; the input reads as it did. -/
def fnvsBytesSpec : ChangeSpec := { name := "fnvsBytes", fn := fun _ => fun
  | [d1, d2, d3] => { results := [.lit (.bool true)], args := [d1, d2, d3] }
  | _ => none }
def fnvsBytesRow : OpenClaim := { program := "ytbfokakglanbdaa", sum := "a5ba993b911a174a9ddc2f2bd2d5340c40db97b4265864edd3841053caf9b1ae", func := "nestbox/nestboxlaw01.FnvsBytes", spec := "fnvsBytes", unfollowed := true, recurses := true, apart := false }
def FnvsBytesSaid : Prop := fnvsBytesRow.holds Try.pinned (OpenSpec.ofChange fnvsBytesSpec)

/-- ITS FALSE NEIGHBOUR: 'it returns false'. Refute it at one input. -/
def fnvsBytesWrong : ChangeSpec := { name := "fnvsBytes", fn := fun _ => fun
  | [d1, d2, d3] => { results := [.lit (.bool false)], args := [d1, d2, d3] }
  | _ => none }
def FnvsBytesWrongFalsely : Prop := fnvsBytesRow.holds Try.pinned (OpenSpec.ofChange fnvsBytesWrong)

/-- 'nestboxlaw01.FnvsStripes': WHATEVER THE INPUT: true; the input reads as it did. -/
def fnvsStripesSpec : ChangeSpec := { name := "fnvsStripes", fn := fun _ => fun
  | [d1, d2] => { results := [.lit (.bool true)], args := [d1, d2] }
  | _ => none }
def fnvsStripesRow : OpenClaim := { program := "ytbfokakglanbdaa", sum := "a5ba993b911a174a9ddc2f2bd2d5340c40db97b4265864edd3841053caf9b1ae", func := "nestbox/nestboxlaw01.FnvsStripes", spec := "fnvsStripes", unfollowed := true, recurses := true, apart := false }
def FnvsStripesSaid : Prop := fnvsStripesRow.holds Try.pinned (OpenSpec.ofChange fnvsStripesSpec)

/-- ITS FALSE NEIGHBOUR: 'it returns false'. Refute it at one input. -/
def fnvsStripesWrong : ChangeSpec := { name := "fnvsStripes", fn := fun _ => fun
  | [d1, d2] => { results := [.lit (.bool false)], args := [d1, d2] }
  | _ => none }
def FnvsStripesWrongFalsely : Prop := fnvsStripesRow.holds Try.pinned (OpenSpec.ofChange fnvsStripesWrong)

/-- 'nestboxlaw02.TagwordsSlot': WHATEVER THE INPUT: true; the input reads as it did. -/
def tagwordsSlotSpec : ChangeSpec := { name := "tagwordsSlot", fn := fun _ => fun
  | [d1, d2, d3] => { results := [.lit (.bool true)], args := [d1, d2, d3] }
  | _ => none }
def tagwordsSlotRow : OpenClaim := { program := "ytbfokakglanbdaa", sum := "a5ba993b911a174a9ddc2f2bd2d5340c40db97b4265864edd3841053caf9b1ae", func := "nestbox/nestboxlaw02.TagwordsSlot", spec := "tagwordsSlot", apart := false }
def TagwordsSlotSaid : Prop := tagwordsSlotRow.holds Try.pinned (OpenSpec.ofChange tagwordsSlotSpec)

/-- ITS FALSE NEIGHBOUR: 'it returns false'. Refute it at one input. -/
def tagwordsSlotWrong : ChangeSpec := { name := "tagwordsSlot", fn := fun _ => fun
  | [d1, d2, d3] => { results := [.lit (.bool false)], args := [d1, d2, d3] }
  | _ => none }
def TagwordsSlotWrongFalsely : Prop := tagwordsSlotRow.holds Try.pinned (OpenSpec.ofChange tagwordsSlotWrong)

/-- 'nestboxlaw02.TagwordsFind': WHATEVER THE INPUT: true; the input reads as it did. -/
def tagwordsFindSpec : ChangeSpec := { name := "tagwordsFind", fn := fun _ => fun
  | [d1, d2] => { results := [.lit (.bool true)], args := [d1, d2] }
  | _ => none }
def tagwordsFindRow : OpenClaim := { program := "ytbfokakglanbdaa", sum := "a5ba993b911a174a9ddc2f2bd2d5340c40db97b4265864edd3841053caf9b1ae", func := "nestbox/nestboxlaw02.TagwordsFind", spec := "tagwordsFind", apart := false }
def TagwordsFindSaid : Prop := tagwordsFindRow.holds Try.pinned (OpenSpec.ofChange tagwordsFindSpec)

/-- ITS FALSE NEIGHBOUR: 'it returns false'. Refute it at one input. -/
def tagwordsFindWrong : ChangeSpec := { name := "tagwordsFind", fn := fun _ => fun
  | [d1, d2] => { results := [.lit (.bool false)], args := [d1, d2] }
  | _ => none }
def TagwordsFindWrongFalsely : Prop := tagwordsFindRow.holds Try.pinned (OpenSpec.ofChange tagwordsFindWrong)

/-- 'nestboxlaw02.TagwordsWith': WHATEVER THE INPUT: true; the input reads as it did. -/
def tagwordsWithSpec : ChangeSpec := { name := "tagwordsWith", fn := fun _ => fun
  | [d1, d2, d3] => { results := [.lit (.bool true)], args := [d1, d2, d3] }
  | _ => none }
def tagwordsWithRow : OpenClaim := { program := "ytbfokakglanbdaa", sum := "a5ba993b911a174a9ddc2f2bd2d5340c40db97b4265864edd3841053caf9b1ae", func := "nestbox/nestboxlaw02.TagwordsWith", spec := "tagwordsWith", apart := false }
def TagwordsWithSaid : Prop := tagwordsWithRow.holds Try.pinned (OpenSpec.ofChange tagwordsWithSpec)

/-- ITS FALSE NEIGHBOUR: 'it returns false'. Refute it at one input. -/
def tagwordsWithWrong : ChangeSpec := { name := "tagwordsWith", fn := fun _ => fun
  | [d1, d2, d3] => { results := [.lit (.bool false)], args := [d1, d2, d3] }
  | _ => none }
def TagwordsWithWrongFalsely : Prop := tagwordsWithRow.holds Try.pinned (OpenSpec.ofChange tagwordsWithWrong)

/-- 'nestboxlaw02.TagwordsParts': WHATEVER THE INPUT: true; the input reads as it did. -/
def tagwordsPartsSpec : ChangeSpec := { name := "tagwordsParts", fn := fun _ => fun
  | [d1, d2] => { results := [.lit (.bool true)], args := [d1, d2] }
  | _ => none }
def tagwordsPartsRow : OpenClaim := { program := "ytbfokakglanbdaa", sum := "a5ba993b911a174a9ddc2f2bd2d5340c40db97b4265864edd3841053caf9b1ae", func := "nestbox/nestboxlaw02.TagwordsParts", spec := "tagwordsParts", apart := false }
def TagwordsPartsSaid : Prop := tagwordsPartsRow.holds Try.pinned (OpenSpec.ofChange tagwordsPartsSpec)

/-- ITS FALSE NEIGHBOUR: 'it returns false'. Refute it at one input. -/
def tagwordsPartsWrong : ChangeSpec := { name := "tagwordsParts", fn := fun _ => fun
  | [d1, d2] => { results := [.lit (.bool false)], args := [d1, d2] }
  | _ => none }
def TagwordsPartsWrongFalsely : Prop := tagwordsPartsRow.holds Try.pinned (OpenSpec.ofChange tagwordsPartsWrong)

/-- 'nestboxlaw02.TagwordsLow': WHATEVER THE INPUT: true; the input reads as it did. -/
def tagwordsLowSpec : ChangeSpec := { name := "tagwordsLow", fn := fun _ => fun
  | [d1, d2, d3] => { results := [.lit (.bool true)], args := [d1, d2, d3] }
  | _ => none }
def tagwordsLowRow : OpenClaim := { program := "ytbfokakglanbdaa", sum := "a5ba993b911a174a9ddc2f2bd2d5340c40db97b4265864edd3841053caf9b1ae", func := "nestbox/nestboxlaw02.TagwordsLow", spec := "tagwordsLow", apart := false }
def TagwordsLowSaid : Prop := tagwordsLowRow.holds Try.pinned (OpenSpec.ofChange tagwordsLowSpec)

/-- ITS FALSE NEIGHBOUR: 'it returns false'. Refute it at one input. -/
def tagwordsLowWrong : ChangeSpec := { name := "tagwordsLow", fn := fun _ => fun
  | [d1, d2, d3] => { results := [.lit (.bool false)], args := [d1, d2, d3] }
  | _ => none }
def TagwordsLowWrongFalsely : Prop := tagwordsLowRow.holds Try.pinned (OpenSpec.ofChange tagwordsLowWrong)

/- THE SECOND FORM. 'bulk': how many values and letters a reading holds, each counted each time it is reached (what is shared counts as often as it is met; a slice's spare places count too). A statement '..UptoSaid' is the law's where the arguments, and the package variables that the reading takes, are together of bulk at most 1048576: NARROWER than '..Said'. Prove '..Said' where nothing that the law and all that it calls make is longer than what came in: it says more and counts as full. Else prove '..UptoSaid'. A law counts once. -/
mutual
def uptoBulk {H : Type} : DataW H → Nat
  | .lit (.string bytes) => bytes.length + 1
  | .lit _ => 1
  | .nil => 1
  | .ptr d => uptoBulk d + 1
  | .slice elems spare => uptoBulkAll elems + uptoBulkAll spare + 1
  | .agg parts => uptoBulkAll parts + 1
  | .iface _ d => uptoBulk d + 1
  | .map entries => uptoBulkEntries entries + 1
  | .held _ => 1
def uptoBulkAll {H : Type} : List (DataW H) → Nat
  | [] => 0
  | d :: r => uptoBulk d + uptoBulkAll r
def uptoBulkEntries {H : Type} : List (Lit × DataW H) → Nat
  | [] => 0
  | x :: r => uptoBulkEntry x + uptoBulkEntries r
def uptoBulkEntry {H : Type} : Lit × DataW H → Nat
  | (.string bytes, d) => bytes.length + uptoBulk d + 1
  | (_, d) => uptoBulk d + 1
 end
def uptoSmall : (H : Type) → List (DataW H) → Bool := fun _ ds => decide (uptoBulkAll ds ≤ 1048576)
def OpenSpec.upto (s : _root_.Go.ChangeSpec) : _root_.Go.OpenSpec := { _root_.Go.OpenSpec.ofChange s with cond := some uptoSmall }

/-- 'nestboxlaw01.FnvsHash', WHERE WHAT IT READS IS OF BULK AT MOST 1048576: true; the input reads as it did. -/
def fnvsHashUptoRow : OpenClaim := { program := "ytbfokakglanbdaa", sum := "a5ba993b911a174a9ddc2f2bd2d5340c40db97b4265864edd3841053caf9b1ae", func := "nestbox/nestboxlaw01.FnvsHash", spec := "fnvsHash", unfollowed := true, recurses := true, apart := false, narrowed := true }
def FnvsHashUptoSaid : Prop := fnvsHashUptoRow.holds Try.pinned (OpenSpec.upto fnvsHashSpec)

/-- 'nestboxlaw01.FnvsPlace', WHERE WHAT IT READS IS OF BULK AT MOST 1048576: true; the input reads as it did. -/
def fnvsPlaceUptoRow : OpenClaim := { program := "ytbfokakglanbdaa", sum := "a5ba993b911a174a9ddc2f2bd2d5340c40db97b4265864edd3841053caf9b1ae", func := "nestbox/nestboxlaw01.FnvsPlace", spec := "fnvsPlace", unfollowed := true, recurses := true, apart := false, narrowed := true }
def FnvsPlaceUptoSaid : Prop := fnvsPlaceUptoRow.holds Try.pinned (OpenSpec.upto fnvsPlaceSpec)

/-- 'nestboxlaw01.FnvsBack', WHERE WHAT IT READS IS OF BULK AT MOST 1048576: true; the input reads as it did. -/
def fnvsBackUptoRow : OpenClaim := { program := "ytbfokakglanbdaa", sum := "a5ba993b911a174a9ddc2f2bd2d5340c40db97b4265864edd3841053caf9b1ae", func := "nestbox/nestboxlaw01.FnvsBack", spec := "fnvsBack", unfollowed := true, recurses := true, apart := false, narrowed := true }
def FnvsBackUptoSaid : Prop := fnvsBackUptoRow.holds Try.pinned (OpenSpec.upto fnvsBackSpec)

/-- 'nestboxlaw01.FnvsGrow', WHERE WHAT IT READS IS OF BULK AT MOST 1048576: true; the input reads as it did. -/
def fnvsGrowUptoRow : OpenClaim := { program := "ytbfokakglanbdaa", sum := "a5ba993b911a174a9ddc2f2bd2d5340c40db97b4265864edd3841053caf9b1ae", func := "nestbox/nestboxlaw01.FnvsGrow", spec := "fnvsGrow", unfollowed := true, recurses := true, apart := false, narrowed := true }
def FnvsGrowUptoSaid : Prop := fnvsGrowUptoRow.holds Try.pinned (OpenSpec.upto fnvsGrowSpec)

/-- 'nestboxlaw01.FnvsBytes', WHERE WHAT IT READS IS OF BULK AT MOST 1048576: true; the input reads as it did. -/
def fnvsBytesUptoRow : OpenClaim := { program := "ytbfokakglanbdaa", sum := "a5ba993b911a174a9ddc2f2bd2d5340c40db97b4265864edd3841053caf9b1ae", func := "nestbox/nestboxlaw01.FnvsBytes", spec := "fnvsBytes", unfollowed := true, recurses := true, apart := false, narrowed := true }
def FnvsBytesUptoSaid : Prop := fnvsBytesUptoRow.holds Try.pinned (OpenSpec.upto fnvsBytesSpec)

/-- 'nestboxlaw01.FnvsStripes', WHERE WHAT IT READS IS OF BULK AT MOST 1048576: true; the input reads as it did. -/
def fnvsStripesUptoRow : OpenClaim := { program := "ytbfokakglanbdaa", sum := "a5ba993b911a174a9ddc2f2bd2d5340c40db97b4265864edd3841053caf9b1ae", func := "nestbox/nestboxlaw01.FnvsStripes", spec := "fnvsStripes", unfollowed := true, recurses := true, apart := false, narrowed := true }
def FnvsStripesUptoSaid : Prop := fnvsStripesUptoRow.holds Try.pinned (OpenSpec.upto fnvsStripesSpec)

/-- 'nestboxlaw02.TagwordsSlot', WHERE WHAT IT READS IS OF BULK AT MOST 1048576: true; the input reads as it did. -/
def tagwordsSlotUptoRow : OpenClaim := { program := "ytbfokakglanbdaa", sum := "a5ba993b911a174a9ddc2f2bd2d5340c40db97b4265864edd3841053caf9b1ae", func := "nestbox/nestboxlaw02.TagwordsSlot", spec := "tagwordsSlot", apart := false, narrowed := true }
def TagwordsSlotUptoSaid : Prop := tagwordsSlotUptoRow.holds Try.pinned (OpenSpec.upto tagwordsSlotSpec)

/-- 'nestboxlaw02.TagwordsFind', WHERE WHAT IT READS IS OF BULK AT MOST 1048576: true; the input reads as it did. -/
def tagwordsFindUptoRow : OpenClaim := { program := "ytbfokakglanbdaa", sum := "a5ba993b911a174a9ddc2f2bd2d5340c40db97b4265864edd3841053caf9b1ae", func := "nestbox/nestboxlaw02.TagwordsFind", spec := "tagwordsFind", apart := false, narrowed := true }
def TagwordsFindUptoSaid : Prop := tagwordsFindUptoRow.holds Try.pinned (OpenSpec.upto tagwordsFindSpec)

/-- 'nestboxlaw02.TagwordsWith', WHERE WHAT IT READS IS OF BULK AT MOST 1048576: true; the input reads as it did. -/
def tagwordsWithUptoRow : OpenClaim := { program := "ytbfokakglanbdaa", sum := "a5ba993b911a174a9ddc2f2bd2d5340c40db97b4265864edd3841053caf9b1ae", func := "nestbox/nestboxlaw02.TagwordsWith", spec := "tagwordsWith", apart := false, narrowed := true }
def TagwordsWithUptoSaid : Prop := tagwordsWithUptoRow.holds Try.pinned (OpenSpec.upto tagwordsWithSpec)

/-- 'nestboxlaw02.TagwordsParts', WHERE WHAT IT READS IS OF BULK AT MOST 1048576: true; the input reads as it did. -/
def tagwordsPartsUptoRow : OpenClaim := { program := "ytbfokakglanbdaa", sum := "a5ba993b911a174a9ddc2f2bd2d5340c40db97b4265864edd3841053caf9b1ae", func := "nestbox/nestboxlaw02.TagwordsParts", spec := "tagwordsParts", apart := false, narrowed := true }
def TagwordsPartsUptoSaid : Prop := tagwordsPartsUptoRow.holds Try.pinned (OpenSpec.upto tagwordsPartsSpec)

/-- 'nestboxlaw02.TagwordsLow', WHERE WHAT IT READS IS OF BULK AT MOST 1048576: true; the input reads as it did. -/
def tagwordsLowUptoRow : OpenClaim := { program := "ytbfokakglanbdaa", sum := "a5ba993b911a174a9ddc2f2bd2d5340c40db97b4265864edd3841053caf9b1ae", func := "nestbox/nestboxlaw02.TagwordsLow", spec := "tagwordsLow", apart := false, narrowed := true }
def TagwordsLowUptoSaid : Prop := tagwordsLowUptoRow.holds Try.pinned (OpenSpec.upto tagwordsLowSpec)

end Rows
end Go.Proofs.Ytbfokakglanbdaa
