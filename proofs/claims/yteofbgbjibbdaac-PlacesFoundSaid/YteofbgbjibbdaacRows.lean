/-
  No cell of these rows narrows 'for every input' (looked for: loops, veiled, ifaces, maps, wideKeys, modest, calm, conditions, laid).
  DERIVED. THE GIVEN ROWS OF THIS SEAT. 12 by the template 'for every input the law returns true; each argument reads behind the call as it read before'; 0 by the template 'total and deterministic' (their statements: YteofbgbjibbdaacTotals.lean).
  GIVEN WITH THE SEED: the statements are not yours to turn. If you find one false, say at which input.
  Laid BY PROGRAM, IN A SANDBOX (cutbox-rows.mjs): the forced cells as the released guide's own fill.sh prints them over the translation 589daafda4e9eb3e… (all of the seat's roots in one cut). By AI agents, Wed Nov 11 2026. No macro, syntax, notation, axiom, sorry.
-/
import Derived.Test.YteofbgbjibbdaacChecked
import GoSem.Claim
import GoSem.ClaimJoined
import GoSem.ClaimMapViews
import Derived.JoinedTies
import Derived.KernelRfl
namespace Go.Proofs.Yteofbgbjibbdaac
/- THE CELL 'sum', in the pinned program and in every row, IS THE sha256 OF THE DUMP (.gsa) THAT YteofbgbjibbdaacProg.lean LOADS. Nothing in Lean hashes anything: it is a label: what it is worth is what the hold of that sum in a sandbox is worth. -/
noncomputable def Try.pinned : Pinned := { name := "yteofbgbjibbdaac", sum := "589daafda4e9eb3eed1d4d4baa2d79ed48ebd646548432e7ba548d1a9e454d65", checked := Try.checked }
namespace Rows
def none {H : Type} : Left H := { results := [], args := [] }

/-- 'nestboxlaw07.EpochsStored': WHATEVER THE INPUT: true; the input reads as it did. -/
def epochsStoredSpec : ChangeSpec := { name := "epochsStored", fn := fun _ => fun
  | [d1, d2] => { results := [.lit (.bool true)], args := [d1, d2] }
  | _ => none }
def epochsStoredRow : OpenClaim := { program := "yteofbgbjibbdaac", sum := "589daafda4e9eb3eed1d4d4baa2d79ed48ebd646548432e7ba548d1a9e454d65", func := "nestbox/nestboxlaw07.EpochsStored", spec := "epochsStored", apart := false }
def EpochsStoredSaid : Prop := epochsStoredRow.holds Try.pinned (OpenSpec.ofChange epochsStoredSpec)

/-- ITS FALSE NEIGHBOUR: 'it returns false'. Refute it at one input. -/
def epochsStoredWrong : ChangeSpec := { name := "epochsStored", fn := fun _ => fun
  | [d1, d2] => { results := [.lit (.bool false)], args := [d1, d2] }
  | _ => none }
def EpochsStoredWrongFalsely : Prop := epochsStoredRow.holds Try.pinned (OpenSpec.ofChange epochsStoredWrong)

/-- 'nestboxlaw07.EpochsDelay': WHATEVER THE INPUT: true; the input reads as it did. -/
def epochsDelaySpec : ChangeSpec := { name := "epochsDelay", fn := fun _ => fun
  | [d1, d2, d3] => { results := [.lit (.bool true)], args := [d1, d2, d3] }
  | _ => none }
def epochsDelayRow : OpenClaim := { program := "yteofbgbjibbdaac", sum := "589daafda4e9eb3eed1d4d4baa2d79ed48ebd646548432e7ba548d1a9e454d65", func := "nestbox/nestboxlaw07.EpochsDelay", spec := "epochsDelay", apart := false }
def EpochsDelaySaid : Prop := epochsDelayRow.holds Try.pinned (OpenSpec.ofChange epochsDelaySpec)

/-- ITS FALSE NEIGHBOUR: 'it returns false'. Refute it at one input. -/
def epochsDelayWrong : ChangeSpec := { name := "epochsDelay", fn := fun _ => fun
  | [d1, d2, d3] => { results := [.lit (.bool false)], args := [d1, d2, d3] }
  | _ => none }
def EpochsDelayWrongFalsely : Prop := epochsDelayRow.holds Try.pinned (OpenSpec.ofChange epochsDelayWrong)

/-- 'nestboxlaw08.PlacesAddr': WHATEVER THE INPUT: true; the input reads as it did. -/
def placesAddrSpec : ChangeSpec := { name := "placesAddr", fn := fun _ => fun
  | [d1, d2] => { results := [.lit (.bool true)], args := [d1, d2] }
  | _ => none }
def placesAddrRow : OpenClaim := { program := "yteofbgbjibbdaac", sum := "589daafda4e9eb3eed1d4d4baa2d79ed48ebd646548432e7ba548d1a9e454d65", func := "nestbox/nestboxlaw08.PlacesAddr", spec := "placesAddr", apart := false }
def PlacesAddrSaid : Prop := placesAddrRow.holds Try.pinned (OpenSpec.ofChange placesAddrSpec)

/-- ITS FALSE NEIGHBOUR: 'it returns false'. Refute it at one input. -/
def placesAddrWrong : ChangeSpec := { name := "placesAddr", fn := fun _ => fun
  | [d1, d2] => { results := [.lit (.bool false)], args := [d1, d2] }
  | _ => none }
def PlacesAddrWrongFalsely : Prop := placesAddrRow.holds Try.pinned (OpenSpec.ofChange placesAddrWrong)

/-- 'nestboxlaw08.PlacesWord': WHATEVER THE INPUT: true; the input reads as it did. -/
def placesWordSpec : ChangeSpec := { name := "placesWord", fn := fun _ => fun
  | [d1, d2, d3] => { results := [.lit (.bool true)], args := [d1, d2, d3] }
  | _ => none }
def placesWordRow : OpenClaim := { program := "yteofbgbjibbdaac", sum := "589daafda4e9eb3eed1d4d4baa2d79ed48ebd646548432e7ba548d1a9e454d65", func := "nestbox/nestboxlaw08.PlacesWord", spec := "placesWord", apart := false }
def PlacesWordSaid : Prop := placesWordRow.holds Try.pinned (OpenSpec.ofChange placesWordSpec)

/-- ITS FALSE NEIGHBOUR: 'it returns false'. Refute it at one input. -/
def placesWordWrong : ChangeSpec := { name := "placesWord", fn := fun _ => fun
  | [d1, d2, d3] => { results := [.lit (.bool false)], args := [d1, d2, d3] }
  | _ => none }
def PlacesWordWrongFalsely : Prop := placesWordRow.holds Try.pinned (OpenSpec.ofChange placesWordWrong)

/-- 'nestboxlaw08.PlacesOf': WHATEVER THE INPUT: true; the input reads as it did. -/
def placesOfSpec : ChangeSpec := { name := "placesOf", fn := fun _ => fun
  | [d1, d2] => { results := [.lit (.bool true)], args := [d1, d2] }
  | _ => none }
def placesOfRow : OpenClaim := { program := "yteofbgbjibbdaac", sum := "589daafda4e9eb3eed1d4d4baa2d79ed48ebd646548432e7ba548d1a9e454d65", func := "nestbox/nestboxlaw08.PlacesOf", spec := "placesOf", apart := false }
def PlacesOfSaid : Prop := placesOfRow.holds Try.pinned (OpenSpec.ofChange placesOfSpec)

/-- ITS FALSE NEIGHBOUR: 'it returns false'. Refute it at one input. -/
def placesOfWrong : ChangeSpec := { name := "placesOf", fn := fun _ => fun
  | [d1, d2] => { results := [.lit (.bool false)], args := [d1, d2] }
  | _ => none }
def PlacesOfWrongFalsely : Prop := placesOfRow.holds Try.pinned (OpenSpec.ofChange placesOfWrong)

/-- 'nestboxlaw08.PlacesApart': WHATEVER THE INPUT: true; the input reads as it did. -/
def placesApartSpec : ChangeSpec := { name := "placesApart", fn := fun _ => fun
  | [d1, d2, d3] => { results := [.lit (.bool true)], args := [d1, d2, d3] }
  | _ => none }
def placesApartRow : OpenClaim := { program := "yteofbgbjibbdaac", sum := "589daafda4e9eb3eed1d4d4baa2d79ed48ebd646548432e7ba548d1a9e454d65", func := "nestbox/nestboxlaw08.PlacesApart", spec := "placesApart", apart := false }
def PlacesApartSaid : Prop := placesApartRow.holds Try.pinned (OpenSpec.ofChange placesApartSpec)

/-- ITS FALSE NEIGHBOUR: 'it returns false'. Refute it at one input. -/
def placesApartWrong : ChangeSpec := { name := "placesApart", fn := fun _ => fun
  | [d1, d2, d3] => { results := [.lit (.bool false)], args := [d1, d2, d3] }
  | _ => none }
def PlacesApartWrongFalsely : Prop := placesApartRow.holds Try.pinned (OpenSpec.ofChange placesApartWrong)

/-- 'nestboxlaw08.PlacesOnce': WHATEVER THE INPUT: true; the input reads as it did. -/
def placesOnceSpec : ChangeSpec := { name := "placesOnce", fn := fun _ => fun
  | [d1, d2, d3] => { results := [.lit (.bool true)], args := [d1, d2, d3] }
  | _ => none }
def placesOnceRow : OpenClaim := { program := "yteofbgbjibbdaac", sum := "589daafda4e9eb3eed1d4d4baa2d79ed48ebd646548432e7ba548d1a9e454d65", func := "nestbox/nestboxlaw08.PlacesOnce", spec := "placesOnce", apart := false }
def PlacesOnceSaid : Prop := placesOnceRow.holds Try.pinned (OpenSpec.ofChange placesOnceSpec)

/-- ITS FALSE NEIGHBOUR: 'it returns false'. Refute it at one input. -/
def placesOnceWrong : ChangeSpec := { name := "placesOnce", fn := fun _ => fun
  | [d1, d2, d3] => { results := [.lit (.bool false)], args := [d1, d2, d3] }
  | _ => none }
def PlacesOnceWrongFalsely : Prop := placesOnceRow.holds Try.pinned (OpenSpec.ofChange placesOnceWrong)

/-- 'nestboxlaw08.PlacesFound': WHATEVER THE INPUT: true; the input reads as it did. -/
def placesFoundSpec : ChangeSpec := { name := "placesFound", fn := fun _ => fun
  | [d1, d2, d3] => { results := [.lit (.bool true)], args := [d1, d2, d3] }
  | _ => none }
def placesFoundRow : OpenClaim := { program := "yteofbgbjibbdaac", sum := "589daafda4e9eb3eed1d4d4baa2d79ed48ebd646548432e7ba548d1a9e454d65", func := "nestbox/nestboxlaw08.PlacesFound", spec := "placesFound", unfollowed := true, recurses := true, apart := false }
def PlacesFoundSaid : Prop := placesFoundRow.holds Try.pinned (OpenSpec.ofChange placesFoundSpec)

/-- ITS FALSE NEIGHBOUR: 'it returns false'. Refute it at one input. -/
def placesFoundWrong : ChangeSpec := { name := "placesFound", fn := fun _ => fun
  | [d1, d2, d3] => { results := [.lit (.bool false)], args := [d1, d2, d3] }
  | _ => none }
def PlacesFoundWrongFalsely : Prop := placesFoundRow.holds Try.pinned (OpenSpec.ofChange placesFoundWrong)

/-- 'nestboxlaw08.PlacesMay': WHATEVER THE INPUT: true; the input reads as it did. -/
def placesMaySpec : ChangeSpec := { name := "placesMay", fn := fun _ => fun
  | [d1, d2, d3] => { results := [.lit (.bool true)], args := [d1, d2, d3] }
  | _ => none }
def placesMayRow : OpenClaim := { program := "yteofbgbjibbdaac", sum := "589daafda4e9eb3eed1d4d4baa2d79ed48ebd646548432e7ba548d1a9e454d65", func := "nestbox/nestboxlaw08.PlacesMay", spec := "placesMay", apart := false }
def PlacesMaySaid : Prop := placesMayRow.holds Try.pinned (OpenSpec.ofChange placesMaySpec)

/-- ITS FALSE NEIGHBOUR: 'it returns false'. Refute it at one input. -/
def placesMayWrong : ChangeSpec := { name := "placesMay", fn := fun _ => fun
  | [d1, d2, d3] => { results := [.lit (.bool false)], args := [d1, d2, d3] }
  | _ => none }
def PlacesMayWrongFalsely : Prop := placesMayRow.holds Try.pinned (OpenSpec.ofChange placesMayWrong)

/-- 'nestboxlaw09.NotesPlay': WHATEVER THE INPUT: true; the input reads as it did. -/
def notesPlaySpec : ChangeSpec := { name := "notesPlay", fn := fun _ => fun
  | [d1, d2, d3] => { results := [.lit (.bool true)], args := [d1, d2, d3] }
  | _ => none }
def notesPlayRow : OpenClaim := { program := "yteofbgbjibbdaac", sum := "589daafda4e9eb3eed1d4d4baa2d79ed48ebd646548432e7ba548d1a9e454d65", func := "nestbox/nestboxlaw09.NotesPlay", spec := "notesPlay", unfollowed := true, recurses := true, apart := false }
def NotesPlaySaid : Prop := notesPlayRow.holds Try.pinned (OpenSpec.ofChange notesPlaySpec)

/-- ITS FALSE NEIGHBOUR: 'it returns false'. Refute it at one input. -/
def notesPlayWrong : ChangeSpec := { name := "notesPlay", fn := fun _ => fun
  | [d1, d2, d3] => { results := [.lit (.bool false)], args := [d1, d2, d3] }
  | _ => none }
def NotesPlayWrongFalsely : Prop := notesPlayRow.holds Try.pinned (OpenSpec.ofChange notesPlayWrong)

/-- 'nestboxlaw09.NotesNames': WHATEVER THE INPUT: true; the input reads as it did. -/
def notesNamesSpec : ChangeSpec := { name := "notesNames", fn := fun _ => fun
  | [d1, d2, d3] => { results := [.lit (.bool true)], args := [d1, d2, d3] }
  | _ => none }
def notesNamesRow : OpenClaim := { program := "yteofbgbjibbdaac", sum := "589daafda4e9eb3eed1d4d4baa2d79ed48ebd646548432e7ba548d1a9e454d65", func := "nestbox/nestboxlaw09.NotesNames", spec := "notesNames", unfollowed := true, recurses := true, apart := false }
def NotesNamesSaid : Prop := notesNamesRow.holds Try.pinned (OpenSpec.ofChange notesNamesSpec)

/-- ITS FALSE NEIGHBOUR: 'it returns false'. Refute it at one input. -/
def notesNamesWrong : ChangeSpec := { name := "notesNames", fn := fun _ => fun
  | [d1, d2, d3] => { results := [.lit (.bool false)], args := [d1, d2, d3] }
  | _ => none }
def NotesNamesWrongFalsely : Prop := notesNamesRow.holds Try.pinned (OpenSpec.ofChange notesNamesWrong)

/-- 'nestboxlaw09.NotesStay': WHATEVER THE INPUT: true; the input reads as it did. -/
def notesStaySpec : ChangeSpec := { name := "notesStay", fn := fun _ => fun
  | [d1, d2] => { results := [.lit (.bool true)], args := [d1, d2] }
  | _ => none }
def notesStayRow : OpenClaim := { program := "yteofbgbjibbdaac", sum := "589daafda4e9eb3eed1d4d4baa2d79ed48ebd646548432e7ba548d1a9e454d65", func := "nestbox/nestboxlaw09.NotesStay", spec := "notesStay", unfollowed := true, recurses := true, apart := false }
def NotesStaySaid : Prop := notesStayRow.holds Try.pinned (OpenSpec.ofChange notesStaySpec)

/-- ITS FALSE NEIGHBOUR: 'it returns false'. Refute it at one input. -/
def notesStayWrong : ChangeSpec := { name := "notesStay", fn := fun _ => fun
  | [d1, d2] => { results := [.lit (.bool false)], args := [d1, d2] }
  | _ => none }
def NotesStayWrongFalsely : Prop := notesStayRow.holds Try.pinned (OpenSpec.ofChange notesStayWrong)

/- THE SECOND FORM. 'bulk': how many values and letters a reading holds, each counted each time it is reached (what is shared counts as often as it is met; a slice's spare places count too). A statement '..UptoSaid' is the law's where the arguments, and the package variables that the reading takes, are together of bulk at most 1048576: NARROWER than '..Said'. Prove '..Said' where nothing that the law and all that it calls make is longer than what came in: it says more and counts as full. Else prove '..UptoSaid'. A law counts once. -/
mutual
def uptoBulk {H : Type} : DataW H → Nat
  | .lit (.string bytes) => bytes.length + 1
  | .lit _ => 1
  | .nil => 1
  | .ptr d => uptoBulk d + 1
  | .slice elems spare => uptoBulkAll elems + uptoBulkAll spare + 1
  | .agg parts => uptoBulkAll parts + 1
  | .iface _ d => uptoBulk d + 1
  | .map entries => uptoBulkEntries entries + 1
  | .held _ => 1
def uptoBulkAll {H : Type} : List (DataW H) → Nat
  | [] => 0
  | d :: r => uptoBulk d + uptoBulkAll r
def uptoBulkEntries {H : Type} : List (Lit × DataW H) → Nat
  | [] => 0
  | x :: r => uptoBulkEntry x + uptoBulkEntries r
def uptoBulkEntry {H : Type} : Lit × DataW H → Nat
  | (.string bytes, d) => bytes.length + uptoBulk d + 1
  | (_, d) => uptoBulk d + 1
 end
def uptoSmall : (H : Type) → List (DataW H) → Bool := fun _ ds => decide (uptoBulkAll ds ≤ 1048576)
def OpenSpec.upto (s : _root_.Go.ChangeSpec) : _root_.Go.OpenSpec := { _root_.Go.OpenSpec.ofChange s with cond := some uptoSmall }

/-- 'nestboxlaw07.EpochsStored', WHERE WHAT IT READS IS OF BULK AT MOST 1048576: true; the input reads as it did. -/
def epochsStoredUptoRow : OpenClaim := { program := "yteofbgbjibbdaac", sum := "589daafda4e9eb3eed1d4d4baa2d79ed48ebd646548432e7ba548d1a9e454d65", func := "nestbox/nestboxlaw07.EpochsStored", spec := "epochsStored", apart := false, narrowed := true }
def EpochsStoredUptoSaid : Prop := epochsStoredUptoRow.holds Try.pinned (OpenSpec.upto epochsStoredSpec)

/-- 'nestboxlaw07.EpochsDelay', WHERE WHAT IT READS IS OF BULK AT MOST 1048576: true; the input reads as it did. -/
def epochsDelayUptoRow : OpenClaim := { program := "yteofbgbjibbdaac", sum := "589daafda4e9eb3eed1d4d4baa2d79ed48ebd646548432e7ba548d1a9e454d65", func := "nestbox/nestboxlaw07.EpochsDelay", spec := "epochsDelay", apart := false, narrowed := true }
def EpochsDelayUptoSaid : Prop := epochsDelayUptoRow.holds Try.pinned (OpenSpec.upto epochsDelaySpec)

/-- 'nestboxlaw08.PlacesAddr', WHERE WHAT IT READS IS OF BULK AT MOST 1048576: true; the input reads as it did. -/
def placesAddrUptoRow : OpenClaim := { program := "yteofbgbjibbdaac", sum := "589daafda4e9eb3eed1d4d4baa2d79ed48ebd646548432e7ba548d1a9e454d65", func := "nestbox/nestboxlaw08.PlacesAddr", spec := "placesAddr", apart := false, narrowed := true }
def PlacesAddrUptoSaid : Prop := placesAddrUptoRow.holds Try.pinned (OpenSpec.upto placesAddrSpec)

/-- 'nestboxlaw08.PlacesWord', WHERE WHAT IT READS IS OF BULK AT MOST 1048576: true; the input reads as it did. -/
def placesWordUptoRow : OpenClaim := { program := "yteofbgbjibbdaac", sum := "589daafda4e9eb3eed1d4d4baa2d79ed48ebd646548432e7ba548d1a9e454d65", func := "nestbox/nestboxlaw08.PlacesWord", spec := "placesWord", apart := false, narrowed := true }
def PlacesWordUptoSaid : Prop := placesWordUptoRow.holds Try.pinned (OpenSpec.upto placesWordSpec)

/-- 'nestboxlaw08.PlacesOf', WHERE WHAT IT READS IS OF BULK AT MOST 1048576: true; the input reads as it did. -/
def placesOfUptoRow : OpenClaim := { program := "yteofbgbjibbdaac", sum := "589daafda4e9eb3eed1d4d4baa2d79ed48ebd646548432e7ba548d1a9e454d65", func := "nestbox/nestboxlaw08.PlacesOf", spec := "placesOf", apart := false, narrowed := true }
def PlacesOfUptoSaid : Prop := placesOfUptoRow.holds Try.pinned (OpenSpec.upto placesOfSpec)

/-- 'nestboxlaw08.PlacesApart', WHERE WHAT IT READS IS OF BULK AT MOST 1048576: true; the input reads as it did. -/
def placesApartUptoRow : OpenClaim := { program := "yteofbgbjibbdaac", sum := "589daafda4e9eb3eed1d4d4baa2d79ed48ebd646548432e7ba548d1a9e454d65", func := "nestbox/nestboxlaw08.PlacesApart", spec := "placesApart", apart := false, narrowed := true }
def PlacesApartUptoSaid : Prop := placesApartUptoRow.holds Try.pinned (OpenSpec.upto placesApartSpec)

/-- 'nestboxlaw08.PlacesOnce', WHERE WHAT IT READS IS OF BULK AT MOST 1048576: true; the input reads as it did. -/
def placesOnceUptoRow : OpenClaim := { program := "yteofbgbjibbdaac", sum := "589daafda4e9eb3eed1d4d4baa2d79ed48ebd646548432e7ba548d1a9e454d65", func := "nestbox/nestboxlaw08.PlacesOnce", spec := "placesOnce", apart := false, narrowed := true }
def PlacesOnceUptoSaid : Prop := placesOnceUptoRow.holds Try.pinned (OpenSpec.upto placesOnceSpec)

/-- 'nestboxlaw08.PlacesFound', WHERE WHAT IT READS IS OF BULK AT MOST 1048576: true; the input reads as it did. -/
def placesFoundUptoRow : OpenClaim := { program := "yteofbgbjibbdaac", sum := "589daafda4e9eb3eed1d4d4baa2d79ed48ebd646548432e7ba548d1a9e454d65", func := "nestbox/nestboxlaw08.PlacesFound", spec := "placesFound", unfollowed := true, recurses := true, apart := false, narrowed := true }
def PlacesFoundUptoSaid : Prop := placesFoundUptoRow.holds Try.pinned (OpenSpec.upto placesFoundSpec)

/-- 'nestboxlaw08.PlacesMay', WHERE WHAT IT READS IS OF BULK AT MOST 1048576: true; the input reads as it did. -/
def placesMayUptoRow : OpenClaim := { program := "yteofbgbjibbdaac", sum := "589daafda4e9eb3eed1d4d4baa2d79ed48ebd646548432e7ba548d1a9e454d65", func := "nestbox/nestboxlaw08.PlacesMay", spec := "placesMay", apart := false, narrowed := true }
def PlacesMayUptoSaid : Prop := placesMayUptoRow.holds Try.pinned (OpenSpec.upto placesMaySpec)

/-- 'nestboxlaw09.NotesPlay', WHERE WHAT IT READS IS OF BULK AT MOST 1048576: true; the input reads as it did. -/
def notesPlayUptoRow : OpenClaim := { program := "yteofbgbjibbdaac", sum := "589daafda4e9eb3eed1d4d4baa2d79ed48ebd646548432e7ba548d1a9e454d65", func := "nestbox/nestboxlaw09.NotesPlay", spec := "notesPlay", unfollowed := true, recurses := true, apart := false, narrowed := true }
def NotesPlayUptoSaid : Prop := notesPlayUptoRow.holds Try.pinned (OpenSpec.upto notesPlaySpec)

/-- 'nestboxlaw09.NotesNames', WHERE WHAT IT READS IS OF BULK AT MOST 1048576: true; the input reads as it did. -/
def notesNamesUptoRow : OpenClaim := { program := "yteofbgbjibbdaac", sum := "589daafda4e9eb3eed1d4d4baa2d79ed48ebd646548432e7ba548d1a9e454d65", func := "nestbox/nestboxlaw09.NotesNames", spec := "notesNames", unfollowed := true, recurses := true, apart := false, narrowed := true }
def NotesNamesUptoSaid : Prop := notesNamesUptoRow.holds Try.pinned (OpenSpec.upto notesNamesSpec)

/-- 'nestboxlaw09.NotesStay', WHERE WHAT IT READS IS OF BULK AT MOST 1048576: true; the input reads as it did. -/
def notesStayUptoRow : OpenClaim := { program := "yteofbgbjibbdaac", sum := "589daafda4e9eb3eed1d4d4baa2d79ed48ebd646548432e7ba548d1a9e454d65", func := "nestbox/nestboxlaw09.NotesStay", spec := "notesStay", unfollowed := true, recurses := true, apart := false, narrowed := true }
def NotesStayUptoSaid : Prop := notesStayUptoRow.holds Try.pinned (OpenSpec.upto notesStaySpec)

end Rows
end Go.Proofs.Yteofbgbjibbdaac
