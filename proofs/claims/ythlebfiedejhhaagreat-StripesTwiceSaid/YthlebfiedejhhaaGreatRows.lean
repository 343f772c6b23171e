/-
  No cell of these rows narrows 'for every input' (looked for: loops, veiled, ifaces, maps, wideKeys, modest, calm, conditions, laid).
  DERIVED. THE GIVEN ROWS OF THIS SEAT. 7 by the template 'for every input the law returns true; each argument reads behind the call as it read before'; 0 by the template 'total and deterministic' (their statements: YthlebfiedejhhaaGreatTotals.lean).
  GIVEN WITH THE SEED: the statements are not yours to turn. If you find one false, say at which input.
  Laid BY PROGRAM, IN A SANDBOX (cutbox-rows.mjs): the forced cells as the released guide's own fill.sh prints them over the translation f0dff5ec52b89515… (all of the seat's roots in one cut). By AI agents, Wed Nov 11 2026. No macro, syntax, notation, axiom, sorry.
-/
import Derived.Test.YthlebfiedejhhaaGreatChecked
import GoSem.Claim
import GoSem.ClaimJoined
import GoSem.ClaimMapViews
import Derived.JoinedTies
import Derived.KernelRfl
namespace Go.Proofs.YthlebfiedejhhaaGreat
/- THE CELL 'sum', in the pinned program and in every row, IS THE sha256 OF THE DUMP (.gsa) THAT YthlebfiedejhhaaGreatProg.lean LOADS. Nothing in Lean hashes anything: it is a label: what it is worth is what the hold of that sum in a sandbox is worth. -/
noncomputable def Tryz.pinned : Pinned := { name := "ythlebfiedejhhaagreat", sum := "f0dff5ec52b89515646a53830fa654d4d97d66d1fa21a410c46973766f26430c", checked := Tryz.checked }
namespace Rows
def none {H : Type} : Left H := { results := [], args := [] }

/-- 'nestboxlaw10.WorldsPlay': WHATEVER THE INPUT: true; the input reads as it did. -/
def worldsPlaySpec : ChangeSpec := { name := "worldsPlay", fn := fun _ => fun
  | [d1, d2] => { results := [.lit (.bool true)], args := [d1, d2] }
  | _ => none }
def worldsPlayRow : OpenClaim := { program := "ythlebfiedejhhaagreat", sum := "f0dff5ec52b89515646a53830fa654d4d97d66d1fa21a410c46973766f26430c", func := "nestbox/nestboxlaw10.WorldsPlay", spec := "worldsPlay", inPlace := ["sync/atomic.StoreUint64", "sync/atomic.LoadUint64"], unfollowed := true, recurses := true, apart := false }
def WorldsPlaySaid : Prop := worldsPlayRow.holds Tryz.pinned (OpenSpec.ofChange worldsPlaySpec)

/-- ITS FALSE NEIGHBOUR: 'it returns false'. Refute it at one input. -/
def worldsPlayWrong : ChangeSpec := { name := "worldsPlay", fn := fun _ => fun
  | [d1, d2] => { results := [.lit (.bool false)], args := [d1, d2] }
  | _ => none }
def WorldsPlayWrongFalsely : Prop := worldsPlayRow.holds Tryz.pinned (OpenSpec.ofChange worldsPlayWrong)

/-- 'nestboxlaw11.TicketsPlay': WHATEVER THE INPUT: true; the input reads as it did. -/
def ticketsPlaySpec : ChangeSpec := { name := "ticketsPlay", fn := fun _ => fun
  | [d1, d2] => { results := [.lit (.bool true)], args := [d1, d2] }
  | _ => none }
def ticketsPlayRow : OpenClaim := { program := "ythlebfiedejhhaagreat", sum := "f0dff5ec52b89515646a53830fa654d4d97d66d1fa21a410c46973766f26430c", func := "nestbox/nestboxlaw11.TicketsPlay", spec := "ticketsPlay", inPlace := ["sync/atomic.StoreUint64", "sync/atomic.LoadUint64"], unfollowed := true, recurses := true, apart := false }
def TicketsPlaySaid : Prop := ticketsPlayRow.holds Tryz.pinned (OpenSpec.ofChange ticketsPlaySpec)

/-- ITS FALSE NEIGHBOUR: 'it returns false'. Refute it at one input. -/
def ticketsPlayWrong : ChangeSpec := { name := "ticketsPlay", fn := fun _ => fun
  | [d1, d2] => { results := [.lit (.bool false)], args := [d1, d2] }
  | _ => none }
def TicketsPlayWrongFalsely : Prop := ticketsPlayRow.holds Tryz.pinned (OpenSpec.ofChange ticketsPlayWrong)

/-- 'nestboxlaw12.StripesPlay': WHATEVER THE INPUT: true; the input reads as it did. -/
def stripesPlaySpec : ChangeSpec := { name := "stripesPlay", fn := fun _ => fun
  | [d1, d2] => { results := [.lit (.bool true)], args := [d1, d2] }
  | _ => none }
def stripesPlayRow : OpenClaim := { program := "ythlebfiedejhhaagreat", sum := "f0dff5ec52b89515646a53830fa654d4d97d66d1fa21a410c46973766f26430c", func := "nestbox/nestboxlaw12.StripesPlay", spec := "stripesPlay", inPlace := ["sync/atomic.StoreUint64", "sync/atomic.LoadUint64"], unfollowed := true, recurses := true, apart := false }
def StripesPlaySaid : Prop := stripesPlayRow.holds Tryz.pinned (OpenSpec.ofChange stripesPlaySpec)

/-- ITS FALSE NEIGHBOUR: 'it returns false'. Refute it at one input. -/
def stripesPlayWrong : ChangeSpec := { name := "stripesPlay", fn := fun _ => fun
  | [d1, d2] => { results := [.lit (.bool false)], args := [d1, d2] }
  | _ => none }
def StripesPlayWrongFalsely : Prop := stripesPlayRow.holds Tryz.pinned (OpenSpec.ofChange stripesPlayWrong)

/-- 'nestboxlaw12.StripesTwice': WHATEVER THE INPUT: true; the input reads as it did. -/
def stripesTwiceSpec : ChangeSpec := { name := "stripesTwice", fn := fun _ => fun
  | [d1, d2] => { results := [.lit (.bool true)], args := [d1, d2] }
  | _ => none }
def stripesTwiceRow : OpenClaim := { program := "ythlebfiedejhhaagreat", sum := "f0dff5ec52b89515646a53830fa654d4d97d66d1fa21a410c46973766f26430c", func := "nestbox/nestboxlaw12.StripesTwice", spec := "stripesTwice", inPlace := ["sync/atomic.StoreUint64", "sync/atomic.LoadUint64"], unfollowed := true, recurses := true, apart := false }
def StripesTwiceSaid : Prop := stripesTwiceRow.holds Tryz.pinned (OpenSpec.ofChange stripesTwiceSpec)

/-- ITS FALSE NEIGHBOUR: 'it returns false'. Refute it at one input. -/
def stripesTwiceWrong : ChangeSpec := { name := "stripesTwice", fn := fun _ => fun
  | [d1, d2] => { results := [.lit (.bool false)], args := [d1, d2] }
  | _ => none }
def StripesTwiceWrongFalsely : Prop := stripesTwiceRow.holds Tryz.pinned (OpenSpec.ofChange stripesTwiceWrong)

/-- 'nestboxlaw13.PutsPlay': WHATEVER THE INPUT: true; the input reads as it did. -/
def putsPlaySpec : ChangeSpec := { name := "putsPlay", fn := fun _ => fun
  | [d1, d2] => { results := [.lit (.bool true)], args := [d1, d2] }
  | _ => none }
def putsPlayRow : OpenClaim := { program := "ythlebfiedejhhaagreat", sum := "f0dff5ec52b89515646a53830fa654d4d97d66d1fa21a410c46973766f26430c", func := "nestbox/nestboxlaw13.PutsPlay", spec := "putsPlay", inPlace := ["sync/atomic.StoreUint64", "sync/atomic.LoadUint64"], unfollowed := true, recurses := true, apart := false }
def PutsPlaySaid : Prop := putsPlayRow.holds Tryz.pinned (OpenSpec.ofChange putsPlaySpec)

/-- ITS FALSE NEIGHBOUR: 'it returns false'. Refute it at one input. -/
def putsPlayWrong : ChangeSpec := { name := "putsPlay", fn := fun _ => fun
  | [d1, d2] => { results := [.lit (.bool false)], args := [d1, d2] }
  | _ => none }
def PutsPlayWrongFalsely : Prop := putsPlayRow.holds Tryz.pinned (OpenSpec.ofChange putsPlayWrong)

/-- 'nestboxlaw13.PutsVoid': WHATEVER THE INPUT: true; the input reads as it did. -/
def putsVoidSpec : ChangeSpec := { name := "putsVoid", fn := fun _ => fun
  | [d1, d2, d3] => { results := [.lit (.bool true)], args := [d1, d2, d3] }
  | _ => none }
def putsVoidRow : OpenClaim := { program := "ythlebfiedejhhaagreat", sum := "f0dff5ec52b89515646a53830fa654d4d97d66d1fa21a410c46973766f26430c", func := "nestbox/nestboxlaw13.PutsVoid", spec := "putsVoid", inPlace := ["sync/atomic.StoreUint64", "sync/atomic.LoadUint64"], unfollowed := true, recurses := true, apart := false }
def PutsVoidSaid : Prop := putsVoidRow.holds Tryz.pinned (OpenSpec.ofChange putsVoidSpec)

/-- ITS FALSE NEIGHBOUR: 'it returns false'. Refute it at one input. -/
def putsVoidWrong : ChangeSpec := { name := "putsVoid", fn := fun _ => fun
  | [d1, d2, d3] => { results := [.lit (.bool false)], args := [d1, d2, d3] }
  | _ => none }
def PutsVoidWrongFalsely : Prop := putsVoidRow.holds Tryz.pinned (OpenSpec.ofChange putsVoidWrong)

/-- 'nestboxlaw13.PutsBeside': WHATEVER THE INPUT: true; the input reads as it did. -/
def putsBesideSpec : ChangeSpec := { name := "putsBeside", fn := fun _ => fun
  | [d] => { results := [.lit (.bool true)], args := [d] }
  | _ => none }
def putsBesideRow : OpenClaim := { program := "ythlebfiedejhhaagreat", sum := "f0dff5ec52b89515646a53830fa654d4d97d66d1fa21a410c46973766f26430c", func := "nestbox/nestboxlaw13.PutsBeside", spec := "putsBeside", inPlace := ["sync/atomic.StoreUint64", "sync/atomic.LoadUint64"], unfollowed := true, recurses := true, apart := false }
def PutsBesideSaid : Prop := putsBesideRow.holds Tryz.pinned (OpenSpec.ofChange putsBesideSpec)

/-- ITS FALSE NEIGHBOUR: 'it returns false'. Refute it at one input. -/
def putsBesideWrong : ChangeSpec := { name := "putsBeside", fn := fun _ => fun
  | [d] => { results := [.lit (.bool false)], args := [d] }
  | _ => none }
def PutsBesideWrongFalsely : Prop := putsBesideRow.holds Tryz.pinned (OpenSpec.ofChange putsBesideWrong)

/- THE SECOND FORM. 'bulk': how many values and letters a reading holds, each counted each time it is reached (what is shared counts as often as it is met; a slice's spare places count too). A statement '..UptoSaid' is the law's where the arguments, and the package variables that the reading takes, are together of bulk at most 1048576: NARROWER than '..Said'. Prove '..Said' where nothing that the law and all that it calls make is longer than what came in: it says more and counts as full. Else prove '..UptoSaid'. A law counts once. -/
mutual
def uptoBulk {H : Type} : DataW H → Nat
  | .lit (.string bytes) => bytes.length + 1
  | .lit _ => 1
  | .nil => 1
  | .ptr d => uptoBulk d + 1
  | .slice elems spare => uptoBulkAll elems + uptoBulkAll spare + 1
  | .agg parts => uptoBulkAll parts + 1
  | .iface _ d => uptoBulk d + 1
  | .map entries => uptoBulkEntries entries + 1
  | .held _ => 1
def uptoBulkAll {H : Type} : List (DataW H) → Nat
  | [] => 0
  | d :: r => uptoBulk d + uptoBulkAll r
def uptoBulkEntries {H : Type} : List (Lit × DataW H) → Nat
  | [] => 0
  | x :: r => uptoBulkEntry x + uptoBulkEntries r
def uptoBulkEntry {H : Type} : Lit × DataW H → Nat
  | (.string bytes, d) => bytes.length + uptoBulk d + 1
  | (_, d) => uptoBulk d + 1
 end
def uptoSmall : (H : Type) → List (DataW H) → Bool := fun _ ds => decide (uptoBulkAll ds ≤ 1048576)
def OpenSpec.upto (s : _root_.Go.ChangeSpec) : _root_.Go.OpenSpec := { _root_.Go.OpenSpec.ofChange s with cond := some uptoSmall }

/-- 'nestboxlaw10.WorldsPlay', WHERE WHAT IT READS IS OF BULK AT MOST 1048576: true; the input reads as it did. -/
def worldsPlayUptoRow : OpenClaim := { program := "ythlebfiedejhhaagreat", sum := "f0dff5ec52b89515646a53830fa654d4d97d66d1fa21a410c46973766f26430c", func := "nestbox/nestboxlaw10.WorldsPlay", spec := "worldsPlay", inPlace := ["sync/atomic.StoreUint64", "sync/atomic.LoadUint64"], unfollowed := true, recurses := true, apart := false, narrowed := true }
def WorldsPlayUptoSaid : Prop := worldsPlayUptoRow.holds Tryz.pinned (OpenSpec.upto worldsPlaySpec)

/-- 'nestboxlaw11.TicketsPlay', WHERE WHAT IT READS IS OF BULK AT MOST 1048576: true; the input reads as it did. -/
def ticketsPlayUptoRow : OpenClaim := { program := "ythlebfiedejhhaagreat", sum := "f0dff5ec52b89515646a53830fa654d4d97d66d1fa21a410c46973766f26430c", func := "nestbox/nestboxlaw11.TicketsPlay", spec := "ticketsPlay", inPlace := ["sync/atomic.StoreUint64", "sync/atomic.LoadUint64"], unfollowed := true, recurses := true, apart := false, narrowed := true }
def TicketsPlayUptoSaid : Prop := ticketsPlayUptoRow.holds Tryz.pinned (OpenSpec.upto ticketsPlaySpec)

/-- 'nestboxlaw12.StripesPlay', WHERE WHAT IT READS IS OF BULK AT MOST 1048576: true; the input reads as it did. -/
def stripesPlayUptoRow : OpenClaim := { program := "ythlebfiedejhhaagreat", sum := "f0dff5ec52b89515646a53830fa654d4d97d66d1fa21a410c46973766f26430c", func := "nestbox/nestboxlaw12.StripesPlay", spec := "stripesPlay", inPlace := ["sync/atomic.StoreUint64", "sync/atomic.LoadUint64"], unfollowed := true, recurses := true, apart := false, narrowed := true }
def StripesPlayUptoSaid : Prop := stripesPlayUptoRow.holds Tryz.pinned (OpenSpec.upto stripesPlaySpec)

/-- 'nestboxlaw12.StripesTwice', WHERE WHAT IT READS IS OF BULK AT MOST 1048576: true; the input reads as it did. -/
def stripesTwiceUptoRow : OpenClaim := { program := "ythlebfiedejhhaagreat", sum := "f0dff5ec52b89515646a53830fa654d4d97d66d1fa21a410c46973766f26430c", func := "nestbox/nestboxlaw12.StripesTwice", spec := "stripesTwice", inPlace := ["sync/atomic.StoreUint64", "sync/atomic.LoadUint64"], unfollowed := true, recurses := true, apart := false, narrowed := true }
def StripesTwiceUptoSaid : Prop := stripesTwiceUptoRow.holds Tryz.pinned (OpenSpec.upto stripesTwiceSpec)

/-- 'nestboxlaw13.PutsPlay', WHERE WHAT IT READS IS OF BULK AT MOST 1048576: true; the input reads as it did. -/
def putsPlayUptoRow : OpenClaim := { program := "ythlebfiedejhhaagreat", sum := "f0dff5ec52b89515646a53830fa654d4d97d66d1fa21a410c46973766f26430c", func := "nestbox/nestboxlaw13.PutsPlay", spec := "putsPlay", inPlace := ["sync/atomic.StoreUint64", "sync/atomic.LoadUint64"], unfollowed := true, recurses := true, apart := false, narrowed := true }
def PutsPlayUptoSaid : Prop := putsPlayUptoRow.holds Tryz.pinned (OpenSpec.upto putsPlaySpec)

/-- 'nestboxlaw13.PutsVoid', WHERE WHAT IT READS IS OF BULK AT MOST 1048576: true; the input reads as it did. -/
def putsVoidUptoRow : OpenClaim := { program := "ythlebfiedejhhaagreat", sum := "f0dff5ec52b89515646a53830fa654d4d97d66d1fa21a410c46973766f26430c", func := "nestbox/nestboxlaw13.PutsVoid", spec := "putsVoid", inPlace := ["sync/atomic.StoreUint64", "sync/atomic.LoadUint64"], unfollowed := true, recurses := true, apart := false, narrowed := true }
def PutsVoidUptoSaid : Prop := putsVoidUptoRow.holds Tryz.pinned (OpenSpec.upto putsVoidSpec)

/-- 'nestboxlaw13.PutsBeside', WHERE WHAT IT READS IS OF BULK AT MOST 1048576: true; the input reads as it did. -/
def putsBesideUptoRow : OpenClaim := { program := "ythlebfiedejhhaagreat", sum := "f0dff5ec52b89515646a53830fa654d4d97d66d1fa21a410c46973766f26430c", func := "nestbox/nestboxlaw13.PutsBeside", spec := "putsBeside", inPlace := ["sync/atomic.StoreUint64", "sync/atomic.LoadUint64"], unfollowed := true, recurses := true, apart := false, narrowed := true }
def PutsBesideUptoSaid : Prop := putsBesideUptoRow.holds Tryz.pinned (OpenSpec.upto putsBesideSpec)

end Rows
end Go.Proofs.YthlebfiedejhhaaGreat
