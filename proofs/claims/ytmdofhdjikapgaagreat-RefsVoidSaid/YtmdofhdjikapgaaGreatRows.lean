/-
  No cell of these rows narrows 'for every input' (looked for: loops, veiled, ifaces, maps, wideKeys, modest, calm, conditions, laid).
  DERIVED. THE GIVEN ROWS OF THIS SEAT. 3 by the template 'for every input the law returns true; each argument reads behind the call as it read before'; 0 by the template 'total and deterministic' (their statements: YtmdofhdjikapgaaGreatTotals.lean).
  GIVEN WITH THE SEED: the statements are not yours to turn. If you find one false, say at which input.
  Laid BY PROGRAM, IN A SANDBOX (cutbox-rows.mjs): the forced cells as the released guide's own fill.sh prints them over the translation cfdcec0bde8a68b5… (all of the seat's roots in one cut). By AI agents, Wed Nov 11 2026. No macro, syntax, notation, axiom, sorry.
-/
import Derived.Test.YtmdofhdjikapgaaGreatChecked
import GoSem.Claim
import GoSem.ClaimJoined
import GoSem.ClaimMapViews
import Derived.JoinedTies
import Derived.KernelRfl
namespace Go.Proofs.YtmdofhdjikapgaaGreat
/- THE CELL 'sum', in the pinned program and in every row, IS THE sha256 OF THE DUMP (.gsa) THAT YtmdofhdjikapgaaGreatProg.lean LOADS. Nothing in Lean hashes anything: it is a label: what it is worth is what the hold of that sum in a sandbox is worth. -/
noncomputable def Tryz.pinned : Pinned := { name := "ytmdofhdjikapgaagreat", sum := "cfdcec0bde8a68b535b28644feb26c2dfda8a7f220d0f3a204da5f26627a0b2f", checked := Tryz.checked }
namespace Rows
def none {H : Type} : Left H := { results := [], args := [] }

/-- 'nestboxlaw10.WorldsPlay': WHATEVER THE INPUT: true; the input reads as it did. -/
def worldsPlaySpec : ChangeSpec := { name := "worldsPlay", fn := fun _ => fun
  | [d1, d2] => { results := [.lit (.bool true)], args := [d1, d2] }
  | _ => none }
def worldsPlayRow : OpenClaim := { program := "ytmdofhdjikapgaagreat", sum := "cfdcec0bde8a68b535b28644feb26c2dfda8a7f220d0f3a204da5f26627a0b2f", func := "nestbox/nestboxlaw10.WorldsPlay", spec := "worldsPlay", inPlace := ["sync/atomic.StoreUint64", "sync/atomic.LoadUint64"], unfollowed := true, recurses := true, apart := false }
def WorldsPlaySaid : Prop := worldsPlayRow.holds Tryz.pinned (OpenSpec.ofChange worldsPlaySpec)

/-- ITS FALSE NEIGHBOUR: 'it returns false'. Refute it at one input. -/
def worldsPlayWrong : ChangeSpec := { name := "worldsPlay", fn := fun _ => fun
  | [d1, d2] => { results := [.lit (.bool false)], args := [d1, d2] }
  | _ => none }
def WorldsPlayWrongFalsely : Prop := worldsPlayRow.holds Tryz.pinned (OpenSpec.ofChange worldsPlayWrong)

/-- 'nestboxlaw22.RefsPlay': WHATEVER THE INPUT: true; the input reads as it did. -/
def refsPlaySpec : ChangeSpec := { name := "refsPlay", fn := fun _ => fun
  | [d1, d2] => { results := [.lit (.bool true)], args := [d1, d2] }
  | _ => none }
def refsPlayRow : OpenClaim := { program := "ytmdofhdjikapgaagreat", sum := "cfdcec0bde8a68b535b28644feb26c2dfda8a7f220d0f3a204da5f26627a0b2f", func := "nestbox/nestboxlaw22.RefsPlay", spec := "refsPlay", inPlace := ["sync/atomic.StoreUint64", "sync/atomic.LoadUint64"], unfollowed := true, recurses := true, apart := false }
def RefsPlaySaid : Prop := refsPlayRow.holds Tryz.pinned (OpenSpec.ofChange refsPlaySpec)

/-- ITS FALSE NEIGHBOUR: 'it returns false'. Refute it at one input. -/
def refsPlayWrong : ChangeSpec := { name := "refsPlay", fn := fun _ => fun
  | [d1, d2] => { results := [.lit (.bool false)], args := [d1, d2] }
  | _ => none }
def RefsPlayWrongFalsely : Prop := refsPlayRow.holds Tryz.pinned (OpenSpec.ofChange refsPlayWrong)

/-- 'nestboxlaw22.RefsVoid': WHATEVER THE INPUT: true; the input reads as it did. -/
def refsVoidSpec : ChangeSpec := { name := "refsVoid", fn := fun _ => fun
  | [d] => { results := [.lit (.bool true)], args := [d] }
  | _ => none }
def refsVoidRow : OpenClaim := { program := "ytmdofhdjikapgaagreat", sum := "cfdcec0bde8a68b535b28644feb26c2dfda8a7f220d0f3a204da5f26627a0b2f", func := "nestbox/nestboxlaw22.RefsVoid", spec := "refsVoid", inPlace := ["sync/atomic.StoreUint64", "sync/atomic.LoadUint64"], unfollowed := true, recurses := true, apart := false }
def RefsVoidSaid : Prop := refsVoidRow.holds Tryz.pinned (OpenSpec.ofChange refsVoidSpec)

/-- ITS FALSE NEIGHBOUR: 'it returns false'. Refute it at one input. -/
def refsVoidWrong : ChangeSpec := { name := "refsVoid", fn := fun _ => fun
  | [d] => { results := [.lit (.bool false)], args := [d] }
  | _ => none }
def RefsVoidWrongFalsely : Prop := refsVoidRow.holds Tryz.pinned (OpenSpec.ofChange refsVoidWrong)

/- THE SECOND FORM. 'bulk': how many values and letters a reading holds, each counted each time it is reached (what is shared counts as often as it is met; a slice's spare places count too). A statement '..UptoSaid' is the law's where the arguments, and the package variables that the reading takes, are together of bulk at most 1048576: NARROWER than '..Said'. Prove '..Said' where nothing that the law and all that it calls make is longer than what came in: it says more and counts as full. Else prove '..UptoSaid'. A law counts once. -/
mutual
def uptoBulk {H : Type} : DataW H → Nat
  | .lit (.string bytes) => bytes.length + 1
  | .lit _ => 1
  | .nil => 1
  | .ptr d => uptoBulk d + 1
  | .slice elems spare => uptoBulkAll elems + uptoBulkAll spare + 1
  | .agg parts => uptoBulkAll parts + 1
  | .iface _ d => uptoBulk d + 1
  | .map entries => uptoBulkEntries entries + 1
  | .held _ => 1
def uptoBulkAll {H : Type} : List (DataW H) → Nat
  | [] => 0
  | d :: r => uptoBulk d + uptoBulkAll r
def uptoBulkEntries {H : Type} : List (Lit × DataW H) → Nat
  | [] => 0
  | x :: r => uptoBulkEntry x + uptoBulkEntries r
def uptoBulkEntry {H : Type} : Lit × DataW H → Nat
  | (.string bytes, d) => bytes.length + uptoBulk d + 1
  | (_, d) => uptoBulk d + 1
 end
def uptoSmall : (H : Type) → List (DataW H) → Bool := fun _ ds => decide (uptoBulkAll ds ≤ 1048576)
def OpenSpec.upto (s : _root_.Go.ChangeSpec) : _root_.Go.OpenSpec := { _root_.Go.OpenSpec.ofChange s with cond := some uptoSmall }

/-- 'nestboxlaw10.WorldsPlay', WHERE WHAT IT READS IS OF BULK AT MOST 1048576: true; the input reads as it did. -/
def worldsPlayUptoRow : OpenClaim := { program := "ytmdofhdjikapgaagreat", sum := "cfdcec0bde8a68b535b28644feb26c2dfda8a7f220d0f3a204da5f26627a0b2f", func := "nestbox/nestboxlaw10.WorldsPlay", spec := "worldsPlay", inPlace := ["sync/atomic.StoreUint64", "sync/atomic.LoadUint64"], unfollowed := true, recurses := true, apart := false, narrowed := true }
def WorldsPlayUptoSaid : Prop := worldsPlayUptoRow.holds Tryz.pinned (OpenSpec.upto worldsPlaySpec)

/-- 'nestboxlaw22.RefsPlay', WHERE WHAT IT READS IS OF BULK AT MOST 1048576: true; the input reads as it did. -/
def refsPlayUptoRow : OpenClaim := { program := "ytmdofhdjikapgaagreat", sum := "cfdcec0bde8a68b535b28644feb26c2dfda8a7f220d0f3a204da5f26627a0b2f", func := "nestbox/nestboxlaw22.RefsPlay", spec := "refsPlay", inPlace := ["sync/atomic.StoreUint64", "sync/atomic.LoadUint64"], unfollowed := true, recurses := true, apart := false, narrowed := true }
def RefsPlayUptoSaid : Prop := refsPlayUptoRow.holds Tryz.pinned (OpenSpec.upto refsPlaySpec)

/-- 'nestboxlaw22.RefsVoid', WHERE WHAT IT READS IS OF BULK AT MOST 1048576: true; the input reads as it did. -/
def refsVoidUptoRow : OpenClaim := { program := "ytmdofhdjikapgaagreat", sum := "cfdcec0bde8a68b535b28644feb26c2dfda8a7f220d0f3a204da5f26627a0b2f", func := "nestbox/nestboxlaw22.RefsVoid", spec := "refsVoid", inPlace := ["sync/atomic.StoreUint64", "sync/atomic.LoadUint64"], unfollowed := true, recurses := true, apart := false, narrowed := true }
def RefsVoidUptoSaid : Prop := refsVoidUptoRow.holds Tryz.pinned (OpenSpec.upto refsVoidSpec)

end Rows
end Go.Proofs.YtmdofhdjikapgaaGreat
