/-
  No cell of these rows narrows 'for every input' (looked for: loops, veiled, ifaces, maps, wideKeys, modest, calm, conditions, laid).
  DERIVED. THE GIVEN ROWS OF THIS SEAT. 2 by the template 'for every input the law returns true; each argument reads behind the call as it read before'; 0 by the template 'total and deterministic' (their statements: YtodppilfpemepaaGreatTotals.lean).
  GIVEN WITH THE SEED: the statements are not yours to turn. If you find one false, say at which input.
  Laid BY PROGRAM, IN A SANDBOX (cutbox-rows.mjs): the forced cells as the released guide's own fill.sh prints them over the translation 694b06797836742c… (all of the seat's roots in one cut). By AI agents, Wed Nov 11 2026. No macro, syntax, notation, axiom, sorry.
-/
import Derived.Test.YtodppilfpemepaaGreatChecked
import GoSem.Claim
import GoSem.ClaimJoined
import GoSem.ClaimMapViews
import Derived.JoinedTies
import Derived.KernelRfl
namespace Go.Proofs.YtodppilfpemepaaGreat
/- THE CELL 'sum', in the pinned program and in every row, IS THE sha256 OF THE DUMP (.gsa) THAT YtodppilfpemepaaGreatProg.lean LOADS. Nothing in Lean hashes anything: it is a label: what it is worth is what the hold of that sum in a sandbox is worth. -/
noncomputable def Tryz.pinned : Pinned := { name := "ytodppilfpemepaagreat", sum := "694b06797836742cae67900af6c537b2c7c65b37d238524d8672581435e3e087", checked := Tryz.checked }
namespace Rows
def none {H : Type} : Left H := { results := [], args := [] }

/-- 'nestboxlaw18.RoomsVoid': WHATEVER THE INPUT: true; the input reads as it did. -/
def roomsVoidSpec : ChangeSpec := { name := "roomsVoid", fn := fun _ => fun
  | [d1, d2] => { results := [.lit (.bool true)], args := [d1, d2] }
  | _ => none }
def roomsVoidRow : OpenClaim := { program := "ytodppilfpemepaagreat", sum := "694b06797836742cae67900af6c537b2c7c65b37d238524d8672581435e3e087", func := "nestbox/nestboxlaw18.RoomsVoid", spec := "roomsVoid", inPlace := ["sync/atomic.StoreUint64", "sync/atomic.LoadUint64"], unfollowed := true, recurses := true, apart := false }
def RoomsVoidSaid : Prop := roomsVoidRow.holds Tryz.pinned (OpenSpec.ofChange roomsVoidSpec)

/-- ITS FALSE NEIGHBOUR: 'it returns false'. Refute it at one input. -/
def roomsVoidWrong : ChangeSpec := { name := "roomsVoid", fn := fun _ => fun
  | [d1, d2] => { results := [.lit (.bool false)], args := [d1, d2] }
  | _ => none }
def RoomsVoidWrongFalsely : Prop := roomsVoidRow.holds Tryz.pinned (OpenSpec.ofChange roomsVoidWrong)

/-- 'nestboxlaw15.FindsVoid': WHATEVER THE INPUT: true; the input reads as it did. -/
def findsVoidSpec : ChangeSpec := { name := "findsVoid", fn := fun _ => fun
  | [d] => { results := [.lit (.bool true)], args := [d] }
  | _ => none }
def findsVoidRow : OpenClaim := { program := "ytodppilfpemepaagreat", sum := "694b06797836742cae67900af6c537b2c7c65b37d238524d8672581435e3e087", func := "nestbox/nestboxlaw15.FindsVoid", spec := "findsVoid", inPlace := ["sync/atomic.StoreUint64", "sync/atomic.LoadUint64"], unfollowed := true, recurses := true, apart := false }
def FindsVoidSaid : Prop := findsVoidRow.holds Tryz.pinned (OpenSpec.ofChange findsVoidSpec)

/-- ITS FALSE NEIGHBOUR: 'it returns false'. Refute it at one input. -/
def findsVoidWrong : ChangeSpec := { name := "findsVoid", fn := fun _ => fun
  | [d] => { results := [.lit (.bool false)], args := [d] }
  | _ => none }
def FindsVoidWrongFalsely : Prop := findsVoidRow.holds Tryz.pinned (OpenSpec.ofChange findsVoidWrong)

/- THE SECOND FORM. 'bulk': how many values and letters a reading holds, each counted each time it is reached (what is shared counts as often as it is met; a slice's spare places count too). A statement '..UptoSaid' is the law's where the arguments, and the package variables that the reading takes, are together of bulk at most 1048576: NARROWER than '..Said'. Prove '..Said' where nothing that the law and all that it calls make is longer than what came in: it says more and counts as full. Else prove '..UptoSaid'. A law counts once. -/
mutual
def uptoBulk {H : Type} : DataW H → Nat
  | .lit (.string bytes) => bytes.length + 1
  | .lit _ => 1
  | .nil => 1
  | .ptr d => uptoBulk d + 1
  | .slice elems spare => uptoBulkAll elems + uptoBulkAll spare + 1
  | .agg parts => uptoBulkAll parts + 1
  | .iface _ d => uptoBulk d + 1
  | .map entries => uptoBulkEntries entries + 1
  | .held _ => 1
def uptoBulkAll {H : Type} : List (DataW H) → Nat
  | [] => 0
  | d :: r => uptoBulk d + uptoBulkAll r
def uptoBulkEntries {H : Type} : List (Lit × DataW H) → Nat
  | [] => 0
  | x :: r => uptoBulkEntry x + uptoBulkEntries r
def uptoBulkEntry {H : Type} : Lit × DataW H → Nat
  | (.string bytes, d) => bytes.length + uptoBulk d + 1
  | (_, d) => uptoBulk d + 1
 end
def uptoSmall : (H : Type) → List (DataW H) → Bool := fun _ ds => decide (uptoBulkAll ds ≤ 1048576)
def OpenSpec.upto (s : _root_.Go.ChangeSpec) : _root_.Go.OpenSpec := { _root_.Go.OpenSpec.ofChange s with cond := some uptoSmall }

/-- 'nestboxlaw18.RoomsVoid', WHERE WHAT IT READS IS OF BULK AT MOST 1048576: true; the input reads as it did. -/
def roomsVoidUptoRow : OpenClaim := { program := "ytodppilfpemepaagreat", sum := "694b06797836742cae67900af6c537b2c7c65b37d238524d8672581435e3e087", func := "nestbox/nestboxlaw18.RoomsVoid", spec := "roomsVoid", inPlace := ["sync/atomic.StoreUint64", "sync/atomic.LoadUint64"], unfollowed := true, recurses := true, apart := false, narrowed := true }
def RoomsVoidUptoSaid : Prop := roomsVoidUptoRow.holds Tryz.pinned (OpenSpec.upto roomsVoidSpec)

/-- 'nestboxlaw15.FindsVoid', WHERE WHAT IT READS IS OF BULK AT MOST 1048576: true; the input reads as it did. -/
def findsVoidUptoRow : OpenClaim := { program := "ytodppilfpemepaagreat", sum := "694b06797836742cae67900af6c537b2c7c65b37d238524d8672581435e3e087", func := "nestbox/nestboxlaw15.FindsVoid", spec := "findsVoid", inPlace := ["sync/atomic.StoreUint64", "sync/atomic.LoadUint64"], unfollowed := true, recurses := true, apart := false, narrowed := true }
def FindsVoidUptoSaid : Prop := findsVoidUptoRow.holds Tryz.pinned (OpenSpec.upto findsVoidSpec)

end Rows
end Go.Proofs.YtodppilfpemepaaGreat
