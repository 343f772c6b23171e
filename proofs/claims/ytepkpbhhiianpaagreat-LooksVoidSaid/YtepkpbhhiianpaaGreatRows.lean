/-
  No cell of these rows narrows 'for every input' (looked for: loops, veiled, ifaces, maps, wideKeys, modest, calm, conditions, laid).
  DERIVED. THE GIVEN ROWS OF THIS SEAT. 5 by the template 'for every input the law returns true; each argument reads behind the call as it read before'; 0 by the template 'total and deterministic' (their statements: YtepkpbhhiianpaaGreatTotals.lean).
  GIVEN WITH THE SEED: the statements are not yours to turn. If you find one false, say at which input.
  Laid BY PROGRAM, IN A SANDBOX (cutbox-rows.mjs): the forced cells as the released guide's own fill.sh prints them over the translation 6da48c5bf9f8f7b4… (all of the seat's roots in one cut). By AI agents, Wed Nov 11 2026. No macro, syntax, notation, axiom, sorry.
-/
import Derived.Test.YtepkpbhhiianpaaGreatChecked
import GoSem.Claim
import GoSem.ClaimJoined
import GoSem.ClaimMapViews
import Derived.JoinedTies
import Derived.KernelRfl
namespace Go.Proofs.YtepkpbhhiianpaaGreat
/- THE CELL 'sum', in the pinned program and in every row, IS THE sha256 OF THE DUMP (.gsa) THAT YtepkpbhhiianpaaGreatProg.lean LOADS. Nothing in Lean hashes anything: it is a label: what it is worth is what the hold of that sum in a sandbox is worth. -/
noncomputable def Tryz.pinned : Pinned := { name := "ytepkpbhhiianpaagreat", sum := "6da48c5bf9f8f7b46926036960e551b0a6aeb201b924da7af4b7635672dd2052", checked := Tryz.checked }
namespace Rows
def none {H : Type} : Left H := { results := [], args := [] }

/-- 'nestboxlaw22.RefsPlay': WHATEVER THE INPUT: true; the input reads as it did. -/
def refsPlaySpec : ChangeSpec := { name := "refsPlay", fn := fun _ => fun
  | [d1, d2] => { results := [.lit (.bool true)], args := [d1, d2] }
  | _ => none }
def refsPlayRow : OpenClaim := { program := "ytepkpbhhiianpaagreat", sum := "6da48c5bf9f8f7b46926036960e551b0a6aeb201b924da7af4b7635672dd2052", func := "nestbox/nestboxlaw22.RefsPlay", spec := "refsPlay", inPlace := ["sync/atomic.StoreUint64", "sync/atomic.LoadUint64"], unfollowed := true, recurses := true, apart := false }
def RefsPlaySaid : Prop := refsPlayRow.holds Tryz.pinned (OpenSpec.ofChange refsPlaySpec)

/-- ITS FALSE NEIGHBOUR: 'it returns false'. Refute it at one input. -/
def refsPlayWrong : ChangeSpec := { name := "refsPlay", fn := fun _ => fun
  | [d1, d2] => { results := [.lit (.bool false)], args := [d1, d2] }
  | _ => none }
def RefsPlayWrongFalsely : Prop := refsPlayRow.holds Tryz.pinned (OpenSpec.ofChange refsPlayWrong)

/-- 'nestboxlaw19.GrowsPlay': WHATEVER THE INPUT: true; the input reads as it did. -/
def growsPlaySpec : ChangeSpec := { name := "growsPlay", fn := fun _ => fun
  | [d1, d2] => { results := [.lit (.bool true)], args := [d1, d2] }
  | _ => none }
def growsPlayRow : OpenClaim := { program := "ytepkpbhhiianpaagreat", sum := "6da48c5bf9f8f7b46926036960e551b0a6aeb201b924da7af4b7635672dd2052", func := "nestbox/nestboxlaw19.GrowsPlay", spec := "growsPlay", inPlace := ["sync/atomic.StoreUint64", "sync/atomic.LoadUint64"], unfollowed := true, recurses := true, apart := false }
def GrowsPlaySaid : Prop := growsPlayRow.holds Tryz.pinned (OpenSpec.ofChange growsPlaySpec)

/-- ITS FALSE NEIGHBOUR: 'it returns false'. Refute it at one input. -/
def growsPlayWrong : ChangeSpec := { name := "growsPlay", fn := fun _ => fun
  | [d1, d2] => { results := [.lit (.bool false)], args := [d1, d2] }
  | _ => none }
def GrowsPlayWrongFalsely : Prop := growsPlayRow.holds Tryz.pinned (OpenSpec.ofChange growsPlayWrong)

/-- 'nestboxlaw19.GrowsVoid': WHATEVER THE INPUT: true; the input reads as it did. -/
def growsVoidSpec : ChangeSpec := { name := "growsVoid", fn := fun _ => fun
  | [d] => { results := [.lit (.bool true)], args := [d] }
  | _ => none }
def growsVoidRow : OpenClaim := { program := "ytepkpbhhiianpaagreat", sum := "6da48c5bf9f8f7b46926036960e551b0a6aeb201b924da7af4b7635672dd2052", func := "nestbox/nestboxlaw19.GrowsVoid", spec := "growsVoid", inPlace := ["sync/atomic.StoreUint64", "sync/atomic.LoadUint64"], unfollowed := true, recurses := true, apart := false }
def GrowsVoidSaid : Prop := growsVoidRow.holds Tryz.pinned (OpenSpec.ofChange growsVoidSpec)

/-- ITS FALSE NEIGHBOUR: 'it returns false'. Refute it at one input. -/
def growsVoidWrong : ChangeSpec := { name := "growsVoid", fn := fun _ => fun
  | [d] => { results := [.lit (.bool false)], args := [d] }
  | _ => none }
def GrowsVoidWrongFalsely : Prop := growsVoidRow.holds Tryz.pinned (OpenSpec.ofChange growsVoidWrong)

/-- 'nestboxlaw14.LooksVoid': WHATEVER THE INPUT: true; the input reads as it did. -/
def looksVoidSpec : ChangeSpec := { name := "looksVoid", fn := fun _ => fun
  | [d1, d2] => { results := [.lit (.bool true)], args := [d1, d2] }
  | _ => none }
def looksVoidRow : OpenClaim := { program := "ytepkpbhhiianpaagreat", sum := "6da48c5bf9f8f7b46926036960e551b0a6aeb201b924da7af4b7635672dd2052", func := "nestbox/nestboxlaw14.LooksVoid", spec := "looksVoid", inPlace := ["sync/atomic.StoreUint64", "sync/atomic.LoadUint64"], unfollowed := true, recurses := true, apart := false }
def LooksVoidSaid : Prop := looksVoidRow.holds Tryz.pinned (OpenSpec.ofChange looksVoidSpec)

/-- ITS FALSE NEIGHBOUR: 'it returns false'. Refute it at one input. -/
def looksVoidWrong : ChangeSpec := { name := "looksVoid", fn := fun _ => fun
  | [d1, d2] => { results := [.lit (.bool false)], args := [d1, d2] }
  | _ => none }
def LooksVoidWrongFalsely : Prop := looksVoidRow.holds Tryz.pinned (OpenSpec.ofChange looksVoidWrong)

/-- 'nestboxlaw14.LooksPlay': WHATEVER THE INPUT: true; the input reads as it did. -/
def looksPlaySpec : ChangeSpec := { name := "looksPlay", fn := fun _ => fun
  | [d1, d2] => { results := [.lit (.bool true)], args := [d1, d2] }
  | _ => none }
def looksPlayRow : OpenClaim := { program := "ytepkpbhhiianpaagreat", sum := "6da48c5bf9f8f7b46926036960e551b0a6aeb201b924da7af4b7635672dd2052", func := "nestbox/nestboxlaw14.LooksPlay", spec := "looksPlay", inPlace := ["sync/atomic.StoreUint64", "sync/atomic.LoadUint64"], unfollowed := true, recurses := true, apart := false }
def LooksPlaySaid : Prop := looksPlayRow.holds Tryz.pinned (OpenSpec.ofChange looksPlaySpec)

/-- ITS FALSE NEIGHBOUR: 'it returns false'. Refute it at one input. -/
def looksPlayWrong : ChangeSpec := { name := "looksPlay", fn := fun _ => fun
  | [d1, d2] => { results := [.lit (.bool false)], args := [d1, d2] }
  | _ => none }
def LooksPlayWrongFalsely : Prop := looksPlayRow.holds Tryz.pinned (OpenSpec.ofChange looksPlayWrong)

/- THE SECOND FORM. 'bulk': how many values and letters a reading holds, each counted each time it is reached (what is shared counts as often as it is met; a slice's spare places count too). A statement '..UptoSaid' is the law's where the arguments, and the package variables that the reading takes, are together of bulk at most 1048576: NARROWER than '..Said'. Prove '..Said' where nothing that the law and all that it calls make is longer than what came in: it says more and counts as full. Else prove '..UptoSaid'. A law counts once. -/
mutual
def uptoBulk {H : Type} : DataW H → Nat
  | .lit (.string bytes) => bytes.length + 1
  | .lit _ => 1
  | .nil => 1
  | .ptr d => uptoBulk d + 1
  | .slice elems spare => uptoBulkAll elems + uptoBulkAll spare + 1
  | .agg parts => uptoBulkAll parts + 1
  | .iface _ d => uptoBulk d + 1
  | .map entries => uptoBulkEntries entries + 1
  | .held _ => 1
def uptoBulkAll {H : Type} : List (DataW H) → Nat
  | [] => 0
  | d :: r => uptoBulk d + uptoBulkAll r
def uptoBulkEntries {H : Type} : List (Lit × DataW H) → Nat
  | [] => 0
  | x :: r => uptoBulkEntry x + uptoBulkEntries r
def uptoBulkEntry {H : Type} : Lit × DataW H → Nat
  | (.string bytes, d) => bytes.length + uptoBulk d + 1
  | (_, d) => uptoBulk d + 1
 end
def uptoSmall : (H : Type) → List (DataW H) → Bool := fun _ ds => decide (uptoBulkAll ds ≤ 1048576)
def OpenSpec.upto (s : _root_.Go.ChangeSpec) : _root_.Go.OpenSpec := { _root_.Go.OpenSpec.ofChange s with cond := some uptoSmall }

/-- 'nestboxlaw22.RefsPlay', WHERE WHAT IT READS IS OF BULK AT MOST 1048576: true; the input reads as it did. -/
def refsPlayUptoRow : OpenClaim := { program := "ytepkpbhhiianpaagreat", sum := "6da48c5bf9f8f7b46926036960e551b0a6aeb201b924da7af4b7635672dd2052", func := "nestbox/nestboxlaw22.RefsPlay", spec := "refsPlay", inPlace := ["sync/atomic.StoreUint64", "sync/atomic.LoadUint64"], unfollowed := true, recurses := true, apart := false, narrowed := true }
def RefsPlayUptoSaid : Prop := refsPlayUptoRow.holds Tryz.pinned (OpenSpec.upto refsPlaySpec)

/-- 'nestboxlaw19.GrowsPlay', WHERE WHAT IT READS IS OF BULK AT MOST 1048576: true; the input reads as it did. -/
def growsPlayUptoRow : OpenClaim := { program := "ytepkpbhhiianpaagreat", sum := "6da48c5bf9f8f7b46926036960e551b0a6aeb201b924da7af4b7635672dd2052", func := "nestbox/nestboxlaw19.GrowsPlay", spec := "growsPlay", inPlace := ["sync/atomic.StoreUint64", "sync/atomic.LoadUint64"], unfollowed := true, recurses := true, apart := false, narrowed := true }
def GrowsPlayUptoSaid : Prop := growsPlayUptoRow.holds Tryz.pinned (OpenSpec.upto growsPlaySpec)

/-- 'nestboxlaw19.GrowsVoid', WHERE WHAT IT READS IS OF BULK AT MOST 1048576: true; the input reads as it did. -/
def growsVoidUptoRow : OpenClaim := { program := "ytepkpbhhiianpaagreat", sum := "6da48c5bf9f8f7b46926036960e551b0a6aeb201b924da7af4b7635672dd2052", func := "nestbox/nestboxlaw19.GrowsVoid", spec := "growsVoid", inPlace := ["sync/atomic.StoreUint64", "sync/atomic.LoadUint64"], unfollowed := true, recurses := true, apart := false, narrowed := true }
def GrowsVoidUptoSaid : Prop := growsVoidUptoRow.holds Tryz.pinned (OpenSpec.upto growsVoidSpec)

/-- 'nestboxlaw14.LooksVoid', WHERE WHAT IT READS IS OF BULK AT MOST 1048576: true; the input reads as it did. -/
def looksVoidUptoRow : OpenClaim := { program := "ytepkpbhhiianpaagreat", sum := "6da48c5bf9f8f7b46926036960e551b0a6aeb201b924da7af4b7635672dd2052", func := "nestbox/nestboxlaw14.LooksVoid", spec := "looksVoid", inPlace := ["sync/atomic.StoreUint64", "sync/atomic.LoadUint64"], unfollowed := true, recurses := true, apart := false, narrowed := true }
def LooksVoidUptoSaid : Prop := looksVoidUptoRow.holds Tryz.pinned (OpenSpec.upto looksVoidSpec)

/-- 'nestboxlaw14.LooksPlay', WHERE WHAT IT READS IS OF BULK AT MOST 1048576: true; the input reads as it did. -/
def looksPlayUptoRow : OpenClaim := { program := "ytepkpbhhiianpaagreat", sum := "6da48c5bf9f8f7b46926036960e551b0a6aeb201b924da7af4b7635672dd2052", func := "nestbox/nestboxlaw14.LooksPlay", spec := "looksPlay", inPlace := ["sync/atomic.StoreUint64", "sync/atomic.LoadUint64"], unfollowed := true, recurses := true, apart := false, narrowed := true }
def LooksPlayUptoSaid : Prop := looksPlayUptoRow.holds Tryz.pinned (OpenSpec.upto looksPlaySpec)

end Rows
end Go.Proofs.YtepkpbhhiianpaaGreat
