/-
  No cell of these rows narrows 'for every input' (looked for: loops, veiled, ifaces, maps, wideKeys, modest, calm, conditions, laid).
  DERIVED. THE GIVEN ROWS OF THIS SEAT. 4 by the template 'for every input the law returns true; each argument reads behind the call as it read before'; 0 by the template 'total and deterministic' (their statements: YtepkpbhhiianpaaTotals.lean).
  GIVEN WITH THE SEED: the statements are not yours to turn. If you find one false, say at which input.
  Laid BY PROGRAM, IN A SANDBOX (cutbox-rows.mjs): the forced cells as the released guide's own fill.sh prints them over the translation 3606cba68e193f78… (all of the seat's roots in one cut). By AI agents, Wed Nov 11 2026. No macro, syntax, notation, axiom, sorry.
-/
import Derived.Test.YtepkpbhhiianpaaChecked
import GoSem.Claim
import GoSem.ClaimJoined
import GoSem.ClaimMapViews
import Derived.JoinedTies
import Derived.KernelRfl
namespace Go.Proofs.Ytepkpbhhiianpaa
/- THE CELL 'sum', in the pinned program and in every row, IS THE sha256 OF THE DUMP (.gsa) THAT YtepkpbhhiianpaaProg.lean LOADS. Nothing in Lean hashes anything: it is a label: what it is worth is what the hold of that sum in a sandbox is worth. -/
noncomputable def Try.pinned : Pinned := { name := "ytepkpbhhiianpaa", sum := "3606cba68e193f78d57ca987be585c4a4a0d80b5b68b028cd268e1978d2c027f", checked := Try.checked }
namespace Rows
def none {H : Type} : Left H := { results := [], args := [] }

/-- 'nestboxlaw22.RefsOnce': WHATEVER THE INPUT: true; the input reads as it did. -/
def refsOnceSpec : ChangeSpec := { name := "refsOnce", fn := fun _ => fun
  | [d1, d2, d3] => { results := [.lit (.bool true)], args := [d1, d2, d3] }
  | _ => none }
def refsOnceRow : OpenClaim := { program := "ytepkpbhhiianpaa", sum := "3606cba68e193f78d57ca987be585c4a4a0d80b5b68b028cd268e1978d2c027f", func := "nestbox/nestboxlaw22.RefsOnce", spec := "refsOnce", inPlace := ["sync/atomic.StoreUint64", "sync/atomic.LoadUint64"], unfollowed := true, recurses := true, apart := false }
def RefsOnceSaid : Prop := refsOnceRow.holds Try.pinned (OpenSpec.ofChange refsOnceSpec)

/-- ITS FALSE NEIGHBOUR: 'it returns false'. Refute it at one input. -/
def refsOnceWrong : ChangeSpec := { name := "refsOnce", fn := fun _ => fun
  | [d1, d2, d3] => { results := [.lit (.bool false)], args := [d1, d2, d3] }
  | _ => none }
def RefsOnceWrongFalsely : Prop := refsOnceRow.holds Try.pinned (OpenSpec.ofChange refsOnceWrong)

/-- 'nestboxlaw19.GrowsOn': WHATEVER THE INPUT: true; the input reads as it did. -/
def growsOnSpec : ChangeSpec := { name := "growsOn", fn := fun _ => fun
  | [d1, d2] => { results := [.lit (.bool true)], args := [d1, d2] }
  | _ => none }
def growsOnRow : OpenClaim := { program := "ytepkpbhhiianpaa", sum := "3606cba68e193f78d57ca987be585c4a4a0d80b5b68b028cd268e1978d2c027f", func := "nestbox/nestboxlaw19.GrowsOn", spec := "growsOn", inPlace := ["sync/atomic.StoreUint64", "sync/atomic.LoadUint64"], unfollowed := true, recurses := true, apart := false }
def GrowsOnSaid : Prop := growsOnRow.holds Try.pinned (OpenSpec.ofChange growsOnSpec)

/-- ITS FALSE NEIGHBOUR: 'it returns false'. Refute it at one input. -/
def growsOnWrong : ChangeSpec := { name := "growsOn", fn := fun _ => fun
  | [d1, d2] => { results := [.lit (.bool false)], args := [d1, d2] }
  | _ => none }
def GrowsOnWrongFalsely : Prop := growsOnRow.holds Try.pinned (OpenSpec.ofChange growsOnWrong)

/-- 'nestboxlaw19.GrowsKeeps': WHATEVER THE INPUT: true; the input reads as it did. -/
def growsKeepsSpec : ChangeSpec := { name := "growsKeeps", fn := fun _ => fun
  | [d1, d2] => { results := [.lit (.bool true)], args := [d1, d2] }
  | _ => none }
def growsKeepsRow : OpenClaim := { program := "ytepkpbhhiianpaa", sum := "3606cba68e193f78d57ca987be585c4a4a0d80b5b68b028cd268e1978d2c027f", func := "nestbox/nestboxlaw19.GrowsKeeps", spec := "growsKeeps", inPlace := ["sync/atomic.StoreUint64", "sync/atomic.LoadUint64"], unfollowed := true, recurses := true, apart := false }
def GrowsKeepsSaid : Prop := growsKeepsRow.holds Try.pinned (OpenSpec.ofChange growsKeepsSpec)

/-- ITS FALSE NEIGHBOUR: 'it returns false'. Refute it at one input. -/
def growsKeepsWrong : ChangeSpec := { name := "growsKeeps", fn := fun _ => fun
  | [d1, d2] => { results := [.lit (.bool false)], args := [d1, d2] }
  | _ => none }
def GrowsKeepsWrongFalsely : Prop := growsKeepsRow.holds Try.pinned (OpenSpec.ofChange growsKeepsWrong)

/-- 'nestboxlaw14.LooksTries': WHATEVER THE INPUT: true; the input reads as it did. -/
def looksTriesSpec : ChangeSpec := { name := "looksTries", fn := fun _ => fun
  | [d1, d2, d3] => { results := [.lit (.bool true)], args := [d1, d2, d3] }
  | _ => none }
def looksTriesRow : OpenClaim := { program := "ytepkpbhhiianpaa", sum := "3606cba68e193f78d57ca987be585c4a4a0d80b5b68b028cd268e1978d2c027f", func := "nestbox/nestboxlaw14.LooksTries", spec := "looksTries", inPlace := ["sync/atomic.StoreUint64", "sync/atomic.LoadUint64"], unfollowed := true, recurses := true, apart := false }
def LooksTriesSaid : Prop := looksTriesRow.holds Try.pinned (OpenSpec.ofChange looksTriesSpec)

/-- ITS FALSE NEIGHBOUR: 'it returns false'. Refute it at one input. -/
def looksTriesWrong : ChangeSpec := { name := "looksTries", fn := fun _ => fun
  | [d1, d2, d3] => { results := [.lit (.bool false)], args := [d1, d2, d3] }
  | _ => none }
def LooksTriesWrongFalsely : Prop := looksTriesRow.holds Try.pinned (OpenSpec.ofChange looksTriesWrong)

/- THE SECOND FORM. 'bulk': how many values and letters a reading holds, each counted each time it is reached (what is shared counts as often as it is met; a slice's spare places count too). A statement '..UptoSaid' is the law's where the arguments, and the package variables that the reading takes, are together of bulk at most 1048576: NARROWER than '..Said'. Prove '..Said' where nothing that the law and all that it calls make is longer than what came in: it says more and counts as full. Else prove '..UptoSaid'. A law counts once. -/
mutual
def uptoBulk {H : Type} : DataW H → Nat
  | .lit (.string bytes) => bytes.length + 1
  | .lit _ => 1
  | .nil => 1
  | .ptr d => uptoBulk d + 1
  | .slice elems spare => uptoBulkAll elems + uptoBulkAll spare + 1
  | .agg parts => uptoBulkAll parts + 1
  | .iface _ d => uptoBulk d + 1
  | .map entries => uptoBulkEntries entries + 1
  | .held _ => 1
def uptoBulkAll {H : Type} : List (DataW H) → Nat
  | [] => 0
  | d :: r => uptoBulk d + uptoBulkAll r
def uptoBulkEntries {H : Type} : List (Lit × DataW H) → Nat
  | [] => 0
  | x :: r => uptoBulkEntry x + uptoBulkEntries r
def uptoBulkEntry {H : Type} : Lit × DataW H → Nat
  | (.string bytes, d) => bytes.length + uptoBulk d + 1
  | (_, d) => uptoBulk d + 1
 end
def uptoSmall : (H : Type) → List (DataW H) → Bool := fun _ ds => decide (uptoBulkAll ds ≤ 1048576)
def OpenSpec.upto (s : _root_.Go.ChangeSpec) : _root_.Go.OpenSpec := { _root_.Go.OpenSpec.ofChange s with cond := some uptoSmall }

/-- 'nestboxlaw22.RefsOnce', WHERE WHAT IT READS IS OF BULK AT MOST 1048576: true; the input reads as it did. -/
def refsOnceUptoRow : OpenClaim := { program := "ytepkpbhhiianpaa", sum := "3606cba68e193f78d57ca987be585c4a4a0d80b5b68b028cd268e1978d2c027f", func := "nestbox/nestboxlaw22.RefsOnce", spec := "refsOnce", inPlace := ["sync/atomic.StoreUint64", "sync/atomic.LoadUint64"], unfollowed := true, recurses := true, apart := false, narrowed := true }
def RefsOnceUptoSaid : Prop := refsOnceUptoRow.holds Try.pinned (OpenSpec.upto refsOnceSpec)

/-- 'nestboxlaw19.GrowsOn', WHERE WHAT IT READS IS OF BULK AT MOST 1048576: true; the input reads as it did. -/
def growsOnUptoRow : OpenClaim := { program := "ytepkpbhhiianpaa", sum := "3606cba68e193f78d57ca987be585c4a4a0d80b5b68b028cd268e1978d2c027f", func := "nestbox/nestboxlaw19.GrowsOn", spec := "growsOn", inPlace := ["sync/atomic.StoreUint64", "sync/atomic.LoadUint64"], unfollowed := true, recurses := true, apart := false, narrowed := true }
def GrowsOnUptoSaid : Prop := growsOnUptoRow.holds Try.pinned (OpenSpec.upto growsOnSpec)

/-- 'nestboxlaw19.GrowsKeeps', WHERE WHAT IT READS IS OF BULK AT MOST 1048576: true; the input reads as it did. -/
def growsKeepsUptoRow : OpenClaim := { program := "ytepkpbhhiianpaa", sum := "3606cba68e193f78d57ca987be585c4a4a0d80b5b68b028cd268e1978d2c027f", func := "nestbox/nestboxlaw19.GrowsKeeps", spec := "growsKeeps", inPlace := ["sync/atomic.StoreUint64", "sync/atomic.LoadUint64"], unfollowed := true, recurses := true, apart := false, narrowed := true }
def GrowsKeepsUptoSaid : Prop := growsKeepsUptoRow.holds Try.pinned (OpenSpec.upto growsKeepsSpec)

/-- 'nestboxlaw14.LooksTries', WHERE WHAT IT READS IS OF BULK AT MOST 1048576: true; the input reads as it did. -/
def looksTriesUptoRow : OpenClaim := { program := "ytepkpbhhiianpaa", sum := "3606cba68e193f78d57ca987be585c4a4a0d80b5b68b028cd268e1978d2c027f", func := "nestbox/nestboxlaw14.LooksTries", spec := "looksTries", inPlace := ["sync/atomic.StoreUint64", "sync/atomic.LoadUint64"], unfollowed := true, recurses := true, apart := false, narrowed := true }
def LooksTriesUptoSaid : Prop := looksTriesUptoRow.holds Try.pinned (OpenSpec.upto looksTriesSpec)

end Rows
end Go.Proofs.Ytepkpbhhiianpaa
