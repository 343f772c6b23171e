/-
  No cell of these rows narrows 'for every input' (looked for: loops, veiled, ifaces, maps, wideKeys, modest, calm, conditions, laid).
  DERIVED. THE GIVEN ROWS OF THIS SEAT. 4 by the template 'for every input the law returns true; each argument reads behind the call as it read before'; 0 by the template 'total and deterministic' (their statements: YtifbcejekdhnlaaTotals.lean).
  GIVEN WITH THE SEED: the statements are not yours to turn. If you find one false, say at which input.
  Laid BY PROGRAM, IN A SANDBOX (cutbox-rows.mjs): the forced cells as the released guide's own fill.sh prints them over the translation 84444aa11cd1336f… (all of the seat's roots in one cut). By AI agents, Wed Nov 11 2026. No macro, syntax, notation, axiom, sorry.
-/
import Derived.Test.YtifbcejekdhnlaaChecked
import GoSem.Claim
import GoSem.ClaimJoined
import GoSem.ClaimMapViews
import Derived.JoinedTies
import Derived.KernelRfl
namespace Go.Proofs.Ytifbcejekdhnlaa
/- THE CELL 'sum', in the pinned program and in every row, IS THE sha256 OF THE DUMP (.gsa) THAT YtifbcejekdhnlaaProg.lean LOADS. Nothing in Lean hashes anything: it is a label: what it is worth is what the hold of that sum in a sandbox is worth. -/
noncomputable def Try.pinned : Pinned := { name := "ytifbcejekdhnlaa", sum := "84444aa11cd1336f7b4f7a348b89579d112b3cde93c6bf60ee0e50f228b82083", checked := Try.checked }
namespace Rows
def none {H : Type} : Left H := { results := [], args := [] }

/-- 'nestboxlaw30.FeedsPlay': WHATEVER THE INPUT: true; the input reads as it did. -/
def feedsPlaySpec : ChangeSpec := { name := "feedsPlay", fn := fun _ => fun
  | [d] => { results := [.lit (.bool true)], args := [d] }
  | _ => none }
def feedsPlayRow : OpenClaim := { program := "ytifbcejekdhnlaa", sum := "84444aa11cd1336f7b4f7a348b89579d112b3cde93c6bf60ee0e50f228b82083", func := "nestbox/nestboxlaw30.FeedsPlay", spec := "feedsPlay", unfollowed := true, recurses := true, apart := false }
def FeedsPlaySaid : Prop := feedsPlayRow.holds Try.pinned (OpenSpec.ofChange feedsPlaySpec)

/-- ITS FALSE NEIGHBOUR: 'it returns false'. Refute it at one input. -/
def feedsPlayWrong : ChangeSpec := { name := "feedsPlay", fn := fun _ => fun
  | [d] => { results := [.lit (.bool false)], args := [d] }
  | _ => none }
def FeedsPlayWrongFalsely : Prop := feedsPlayRow.holds Try.pinned (OpenSpec.ofChange feedsPlayWrong)

/-- 'nestboxlaw30.FeedsVoid': WHATEVER THE INPUT: true; the input reads as it did. -/
def feedsVoidSpec : ChangeSpec := { name := "feedsVoid", fn := fun _ => fun
  | [d] => { results := [.lit (.bool true)], args := [d] }
  | _ => none }
def feedsVoidRow : OpenClaim := { program := "ytifbcejekdhnlaa", sum := "84444aa11cd1336f7b4f7a348b89579d112b3cde93c6bf60ee0e50f228b82083", func := "nestbox/nestboxlaw30.FeedsVoid", spec := "feedsVoid", unfollowed := true, recurses := true, apart := false }
def FeedsVoidSaid : Prop := feedsVoidRow.holds Try.pinned (OpenSpec.ofChange feedsVoidSpec)

/-- ITS FALSE NEIGHBOUR: 'it returns false'. Refute it at one input. -/
def feedsVoidWrong : ChangeSpec := { name := "feedsVoid", fn := fun _ => fun
  | [d] => { results := [.lit (.bool false)], args := [d] }
  | _ => none }
def FeedsVoidWrongFalsely : Prop := feedsVoidRow.holds Try.pinned (OpenSpec.ofChange feedsVoidWrong)

/-- 'nestboxlaw30.FeedsCuts': WHATEVER THE INPUT: true; the input reads as it did. -/
def feedsCutsSpec : ChangeSpec := { name := "feedsCuts", fn := fun _ => fun
  | [d1, d2] => { results := [.lit (.bool true)], args := [d1, d2] }
  | _ => none }
def feedsCutsRow : OpenClaim := { program := "ytifbcejekdhnlaa", sum := "84444aa11cd1336f7b4f7a348b89579d112b3cde93c6bf60ee0e50f228b82083", func := "nestbox/nestboxlaw30.FeedsCuts", spec := "feedsCuts", unfollowed := true, recurses := true, apart := false }
def FeedsCutsSaid : Prop := feedsCutsRow.holds Try.pinned (OpenSpec.ofChange feedsCutsSpec)

/-- ITS FALSE NEIGHBOUR: 'it returns false'. Refute it at one input. -/
def feedsCutsWrong : ChangeSpec := { name := "feedsCuts", fn := fun _ => fun
  | [d1, d2] => { results := [.lit (.bool false)], args := [d1, d2] }
  | _ => none }
def FeedsCutsWrongFalsely : Prop := feedsCutsRow.holds Try.pinned (OpenSpec.ofChange feedsCutsWrong)

/-- 'nestboxlaw30.FeedsMend': WHATEVER THE INPUT: true; the input reads as it did. -/
def feedsMendSpec : ChangeSpec := { name := "feedsMend", fn := fun _ => fun
  | [d1, d2] => { results := [.lit (.bool true)], args := [d1, d2] }
  | _ => none }
def feedsMendRow : OpenClaim := { program := "ytifbcejekdhnlaa", sum := "84444aa11cd1336f7b4f7a348b89579d112b3cde93c6bf60ee0e50f228b82083", func := "nestbox/nestboxlaw30.FeedsMend", spec := "feedsMend", unfollowed := true, recurses := true, apart := false }
def FeedsMendSaid : Prop := feedsMendRow.holds Try.pinned (OpenSpec.ofChange feedsMendSpec)

/-- ITS FALSE NEIGHBOUR: 'it returns false'. Refute it at one input. -/
def feedsMendWrong : ChangeSpec := { name := "feedsMend", fn := fun _ => fun
  | [d1, d2] => { results := [.lit (.bool false)], args := [d1, d2] }
  | _ => none }
def FeedsMendWrongFalsely : Prop := feedsMendRow.holds Try.pinned (OpenSpec.ofChange feedsMendWrong)

/- THE SECOND FORM. 'bulk': how many values and letters a reading holds, each counted each time it is reached (what is shared counts as often as it is met; a slice's spare places count too). A statement '..UptoSaid' is the law's where the arguments, and the package variables that the reading takes, are together of bulk at most 1048576: NARROWER than '..Said'. Prove '..Said' where nothing that the law and all that it calls make is longer than what came in: it says more and counts as full. Else prove '..UptoSaid'. A law counts once. -/
mutual
def uptoBulk {H : Type} : DataW H → Nat
  | .lit (.string bytes) => bytes.length + 1
  | .lit _ => 1
  | .nil => 1
  | .ptr d => uptoBulk d + 1
  | .slice elems spare => uptoBulkAll elems + uptoBulkAll spare + 1
  | .agg parts => uptoBulkAll parts + 1
  | .iface _ d => uptoBulk d + 1
  | .map entries => uptoBulkEntries entries + 1
  | .held _ => 1
def uptoBulkAll {H : Type} : List (DataW H) → Nat
  | [] => 0
  | d :: r => uptoBulk d + uptoBulkAll r
def uptoBulkEntries {H : Type} : List (Lit × DataW H) → Nat
  | [] => 0
  | x :: r => uptoBulkEntry x + uptoBulkEntries r
def uptoBulkEntry {H : Type} : Lit × DataW H → Nat
  | (.string bytes, d) => bytes.length + uptoBulk d + 1
  | (_, d) => uptoBulk d + 1
 end
def uptoSmall : (H : Type) → List (DataW H) → Bool := fun _ ds => decide (uptoBulkAll ds ≤ 1048576)
def OpenSpec.upto (s : _root_.Go.ChangeSpec) : _root_.Go.OpenSpec := { _root_.Go.OpenSpec.ofChange s with cond := some uptoSmall }

/-- 'nestboxlaw30.FeedsPlay', WHERE WHAT IT READS IS OF BULK AT MOST 1048576: true; the input reads as it did. -/
def feedsPlayUptoRow : OpenClaim := { program := "ytifbcejekdhnlaa", sum := "84444aa11cd1336f7b4f7a348b89579d112b3cde93c6bf60ee0e50f228b82083", func := "nestbox/nestboxlaw30.FeedsPlay", spec := "feedsPlay", unfollowed := true, recurses := true, apart := false, narrowed := true }
def FeedsPlayUptoSaid : Prop := feedsPlayUptoRow.holds Try.pinned (OpenSpec.upto feedsPlaySpec)

/-- 'nestboxlaw30.FeedsVoid', WHERE WHAT IT READS IS OF BULK AT MOST 1048576: true; the input reads as it did. -/
def feedsVoidUptoRow : OpenClaim := { program := "ytifbcejekdhnlaa", sum := "84444aa11cd1336f7b4f7a348b89579d112b3cde93c6bf60ee0e50f228b82083", func := "nestbox/nestboxlaw30.FeedsVoid", spec := "feedsVoid", unfollowed := true, recurses := true, apart := false, narrowed := true }
def FeedsVoidUptoSaid : Prop := feedsVoidUptoRow.holds Try.pinned (OpenSpec.upto feedsVoidSpec)

/-- 'nestboxlaw30.FeedsCuts', WHERE WHAT IT READS IS OF BULK AT MOST 1048576: true; the input reads as it did. -/
def feedsCutsUptoRow : OpenClaim := { program := "ytifbcejekdhnlaa", sum := "84444aa11cd1336f7b4f7a348b89579d112b3cde93c6bf60ee0e50f228b82083", func := "nestbox/nestboxlaw30.FeedsCuts", spec := "feedsCuts", unfollowed := true, recurses := true, apart := false, narrowed := true }
def FeedsCutsUptoSaid : Prop := feedsCutsUptoRow.holds Try.pinned (OpenSpec.upto feedsCutsSpec)

/-- 'nestboxlaw30.FeedsMend', WHERE WHAT IT READS IS OF BULK AT MOST 1048576: true; the input reads as it did. -/
def feedsMendUptoRow : OpenClaim := { program := "ytifbcejekdhnlaa", sum := "84444aa11cd1336f7b4f7a348b89579d112b3cde93c6bf60ee0e50f228b82083", func := "nestbox/nestboxlaw30.FeedsMend", spec := "feedsMend", unfollowed := true, recurses := true, apart := false, narrowed := true }
def FeedsMendUptoSaid : Prop := feedsMendUptoRow.holds Try.pinned (OpenSpec.upto feedsMendSpec)

end Rows
end Go.Proofs.Ytifbcejekdhnlaa
