/-
  No cell of these rows narrows 'for every input' (looked for: loops, veiled, ifaces, maps, wideKeys, modest, calm, conditions, laid).
  DERIVED. THE GIVEN ROWS OF THIS SEAT. 5 by the template 'for every input the law returns true; each argument reads behind the call as it read before'; 0 by the template 'total and deterministic' (their statements: YtcmogfdbjppdeaaTotals.lean).
  GIVEN WITH THE SEED: the statements are not yours to turn. If you find one false, say at which input.
  Laid BY PROGRAM, IN A SANDBOX (cutbox-rows.mjs): the forced cells as the released guide's own fill.sh prints them over the translation fd9d6e23ee322334… (all of the seat's roots in one cut). By AI agents, Wed Nov 11 2026. No macro, syntax, notation, axiom, sorry.
-/
import Derived.Test.YtcmogfdbjppdeaaChecked
import GoSem.Claim
import GoSem.ClaimJoined
import GoSem.ClaimMapViews
import Derived.JoinedTies
import Derived.KernelRfl
namespace Go.Proofs.Ytcmogfdbjppdeaa
/- THE CELL 'sum', in the pinned program and in every row, IS THE sha256 OF THE DUMP (.gsa) THAT YtcmogfdbjppdeaaProg.lean LOADS. Nothing in Lean hashes anything: it is a label: what it is worth is what the hold of that sum in a sandbox is worth. -/
noncomputable def Try.pinned : Pinned := { name := "ytcmogfdbjppdeaa", sum := "fd9d6e23ee3223349e3365fe948d6de0a334a4c36b410b75cc3745bca1a6c8a3", checked := Try.checked }
namespace Rows
def none {H : Type} : Left H := { results := [], args := [] }

/-- 'nestboxlaw33.ScriptsParse': WHATEVER THE INPUT: true; the input reads as it did. -/
def scriptsParseSpec : ChangeSpec := { name := "scriptsParse", fn := fun _ => fun
  | [d] => { results := [.lit (.bool true)], args := [d] }
  | _ => none }
def scriptsParseRow : OpenClaim := { program := "ytcmogfdbjppdeaa", sum := "fd9d6e23ee3223349e3365fe948d6de0a334a4c36b410b75cc3745bca1a6c8a3", func := "nestbox/nestboxlaw33.ScriptsParse", spec := "scriptsParse", apart := false }
def ScriptsParseSaid : Prop := scriptsParseRow.holds Try.pinned (OpenSpec.ofChange scriptsParseSpec)

/-- ITS FALSE NEIGHBOUR: 'it returns false'. Refute it at one input. -/
def scriptsParseWrong : ChangeSpec := { name := "scriptsParse", fn := fun _ => fun
  | [d] => { results := [.lit (.bool false)], args := [d] }
  | _ => none }
def ScriptsParseWrongFalsely : Prop := scriptsParseRow.holds Try.pinned (OpenSpec.ofChange scriptsParseWrong)

/-- 'nestboxlaw33.ScriptsPrint': WHATEVER THE INPUT: true; the input reads as it did. -/
def scriptsPrintSpec : ChangeSpec := { name := "scriptsPrint", fn := fun _ => fun
  | [d] => { results := [.lit (.bool true)], args := [d] }
  | _ => none }
def scriptsPrintRow : OpenClaim := { program := "ytcmogfdbjppdeaa", sum := "fd9d6e23ee3223349e3365fe948d6de0a334a4c36b410b75cc3745bca1a6c8a3", func := "nestbox/nestboxlaw33.ScriptsPrint", spec := "scriptsPrint", apart := false }
def ScriptsPrintSaid : Prop := scriptsPrintRow.holds Try.pinned (OpenSpec.ofChange scriptsPrintSpec)

/-- ITS FALSE NEIGHBOUR: 'it returns false'. Refute it at one input. -/
def scriptsPrintWrong : ChangeSpec := { name := "scriptsPrint", fn := fun _ => fun
  | [d] => { results := [.lit (.bool false)], args := [d] }
  | _ => none }
def ScriptsPrintWrongFalsely : Prop := scriptsPrintRow.holds Try.pinned (OpenSpec.ofChange scriptsPrintWrong)

/-- 'nestboxlaw33.ScriptsBack': WHATEVER THE INPUT: true; the input reads as it did. -/
def scriptsBackSpec : ChangeSpec := { name := "scriptsBack", fn := fun _ => fun
  | [d1, d2] => { results := [.lit (.bool true)], args := [d1, d2] }
  | _ => none }
def scriptsBackRow : OpenClaim := { program := "ytcmogfdbjppdeaa", sum := "fd9d6e23ee3223349e3365fe948d6de0a334a4c36b410b75cc3745bca1a6c8a3", func := "nestbox/nestboxlaw33.ScriptsBack", spec := "scriptsBack", apart := false }
def ScriptsBackSaid : Prop := scriptsBackRow.holds Try.pinned (OpenSpec.ofChange scriptsBackSpec)

/-- ITS FALSE NEIGHBOUR: 'it returns false'. Refute it at one input. -/
def scriptsBackWrong : ChangeSpec := { name := "scriptsBack", fn := fun _ => fun
  | [d1, d2] => { results := [.lit (.bool false)], args := [d1, d2] }
  | _ => none }
def ScriptsBackWrongFalsely : Prop := scriptsBackRow.holds Try.pinned (OpenSpec.ofChange scriptsBackWrong)

/-- 'nestboxlaw33.ScriptsJoin': WHATEVER THE INPUT: true; the input reads as it did. -/
def scriptsJoinSpec : ChangeSpec := { name := "scriptsJoin", fn := fun _ => fun
  | [d1, d2] => { results := [.lit (.bool true)], args := [d1, d2] }
  | _ => none }
def scriptsJoinRow : OpenClaim := { program := "ytcmogfdbjppdeaa", sum := "fd9d6e23ee3223349e3365fe948d6de0a334a4c36b410b75cc3745bca1a6c8a3", func := "nestbox/nestboxlaw33.ScriptsJoin", spec := "scriptsJoin", apart := false }
def ScriptsJoinSaid : Prop := scriptsJoinRow.holds Try.pinned (OpenSpec.ofChange scriptsJoinSpec)

/-- ITS FALSE NEIGHBOUR: 'it returns false'. Refute it at one input. -/
def scriptsJoinWrong : ChangeSpec := { name := "scriptsJoin", fn := fun _ => fun
  | [d1, d2] => { results := [.lit (.bool false)], args := [d1, d2] }
  | _ => none }
def ScriptsJoinWrongFalsely : Prop := scriptsJoinRow.holds Try.pinned (OpenSpec.ofChange scriptsJoinWrong)

/-- 'nestboxlaw33.ScriptsByte': WHATEVER THE INPUT: true; the input reads as it did. -/
def scriptsByteSpec : ChangeSpec := { name := "scriptsByte", fn := fun _ => fun
  | [d] => { results := [.lit (.bool true)], args := [d] }
  | _ => none }
def scriptsByteRow : OpenClaim := { program := "ytcmogfdbjppdeaa", sum := "fd9d6e23ee3223349e3365fe948d6de0a334a4c36b410b75cc3745bca1a6c8a3", func := "nestbox/nestboxlaw33.ScriptsByte", spec := "scriptsByte", apart := false }
def ScriptsByteSaid : Prop := scriptsByteRow.holds Try.pinned (OpenSpec.ofChange scriptsByteSpec)

/-- ITS FALSE NEIGHBOUR: 'it returns false'. Refute it at one input. -/
def scriptsByteWrong : ChangeSpec := { name := "scriptsByte", fn := fun _ => fun
  | [d] => { results := [.lit (.bool false)], args := [d] }
  | _ => none }
def ScriptsByteWrongFalsely : Prop := scriptsByteRow.holds Try.pinned (OpenSpec.ofChange scriptsByteWrong)

/- THE SECOND FORM. 'bulk': how many values and letters a reading holds, each counted each time it is reached (what is shared counts as often as it is met; a slice's spare places count too). A statement '..UptoSaid' is the law's where the arguments, and the package variables that the reading takes, are together of bulk at most 1048576: NARROWER than '..Said'. Prove '..Said' where nothing that the law and all that it calls make is longer than what came in: it says more and counts as full. Else prove '..UptoSaid'. A law counts once. -/
mutual
def uptoBulk {H : Type} : DataW H → Nat
  | .lit (.string bytes) => bytes.length + 1
  | .lit _ => 1
  | .nil => 1
  | .ptr d => uptoBulk d + 1
  | .slice elems spare => uptoBulkAll elems + uptoBulkAll spare + 1
  | .agg parts => uptoBulkAll parts + 1
  | .iface _ d => uptoBulk d + 1
  | .map entries => uptoBulkEntries entries + 1
  | .held _ => 1
def uptoBulkAll {H : Type} : List (DataW H) → Nat
  | [] => 0
  | d :: r => uptoBulk d + uptoBulkAll r
def uptoBulkEntries {H : Type} : List (Lit × DataW H) → Nat
  | [] => 0
  | x :: r => uptoBulkEntry x + uptoBulkEntries r
def uptoBulkEntry {H : Type} : Lit × DataW H → Nat
  | (.string bytes, d) => bytes.length + uptoBulk d + 1
  | (_, d) => uptoBulk d + 1
 end
def uptoSmall : (H : Type) → List (DataW H) → Bool := fun _ ds => decide (uptoBulkAll ds ≤ 1048576)
def OpenSpec.upto (s : _root_.Go.ChangeSpec) : _root_.Go.OpenSpec := { _root_.Go.OpenSpec.ofChange s with cond := some uptoSmall }

/-- 'nestboxlaw33.ScriptsParse', WHERE WHAT IT READS IS OF BULK AT MOST 1048576: true; the input reads as it did. -/
def scriptsParseUptoRow : OpenClaim := { program := "ytcmogfdbjppdeaa", sum := "fd9d6e23ee3223349e3365fe948d6de0a334a4c36b410b75cc3745bca1a6c8a3", func := "nestbox/nestboxlaw33.ScriptsParse", spec := "scriptsParse", apart := false, narrowed := true }
def ScriptsParseUptoSaid : Prop := scriptsParseUptoRow.holds Try.pinned (OpenSpec.upto scriptsParseSpec)

/-- 'nestboxlaw33.ScriptsPrint', WHERE WHAT IT READS IS OF BULK AT MOST 1048576: true; the input reads as it did. -/
def scriptsPrintUptoRow : OpenClaim := { program := "ytcmogfdbjppdeaa", sum := "fd9d6e23ee3223349e3365fe948d6de0a334a4c36b410b75cc3745bca1a6c8a3", func := "nestbox/nestboxlaw33.ScriptsPrint", spec := "scriptsPrint", apart := false, narrowed := true }
def ScriptsPrintUptoSaid : Prop := scriptsPrintUptoRow.holds Try.pinned (OpenSpec.upto scriptsPrintSpec)

/-- 'nestboxlaw33.ScriptsBack', WHERE WHAT IT READS IS OF BULK AT MOST 1048576: true; the input reads as it did. -/
def scriptsBackUptoRow : OpenClaim := { program := "ytcmogfdbjppdeaa", sum := "fd9d6e23ee3223349e3365fe948d6de0a334a4c36b410b75cc3745bca1a6c8a3", func := "nestbox/nestboxlaw33.ScriptsBack", spec := "scriptsBack", apart := false, narrowed := true }
def ScriptsBackUptoSaid : Prop := scriptsBackUptoRow.holds Try.pinned (OpenSpec.upto scriptsBackSpec)

/-- 'nestboxlaw33.ScriptsJoin', WHERE WHAT IT READS IS OF BULK AT MOST 1048576: true; the input reads as it did. -/
def scriptsJoinUptoRow : OpenClaim := { program := "ytcmogfdbjppdeaa", sum := "fd9d6e23ee3223349e3365fe948d6de0a334a4c36b410b75cc3745bca1a6c8a3", func := "nestbox/nestboxlaw33.ScriptsJoin", spec := "scriptsJoin", apart := false, narrowed := true }
def ScriptsJoinUptoSaid : Prop := scriptsJoinUptoRow.holds Try.pinned (OpenSpec.upto scriptsJoinSpec)

/-- 'nestboxlaw33.ScriptsByte', WHERE WHAT IT READS IS OF BULK AT MOST 1048576: true; the input reads as it did. -/
def scriptsByteUptoRow : OpenClaim := { program := "ytcmogfdbjppdeaa", sum := "fd9d6e23ee3223349e3365fe948d6de0a334a4c36b410b75cc3745bca1a6c8a3", func := "nestbox/nestboxlaw33.ScriptsByte", spec := "scriptsByte", apart := false, narrowed := true }
def ScriptsByteUptoSaid : Prop := scriptsByteUptoRow.holds Try.pinned (OpenSpec.upto scriptsByteSpec)

end Rows
end Go.Proofs.Ytcmogfdbjppdeaa
