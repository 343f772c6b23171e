/-
  No cell of these rows narrows 'for every input' (looked for: loops, veiled, ifaces, maps, wideKeys, modest, calm, conditions, laid).
  DERIVED. THE GIVEN ROWS OF THIS SEAT. 3 by the template 'for every input the law returns true; each argument reads behind the call as it read before'; 0 by the template 'total and deterministic' (their statements: YteofbgbjibbdaadTotals.lean).
  GIVEN WITH THE SEED: the statements are not yours to turn. If you find one false, say at which input.
  Laid BY PROGRAM, IN A SANDBOX (cutbox-rows.mjs): the forced cells as the released guide's own fill.sh prints them over the translation 37e766f955104ed5… (all of the seat's roots in one cut). By AI agents, Wed Nov 11 2026. No macro, syntax, notation, axiom, sorry.
-/
import Derived.Test.YteofbgbjibbdaadChecked
import GoSem.Claim
import GoSem.ClaimJoined
import GoSem.ClaimMapViews
import Derived.JoinedTies
import Derived.KernelRfl
namespace Go.Proofs.Yteofbgbjibbdaad
/- THE CELL 'sum', in the pinned program and in every row, IS THE sha256 OF THE DUMP (.gsa) THAT YteofbgbjibbdaadProg.lean LOADS. Nothing in Lean hashes anything: it is a label: what it is worth is what the hold of that sum in a sandbox is worth. -/
noncomputable def Try.pinned : Pinned := { name := "yteofbgbjibbdaad", sum := "37e766f955104ed5bef9f757a0371517c0cc413eaedd7dae7abb4dc626aab6b0", checked := Try.checked }
namespace Rows
def none {H : Type} : Left H := { results := [], args := [] }

/-- 'nestboxlaw09.NotesDropped': WHATEVER THE INPUT: true; the input reads as it did. -/
def notesDroppedSpec : ChangeSpec := { name := "notesDropped", fn := fun _ => fun
  | [d1, d2] => { results := [.lit (.bool true)], args := [d1, d2] }
  | _ => none }
def notesDroppedRow : OpenClaim := { program := "yteofbgbjibbdaad", sum := "37e766f955104ed5bef9f757a0371517c0cc413eaedd7dae7abb4dc626aab6b0", func := "nestbox/nestboxlaw09.NotesDropped", spec := "notesDropped", unfollowed := true, recurses := true, apart := false }
def NotesDroppedSaid : Prop := notesDroppedRow.holds Try.pinned (OpenSpec.ofChange notesDroppedSpec)

/-- ITS FALSE NEIGHBOUR: 'it returns false'. Refute it at one input. -/
def notesDroppedWrong : ChangeSpec := { name := "notesDropped", fn := fun _ => fun
  | [d1, d2] => { results := [.lit (.bool false)], args := [d1, d2] }
  | _ => none }
def NotesDroppedWrongFalsely : Prop := notesDroppedRow.holds Try.pinned (OpenSpec.ofChange notesDroppedWrong)

/-- 'nestboxlaw09.NotesKinds': WHATEVER THE INPUT: true; the input reads as it did. -/
def notesKindsSpec : ChangeSpec := { name := "notesKinds", fn := fun _ => fun
  | [d1, d2] => { results := [.lit (.bool true)], args := [d1, d2] }
  | _ => none }
def notesKindsRow : OpenClaim := { program := "yteofbgbjibbdaad", sum := "37e766f955104ed5bef9f757a0371517c0cc413eaedd7dae7abb4dc626aab6b0", func := "nestbox/nestboxlaw09.NotesKinds", spec := "notesKinds", unfollowed := true, recurses := true, apart := false }
def NotesKindsSaid : Prop := notesKindsRow.holds Try.pinned (OpenSpec.ofChange notesKindsSpec)

/-- ITS FALSE NEIGHBOUR: 'it returns false'. Refute it at one input. -/
def notesKindsWrong : ChangeSpec := { name := "notesKinds", fn := fun _ => fun
  | [d1, d2] => { results := [.lit (.bool false)], args := [d1, d2] }
  | _ => none }
def NotesKindsWrongFalsely : Prop := notesKindsRow.holds Try.pinned (OpenSpec.ofChange notesKindsWrong)

/-- 'nestboxlaw09.NotesFull': WHATEVER THE INPUT: true; the input reads as it did. -/
def notesFullSpec : ChangeSpec := { name := "notesFull", fn := fun _ => fun
  | [] => { results := [.lit (.bool true)], args := [] }
  | _ => none }
def notesFullRow : OpenClaim := { program := "yteofbgbjibbdaad", sum := "37e766f955104ed5bef9f757a0371517c0cc413eaedd7dae7abb4dc626aab6b0", func := "nestbox/nestboxlaw09.NotesFull", spec := "notesFull", unfollowed := true, recurses := true, apart := false }
def NotesFullSaid : Prop := notesFullRow.holds Try.pinned (OpenSpec.ofChange notesFullSpec)

/-- ITS FALSE NEIGHBOUR: 'it returns false'. Refute it at one input. -/
def notesFullWrong : ChangeSpec := { name := "notesFull", fn := fun _ => fun
  | [] => { results := [.lit (.bool false)], args := [] }
  | _ => none }
def NotesFullWrongFalsely : Prop := notesFullRow.holds Try.pinned (OpenSpec.ofChange notesFullWrong)

/- THE SECOND FORM. 'bulk': how many values and letters a reading holds, each counted each time it is reached (what is shared counts as often as it is met; a slice's spare places count too). A statement '..UptoSaid' is the law's where the arguments, and the package variables that the reading takes, are together of bulk at most 1048576: NARROWER than '..Said'. Prove '..Said' where nothing that the law and all that it calls make is longer than what came in: it says more and counts as full. Else prove '..UptoSaid'. A law counts once. -/
mutual
def uptoBulk {H : Type} : DataW H → Nat
  | .lit (.string bytes) => bytes.length + 1
  | .lit _ => 1
  | .nil => 1
  | .ptr d => uptoBulk d + 1
  | .slice elems spare => uptoBulkAll elems + uptoBulkAll spare + 1
  | .agg parts => uptoBulkAll parts + 1
  | .iface _ d => uptoBulk d + 1
  | .map entries => uptoBulkEntries entries + 1
  | .held _ => 1
def uptoBulkAll {H : Type} : List (DataW H) → Nat
  | [] => 0
  | d :: r => uptoBulk d + uptoBulkAll r
def uptoBulkEntries {H : Type} : List (Lit × DataW H) → Nat
  | [] => 0
  | x :: r => uptoBulkEntry x + uptoBulkEntries r
def uptoBulkEntry {H : Type} : Lit × DataW H → Nat
  | (.string bytes, d) => bytes.length + uptoBulk d + 1
  | (_, d) => uptoBulk d + 1
 end
def uptoSmall : (H : Type) → List (DataW H) → Bool := fun _ ds => decide (uptoBulkAll ds ≤ 1048576)
def OpenSpec.upto (s : _root_.Go.ChangeSpec) : _root_.Go.OpenSpec := { _root_.Go.OpenSpec.ofChange s with cond := some uptoSmall }

/-- 'nestboxlaw09.NotesDropped', WHERE WHAT IT READS IS OF BULK AT MOST 1048576: true; the input reads as it did. -/
def notesDroppedUptoRow : OpenClaim := { program := "yteofbgbjibbdaad", sum := "37e766f955104ed5bef9f757a0371517c0cc413eaedd7dae7abb4dc626aab6b0", func := "nestbox/nestboxlaw09.NotesDropped", spec := "notesDropped", unfollowed := true, recurses := true, apart := false, narrowed := true }
def NotesDroppedUptoSaid : Prop := notesDroppedUptoRow.holds Try.pinned (OpenSpec.upto notesDroppedSpec)

/-- 'nestboxlaw09.NotesKinds', WHERE WHAT IT READS IS OF BULK AT MOST 1048576: true; the input reads as it did. -/
def notesKindsUptoRow : OpenClaim := { program := "yteofbgbjibbdaad", sum := "37e766f955104ed5bef9f757a0371517c0cc413eaedd7dae7abb4dc626aab6b0", func := "nestbox/nestboxlaw09.NotesKinds", spec := "notesKinds", unfollowed := true, recurses := true, apart := false, narrowed := true }
def NotesKindsUptoSaid : Prop := notesKindsUptoRow.holds Try.pinned (OpenSpec.upto notesKindsSpec)

/-- 'nestboxlaw09.NotesFull', WHERE WHAT IT READS IS OF BULK AT MOST 1048576: true; the input reads as it did. -/
def notesFullUptoRow : OpenClaim := { program := "yteofbgbjibbdaad", sum := "37e766f955104ed5bef9f757a0371517c0cc413eaedd7dae7abb4dc626aab6b0", func := "nestbox/nestboxlaw09.NotesFull", spec := "notesFull", unfollowed := true, recurses := true, apart := false, narrowed := true }
def NotesFullUptoSaid : Prop := notesFullUptoRow.holds Try.pinned (OpenSpec.upto notesFullSpec)

end Rows
end Go.Proofs.Yteofbgbjibbdaad
