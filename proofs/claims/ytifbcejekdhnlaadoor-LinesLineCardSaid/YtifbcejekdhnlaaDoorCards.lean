/-
  DERIVED. GIVEN WITH THE SEED: THE CARDS: each row of YtifbcejekdhnlaaDoorRows.lean that lists a variable, with what it lists TIED to the program's text (the seventh form; the later family's looks); each row that meets fmt, with fmt's text TOLD by the authors' own Lean function (tested against real Go, not proved from fmt's source: count such statements apart). THE CARD IS WHAT COUNTS. Prove the row's statement (the work); the ties are given (YtifbcejekdhnlaaDoorTie.lean); close each card by the builder's one call (the guide's Derived/Test/ToyasCard.lean, 'card_holds'). Laid BY PROGRAM, IN A SANDBOX (cutbox-door.mjs). By AI agents, Wed Nov 11 2026. No macro, syntax, notation, axiom, sorry.
-/
import Derived.Test.YtifbcejekdhnlaaDoorRows
import GoSem.ClaimSeven
namespace Go.Proofs.YtifbcejekdhnlaaDoor
namespace Rows

/-- THE TIED CARD OF 'nestboxlaw29.LinesParse'. -/
def linesParseCard : Claim7 := { stood := { row := linesParseRow, standIns := [], harness := (true, "4ae747049c40a8be7e668e12985fedae3cec2baa93528323367f54400a7c945b"), looks := false }, kinds := [], alts := [], laidByText := true, laidKinds := [.data, .data, .data], laidTests := true, laidLooks := .later }
def LinesParseCardSaid : Prop := Claim7.holds Tryd.pinned (.plain (OpenSpec.ofChange linesParseSpec)) linesParseCard

/-- THE TIED CARD OF 'nestboxlaw29.LinesLine'. -/
def linesLineCard : Claim7 := { stood := { row := linesLineRow, standIns := [], harness := (true, "4ae747049c40a8be7e668e12985fedae3cec2baa93528323367f54400a7c945b"), looks := false }, kinds := [], alts := [], laidByText := true, laidKinds := [.data, .data, .data], laidTests := true, laidLooks := .later }
def LinesLineCardSaid : Prop := Claim7.holds Tryd.pinned (.plain (OpenSpec.ofChange linesLineSpec)) linesLineCard

/-- THE TIED CARD OF 'nestboxlaw29.LinesBack'. -/
def linesBackCard : Claim7 := { stood := { row := linesBackRow, standIns := [], harness := (true, "4ae747049c40a8be7e668e12985fedae3cec2baa93528323367f54400a7c945b"), looks := false }, kinds := [], alts := [], laidByText := true, laidKinds := [.data, .data, .data], laidTests := true, laidLooks := .later }
def LinesBackCardSaid : Prop := Claim7.holds Tryd.pinned (.plain (OpenSpec.ofChange linesBackSpec)) linesBackCard

/-- THE TIED CARD OF 'nestboxlaw29.LinesBlanks'. -/
def linesBlanksCard : Claim7 := { stood := { row := linesBlanksRow, standIns := [], harness := (true, "4ae747049c40a8be7e668e12985fedae3cec2baa93528323367f54400a7c945b"), looks := false }, kinds := [], alts := [], laidByText := true, laidKinds := [.data, .data, .data], laidTests := true, laidLooks := .later }
def LinesBlanksCardSaid : Prop := Claim7.holds Tryd.pinned (.plain (OpenSpec.ofChange linesBlanksSpec)) linesBlanksCard

/-- THE TIED CARD OF 'nestboxlaw29.LinesWords'. -/
def linesWordsCard : Claim7 := { stood := { row := linesWordsRow, standIns := [], harness := (true, "4ae747049c40a8be7e668e12985fedae3cec2baa93528323367f54400a7c945b"), looks := false }, kinds := [], alts := [], laidByText := true, laidKinds := [.data, .data, .data, .data, .pinned, .pinned], laidTests := true, laidLooks := .later }
def LinesWordsCardSaid : Prop := Claim7.holds Tryd.pinned (.plain (OpenSpec.ofChange linesWordsSpec)) linesWordsCard

/-- THE TIED CARD OF 'nestboxlaw30.FeedsBack'. -/
def feedsBackCard : Claim7 := { stood := { row := feedsBackRow, standIns := [], harness := (true, "4ae747049c40a8be7e668e12985fedae3cec2baa93528323367f54400a7c945b"), looks := false }, kinds := [], alts := [], laidByText := true, laidKinds := [.data, .data, .data], laidTests := true, laidLooks := .later }
def FeedsBackCardSaid : Prop := Claim7.holds Tryd.pinned (.plain (OpenSpec.ofChange feedsBackSpec)) feedsBackCard

/-- THE SECOND FORM's CARD OF 'nestboxlaw29.LinesParse'. -/
def linesParseUptoCard : Claim7 := { stood := { row := linesParseUptoRow, standIns := [], harness := (true, "4ae747049c40a8be7e668e12985fedae3cec2baa93528323367f54400a7c945b"), looks := false }, kinds := [], alts := [], laidByText := true, laidKinds := [.data, .data, .data], laidTests := true, laidLooks := .later }
def LinesParseUptoCardSaid : Prop := Claim7.holds Tryd.pinned (.plain (OpenSpec.upto linesParseSpec)) linesParseUptoCard

/-- THE SECOND FORM's CARD OF 'nestboxlaw29.LinesLine'. -/
def linesLineUptoCard : Claim7 := { stood := { row := linesLineUptoRow, standIns := [], harness := (true, "4ae747049c40a8be7e668e12985fedae3cec2baa93528323367f54400a7c945b"), looks := false }, kinds := [], alts := [], laidByText := true, laidKinds := [.data, .data, .data], laidTests := true, laidLooks := .later }
def LinesLineUptoCardSaid : Prop := Claim7.holds Tryd.pinned (.plain (OpenSpec.upto linesLineSpec)) linesLineUptoCard

/-- THE SECOND FORM's CARD OF 'nestboxlaw29.LinesBack'. -/
def linesBackUptoCard : Claim7 := { stood := { row := linesBackUptoRow, standIns := [], harness := (true, "4ae747049c40a8be7e668e12985fedae3cec2baa93528323367f54400a7c945b"), looks := false }, kinds := [], alts := [], laidByText := true, laidKinds := [.data, .data, .data], laidTests := true, laidLooks := .later }
def LinesBackUptoCardSaid : Prop := Claim7.holds Tryd.pinned (.plain (OpenSpec.upto linesBackSpec)) linesBackUptoCard

/-- THE SECOND FORM's CARD OF 'nestboxlaw29.LinesBlanks'. -/
def linesBlanksUptoCard : Claim7 := { stood := { row := linesBlanksUptoRow, standIns := [], harness := (true, "4ae747049c40a8be7e668e12985fedae3cec2baa93528323367f54400a7c945b"), looks := false }, kinds := [], alts := [], laidByText := true, laidKinds := [.data, .data, .data], laidTests := true, laidLooks := .later }
def LinesBlanksUptoCardSaid : Prop := Claim7.holds Tryd.pinned (.plain (OpenSpec.upto linesBlanksSpec)) linesBlanksUptoCard

/-- THE SECOND FORM's CARD OF 'nestboxlaw29.LinesWords'. -/
def linesWordsUptoCard : Claim7 := { stood := { row := linesWordsUptoRow, standIns := [], harness := (true, "4ae747049c40a8be7e668e12985fedae3cec2baa93528323367f54400a7c945b"), looks := false }, kinds := [], alts := [], laidByText := true, laidKinds := [.data, .data, .data, .data, .pinned, .pinned], laidTests := true, laidLooks := .later }
def LinesWordsUptoCardSaid : Prop := Claim7.holds Tryd.pinned (.plain (OpenSpec.upto linesWordsSpec)) linesWordsUptoCard

/-- THE SECOND FORM's CARD OF 'nestboxlaw30.FeedsBack'. -/
def feedsBackUptoCard : Claim7 := { stood := { row := feedsBackUptoRow, standIns := [], harness := (true, "4ae747049c40a8be7e668e12985fedae3cec2baa93528323367f54400a7c945b"), looks := false }, kinds := [], alts := [], laidByText := true, laidKinds := [.data, .data, .data], laidTests := true, laidLooks := .later }
def FeedsBackUptoCardSaid : Prop := Claim7.holds Tryd.pinned (.plain (OpenSpec.upto feedsBackSpec)) feedsBackUptoCard
end Rows
end Go.Proofs.YtifbcejekdhnlaaDoor
