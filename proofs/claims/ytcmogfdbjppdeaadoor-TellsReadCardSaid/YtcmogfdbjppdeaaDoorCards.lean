/-
  DERIVED. GIVEN WITH THE SEED: THE CARDS: each row of YtcmogfdbjppdeaaDoorRows.lean that lists a variable, with what it lists TIED to the program's text (the seventh form; the later family's looks); each row that meets fmt, with fmt's text TOLD by the authors' own Lean function (tested against real Go, not proved from fmt's source: count such statements apart). THE CARD IS WHAT COUNTS. Prove the row's statement (the work); the ties are given (YtcmogfdbjppdeaaDoorTie.lean); close each card by the builder's one call (the guide's Derived/Test/ToyasCard.lean, 'card_holds'). Laid BY PROGRAM, IN A SANDBOX (cutbox-door.mjs). By AI agents, Wed Nov 11 2026. No macro, syntax, notation, axiom, sorry.
-/
import Derived.Test.YtcmogfdbjppdeaaDoorRows
import GoSem.ClaimSeven
namespace Go.Proofs.YtcmogfdbjppdeaaDoor
namespace Rows

/-- THE TIED CARD OF 'nestboxlaw31.TellsLine'. -/
def tellsLineCard : Claim7 := { stood := { row := tellsLineRow, standIns := [], harness := (true, "e3f8b2f44c4532bb52b74bb92df01620a1724089ba9400c41f0cb895d2ce330a"), looks := false }, kinds := [], alts := [], laidByText := true, laidKinds := [.data, .data, .data], laidTests := true, laidLooks := .later }
def TellsLineCardSaid : Prop := Claim7.holds Tryd.pinned (.plain (OpenSpec.ofChange tellsLineSpec)) tellsLineCard

/-- THE TIED CARD OF 'nestboxlaw31.TellsValue'. -/
def tellsValueCard : Claim7 := { stood := { row := tellsValueRow, standIns := [], harness := (true, "e3f8b2f44c4532bb52b74bb92df01620a1724089ba9400c41f0cb895d2ce330a"), looks := false }, kinds := [], alts := [], laidByText := true, laidKinds := [.data, .data, .data], laidTests := true, laidLooks := .later }
def TellsValueCardSaid : Prop := Claim7.holds Tryd.pinned (.plain (OpenSpec.ofChange tellsValueSpec)) tellsValueCard

/-- THE TIED CARD OF 'nestboxlaw31.TellsUnlike'. -/
def tellsUnlikeCard : Claim7 := { stood := { row := tellsUnlikeRow, standIns := [], harness := (true, "e3f8b2f44c4532bb52b74bb92df01620a1724089ba9400c41f0cb895d2ce330a"), looks := false }, kinds := [], alts := [], laidByText := true, laidKinds := [.data, .data, .data], laidTests := true, laidLooks := .later }
def TellsUnlikeCardSaid : Prop := Claim7.holds Tryd.pinned (.plain (OpenSpec.ofChange tellsUnlikeSpec)) tellsUnlikeCard

/-- THE TIED CARD OF 'nestboxlaw31.TellsNumber'. -/
def tellsNumberCard : Claim7 := { stood := { row := tellsNumberRow, standIns := [], harness := (true, "e3f8b2f44c4532bb52b74bb92df01620a1724089ba9400c41f0cb895d2ce330a"), looks := false }, kinds := [], alts := [], laidByText := true, laidKinds := [.data, .data, .data], laidTests := true, laidLooks := .later }
def TellsNumberCardSaid : Prop := Claim7.holds Tryd.pinned (.plain (OpenSpec.ofChange tellsNumberSpec)) tellsNumberCard

/-- THE TIED CARD OF 'nestboxlaw31.TellsRead'. -/
def tellsReadCard : Claim7 := { stood := { row := tellsReadRow, standIns := [], harness := (true, "e3f8b2f44c4532bb52b74bb92df01620a1724089ba9400c41f0cb895d2ce330a"), looks := false }, kinds := [], alts := [], laidByText := true, laidKinds := [.data, .data, .data], laidTests := true, laidLooks := .later }
def TellsReadCardSaid : Prop := Claim7.holds Tryd.pinned (.plain (OpenSpec.ofChange tellsReadSpec)) tellsReadCard

/-- THE SECOND FORM's CARD OF 'nestboxlaw31.TellsLine'. -/
def tellsLineUptoCard : Claim7 := { stood := { row := tellsLineUptoRow, standIns := [], harness := (true, "e3f8b2f44c4532bb52b74bb92df01620a1724089ba9400c41f0cb895d2ce330a"), looks := false }, kinds := [], alts := [], laidByText := true, laidKinds := [.data, .data, .data], laidTests := true, laidLooks := .later }
def TellsLineUptoCardSaid : Prop := Claim7.holds Tryd.pinned (.plain (OpenSpec.upto tellsLineSpec)) tellsLineUptoCard

/-- THE SECOND FORM's CARD OF 'nestboxlaw31.TellsValue'. -/
def tellsValueUptoCard : Claim7 := { stood := { row := tellsValueUptoRow, standIns := [], harness := (true, "e3f8b2f44c4532bb52b74bb92df01620a1724089ba9400c41f0cb895d2ce330a"), looks := false }, kinds := [], alts := [], laidByText := true, laidKinds := [.data, .data, .data], laidTests := true, laidLooks := .later }
def TellsValueUptoCardSaid : Prop := Claim7.holds Tryd.pinned (.plain (OpenSpec.upto tellsValueSpec)) tellsValueUptoCard

/-- THE SECOND FORM's CARD OF 'nestboxlaw31.TellsUnlike'. -/
def tellsUnlikeUptoCard : Claim7 := { stood := { row := tellsUnlikeUptoRow, standIns := [], harness := (true, "e3f8b2f44c4532bb52b74bb92df01620a1724089ba9400c41f0cb895d2ce330a"), looks := false }, kinds := [], alts := [], laidByText := true, laidKinds := [.data, .data, .data], laidTests := true, laidLooks := .later }
def TellsUnlikeUptoCardSaid : Prop := Claim7.holds Tryd.pinned (.plain (OpenSpec.upto tellsUnlikeSpec)) tellsUnlikeUptoCard

/-- THE SECOND FORM's CARD OF 'nestboxlaw31.TellsNumber'. -/
def tellsNumberUptoCard : Claim7 := { stood := { row := tellsNumberUptoRow, standIns := [], harness := (true, "e3f8b2f44c4532bb52b74bb92df01620a1724089ba9400c41f0cb895d2ce330a"), looks := false }, kinds := [], alts := [], laidByText := true, laidKinds := [.data, .data, .data], laidTests := true, laidLooks := .later }
def TellsNumberUptoCardSaid : Prop := Claim7.holds Tryd.pinned (.plain (OpenSpec.upto tellsNumberSpec)) tellsNumberUptoCard

/-- THE SECOND FORM's CARD OF 'nestboxlaw31.TellsRead'. -/
def tellsReadUptoCard : Claim7 := { stood := { row := tellsReadUptoRow, standIns := [], harness := (true, "e3f8b2f44c4532bb52b74bb92df01620a1724089ba9400c41f0cb895d2ce330a"), looks := false }, kinds := [], alts := [], laidByText := true, laidKinds := [.data, .data, .data], laidTests := true, laidLooks := .later }
def TellsReadUptoCardSaid : Prop := Claim7.holds Tryd.pinned (.plain (OpenSpec.upto tellsReadSpec)) tellsReadUptoCard
end Rows
end Go.Proofs.YtcmogfdbjppdeaaDoor
