/-
  DERIVED. GIVEN WITH THE SEED: THE CARDS: each row of YtmjklkcjinfmaaaDoorRows.lean that lists a variable, with what it lists TIED to the program's text (the seventh form; the later family's looks); each row that meets fmt, with fmt's text TOLD by the authors' own Lean function (tested against real Go, not proved from fmt's source: count such statements apart). THE CARD IS WHAT COUNTS. Prove the row's statement (the work); the ties are given (YtmjklkcjinfmaaaDoorTie.lean); close each card by the builder's one call (the guide's Derived/Test/ToyasCard.lean, 'card_holds'). Laid BY PROGRAM, IN A SANDBOX (cutbox-door.mjs). By AI agents, Wed Nov 11 2026. No macro, syntax, notation, axiom, sorry.
-/
import Derived.Test.YtmjklkcjinfmaaaDoorRows
import GoSem.ClaimSeven
namespace Go.Proofs.YtmjklkcjinfmaaaDoor
namespace Rows

/-- THE TIED CARD OF 'nestboxlaw36.MapsPlay'. -/
def mapsPlayCard : Claim7 := { stood := { row := mapsPlayRow, standIns := [], harness := (true, "8032b138e8c5ff8bed782aa40c5704e6bf8e6588e890dd9da4b7564da6b8cd64"), looks := false }, kinds := [], alts := [], laidByText := true, laidKinds := [.data, .data, .data], laidTests := true, laidLooks := .later }
def MapsPlayCardSaid : Prop := Claim7.holds Tryd.pinned (.plain (OpenSpec.ofChange mapsPlaySpec)) mapsPlayCard

/-- THE TIED CARD OF 'nestboxlaw36.MapsVoid'. -/
def mapsVoidCard : Claim7 := { stood := { row := mapsVoidRow, standIns := [], harness := (true, "8032b138e8c5ff8bed782aa40c5704e6bf8e6588e890dd9da4b7564da6b8cd64"), looks := false }, kinds := [], alts := [], laidByText := true, laidKinds := [.data, .data, .data], laidTests := true, laidLooks := .later }
def MapsVoidCardSaid : Prop := Claim7.holds Tryd.pinned (.plain (OpenSpec.ofChange mapsVoidSpec)) mapsVoidCard

/-- THE TIED CARD OF 'nestboxlaw36.MapsOne'. -/
def mapsOneCard : Claim7 := { stood := { row := mapsOneRow, standIns := [], harness := (true, "8032b138e8c5ff8bed782aa40c5704e6bf8e6588e890dd9da4b7564da6b8cd64"), looks := false }, kinds := [], alts := [], laidByText := true, laidKinds := [.data, .data, .data], laidTests := true, laidLooks := .later }
def MapsOneCardSaid : Prop := Claim7.holds Tryd.pinned (.plain (OpenSpec.ofChange mapsOneSpec)) mapsOneCard

/-- THE TIED CARD OF 'nestboxlaw36.MapsKeeps'. -/
def mapsKeepsCard : Claim7 := { stood := { row := mapsKeepsRow, standIns := [], harness := (true, "8032b138e8c5ff8bed782aa40c5704e6bf8e6588e890dd9da4b7564da6b8cd64"), looks := false }, kinds := [], alts := [], laidByText := true, laidKinds := [.data, .data, .data], laidTests := true, laidLooks := .later }
def MapsKeepsCardSaid : Prop := Claim7.holds Tryd.pinned (.plain (OpenSpec.ofChange mapsKeepsSpec)) mapsKeepsCard

/-- THE TIED CARD OF 'nestboxlaw36.MapsFlush'. -/
def mapsFlushCard : Claim7 := { stood := { row := mapsFlushRow, standIns := [], harness := (true, "8032b138e8c5ff8bed782aa40c5704e6bf8e6588e890dd9da4b7564da6b8cd64"), looks := false }, kinds := [], alts := [], laidByText := true, laidKinds := [.data, .data, .data], laidTests := true, laidLooks := .later }
def MapsFlushCardSaid : Prop := Claim7.holds Tryd.pinned (.plain (OpenSpec.ofChange mapsFlushSpec)) mapsFlushCard

/-- THE TIED CARD OF 'nestboxlaw36.MapsCounts'. -/
def mapsCountsCard : Claim7 := { stood := { row := mapsCountsRow, standIns := [], harness := (true, "8032b138e8c5ff8bed782aa40c5704e6bf8e6588e890dd9da4b7564da6b8cd64"), looks := false }, kinds := [], alts := [], laidByText := true, laidKinds := [.data, .data, .data], laidTests := true, laidLooks := .later }
def MapsCountsCardSaid : Prop := Claim7.holds Tryd.pinned (.plain (OpenSpec.ofChange mapsCountsSpec)) mapsCountsCard

/-- THE SECOND FORM's CARD OF 'nestboxlaw36.MapsPlay'. -/
def mapsPlayUptoCard : Claim7 := { stood := { row := mapsPlayUptoRow, standIns := [], harness := (true, "8032b138e8c5ff8bed782aa40c5704e6bf8e6588e890dd9da4b7564da6b8cd64"), looks := false }, kinds := [], alts := [], laidByText := true, laidKinds := [.data, .data, .data], laidTests := true, laidLooks := .later }
def MapsPlayUptoCardSaid : Prop := Claim7.holds Tryd.pinned (.plain (OpenSpec.upto mapsPlaySpec)) mapsPlayUptoCard

/-- THE SECOND FORM's CARD OF 'nestboxlaw36.MapsVoid'. -/
def mapsVoidUptoCard : Claim7 := { stood := { row := mapsVoidUptoRow, standIns := [], harness := (true, "8032b138e8c5ff8bed782aa40c5704e6bf8e6588e890dd9da4b7564da6b8cd64"), looks := false }, kinds := [], alts := [], laidByText := true, laidKinds := [.data, .data, .data], laidTests := true, laidLooks := .later }
def MapsVoidUptoCardSaid : Prop := Claim7.holds Tryd.pinned (.plain (OpenSpec.upto mapsVoidSpec)) mapsVoidUptoCard

/-- THE SECOND FORM's CARD OF 'nestboxlaw36.MapsOne'. -/
def mapsOneUptoCard : Claim7 := { stood := { row := mapsOneUptoRow, standIns := [], harness := (true, "8032b138e8c5ff8bed782aa40c5704e6bf8e6588e890dd9da4b7564da6b8cd64"), looks := false }, kinds := [], alts := [], laidByText := true, laidKinds := [.data, .data, .data], laidTests := true, laidLooks := .later }
def MapsOneUptoCardSaid : Prop := Claim7.holds Tryd.pinned (.plain (OpenSpec.upto mapsOneSpec)) mapsOneUptoCard

/-- THE SECOND FORM's CARD OF 'nestboxlaw36.MapsKeeps'. -/
def mapsKeepsUptoCard : Claim7 := { stood := { row := mapsKeepsUptoRow, standIns := [], harness := (true, "8032b138e8c5ff8bed782aa40c5704e6bf8e6588e890dd9da4b7564da6b8cd64"), looks := false }, kinds := [], alts := [], laidByText := true, laidKinds := [.data, .data, .data], laidTests := true, laidLooks := .later }
def MapsKeepsUptoCardSaid : Prop := Claim7.holds Tryd.pinned (.plain (OpenSpec.upto mapsKeepsSpec)) mapsKeepsUptoCard

/-- THE SECOND FORM's CARD OF 'nestboxlaw36.MapsFlush'. -/
def mapsFlushUptoCard : Claim7 := { stood := { row := mapsFlushUptoRow, standIns := [], harness := (true, "8032b138e8c5ff8bed782aa40c5704e6bf8e6588e890dd9da4b7564da6b8cd64"), looks := false }, kinds := [], alts := [], laidByText := true, laidKinds := [.data, .data, .data], laidTests := true, laidLooks := .later }
def MapsFlushUptoCardSaid : Prop := Claim7.holds Tryd.pinned (.plain (OpenSpec.upto mapsFlushSpec)) mapsFlushUptoCard

/-- THE SECOND FORM's CARD OF 'nestboxlaw36.MapsCounts'. -/
def mapsCountsUptoCard : Claim7 := { stood := { row := mapsCountsUptoRow, standIns := [], harness := (true, "8032b138e8c5ff8bed782aa40c5704e6bf8e6588e890dd9da4b7564da6b8cd64"), looks := false }, kinds := [], alts := [], laidByText := true, laidKinds := [.data, .data, .data], laidTests := true, laidLooks := .later }
def MapsCountsUptoCardSaid : Prop := Claim7.holds Tryd.pinned (.plain (OpenSpec.upto mapsCountsSpec)) mapsCountsUptoCard
end Rows
end Go.Proofs.YtmjklkcjinfmaaaDoor
