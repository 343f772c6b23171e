/-
  DERIVED. GIVEN WITH THE SEED: THE CARDS: each row of YteofbgbjibbdaaaDoorRows.lean that lists a variable, with what it lists TIED to the program's text (the seventh form; the later family's looks); each row that meets fmt, with fmt's text TOLD by the authors' own Lean function (tested against real Go, not proved from fmt's source: count such statements apart). THE CARD IS WHAT COUNTS. Prove the row's statement (the work); the ties are given (YteofbgbjibbdaaaDoorTie.lean); close each card by the builder's one call (the guide's Derived/Test/ToyasCard.lean, 'card_holds'). Laid BY PROGRAM, IN A SANDBOX (cutbox-door.mjs). By AI agents, Wed Nov 11 2026. No macro, syntax, notation, axiom, sorry.
-/
import Derived.Test.YteofbgbjibbdaaaDoorRows
import GoSem.ClaimSeven
namespace Go.Proofs.YteofbgbjibbdaaaDoor
namespace Rows

/-- THE TIED CARD OF 'nestboxlaw03.KeysJoin'. -/
def keysJoinCard : Claim7 := { stood := { row := keysJoinRow, standIns := [], harness := (true, "cb34defa3f3ac3f0674a2cf9ffea8a454d43f413c9a1485a3bca6f13e8f88ef2"), looks := false }, kinds := [], alts := [], laidByText := true, laidKinds := [.data, .pinned], laidTests := true, laidLooks := .later }
def KeysJoinCardSaid : Prop := Claim7.holds Tryd.pinned (.plain (OpenSpec.ofChange keysJoinSpec)) keysJoinCard

/-- THE TIED CARD OF 'nestboxlaw04.NumsCount'. -/
def numsCountCard : Claim7 := { stood := { row := numsCountRow, standIns := [], harness := (true, "cb34defa3f3ac3f0674a2cf9ffea8a454d43f413c9a1485a3bca6f13e8f88ef2"), looks := false }, kinds := [], alts := [], laidByText := true, laidKinds := [.data, .data, .data], laidTests := true, laidLooks := .later }
def NumsCountCardSaid : Prop := Claim7.holds Tryd.pinned (.plain (OpenSpec.ofChange numsCountSpec)) numsCountCard

/-- THE TIED CARD OF 'nestboxlaw04.NumsBack'. -/
def numsBackCard : Claim7 := { stood := { row := numsBackRow, standIns := [], harness := (true, "cb34defa3f3ac3f0674a2cf9ffea8a454d43f413c9a1485a3bca6f13e8f88ef2"), looks := false }, kinds := [], alts := [], laidByText := true, laidKinds := [.data, .data, .data], laidTests := true, laidLooks := .later }
def NumsBackCardSaid : Prop := Claim7.holds Tryd.pinned (.plain (OpenSpec.ofChange numsBackSpec)) numsBackCard

/-- THE TIED CARD OF 'nestboxlaw04.NumsOrder'. -/
def numsOrderCard : Claim7 := { stood := { row := numsOrderRow, standIns := [], harness := (true, "cb34defa3f3ac3f0674a2cf9ffea8a454d43f413c9a1485a3bca6f13e8f88ef2"), looks := false }, kinds := [], alts := [], laidByText := true, laidKinds := [.data, .data, .data], laidTests := true, laidLooks := .later }
def NumsOrderCardSaid : Prop := Claim7.holds Tryd.pinned (.plain (OpenSpec.ofChange numsOrderSpec)) numsOrderCard

/-- THE TIED CARD OF 'nestboxlaw04.NumsByte'. -/
def numsByteCard : Claim7 := { stood := { row := numsByteRow, standIns := [], harness := (true, "cb34defa3f3ac3f0674a2cf9ffea8a454d43f413c9a1485a3bca6f13e8f88ef2"), looks := false }, kinds := [], alts := [], laidByText := true, laidKinds := [.data, .data, .data], laidTests := true, laidLooks := .later }
def NumsByteCardSaid : Prop := Claim7.holds Tryd.pinned (.plain (OpenSpec.ofChange numsByteSpec)) numsByteCard

/-- THE SECOND FORM's CARD OF 'nestboxlaw03.KeysJoin'. -/
def keysJoinUptoCard : Claim7 := { stood := { row := keysJoinUptoRow, standIns := [], harness := (true, "cb34defa3f3ac3f0674a2cf9ffea8a454d43f413c9a1485a3bca6f13e8f88ef2"), looks := false }, kinds := [], alts := [], laidByText := true, laidKinds := [.data, .pinned], laidTests := true, laidLooks := .later }
def KeysJoinUptoCardSaid : Prop := Claim7.holds Tryd.pinned (.plain (OpenSpec.upto keysJoinSpec)) keysJoinUptoCard

/-- THE SECOND FORM's CARD OF 'nestboxlaw04.NumsCount'. -/
def numsCountUptoCard : Claim7 := { stood := { row := numsCountUptoRow, standIns := [], harness := (true, "cb34defa3f3ac3f0674a2cf9ffea8a454d43f413c9a1485a3bca6f13e8f88ef2"), looks := false }, kinds := [], alts := [], laidByText := true, laidKinds := [.data, .data, .data], laidTests := true, laidLooks := .later }
def NumsCountUptoCardSaid : Prop := Claim7.holds Tryd.pinned (.plain (OpenSpec.upto numsCountSpec)) numsCountUptoCard

/-- THE SECOND FORM's CARD OF 'nestboxlaw04.NumsBack'. -/
def numsBackUptoCard : Claim7 := { stood := { row := numsBackUptoRow, standIns := [], harness := (true, "cb34defa3f3ac3f0674a2cf9ffea8a454d43f413c9a1485a3bca6f13e8f88ef2"), looks := false }, kinds := [], alts := [], laidByText := true, laidKinds := [.data, .data, .data], laidTests := true, laidLooks := .later }
def NumsBackUptoCardSaid : Prop := Claim7.holds Tryd.pinned (.plain (OpenSpec.upto numsBackSpec)) numsBackUptoCard

/-- THE SECOND FORM's CARD OF 'nestboxlaw04.NumsOrder'. -/
def numsOrderUptoCard : Claim7 := { stood := { row := numsOrderUptoRow, standIns := [], harness := (true, "cb34defa3f3ac3f0674a2cf9ffea8a454d43f413c9a1485a3bca6f13e8f88ef2"), looks := false }, kinds := [], alts := [], laidByText := true, laidKinds := [.data, .data, .data], laidTests := true, laidLooks := .later }
def NumsOrderUptoCardSaid : Prop := Claim7.holds Tryd.pinned (.plain (OpenSpec.upto numsOrderSpec)) numsOrderUptoCard

/-- THE SECOND FORM's CARD OF 'nestboxlaw04.NumsByte'. -/
def numsByteUptoCard : Claim7 := { stood := { row := numsByteUptoRow, standIns := [], harness := (true, "cb34defa3f3ac3f0674a2cf9ffea8a454d43f413c9a1485a3bca6f13e8f88ef2"), looks := false }, kinds := [], alts := [], laidByText := true, laidKinds := [.data, .data, .data], laidTests := true, laidLooks := .later }
def NumsByteUptoCardSaid : Prop := Claim7.holds Tryd.pinned (.plain (OpenSpec.upto numsByteSpec)) numsByteUptoCard
end Rows
end Go.Proofs.YteofbgbjibbdaaaDoor
