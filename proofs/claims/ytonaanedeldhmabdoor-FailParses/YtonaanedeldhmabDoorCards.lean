/-
  DERIVED. GIVEN WITH THE SEED: THE CARDS: each row of YtonaanedeldhmabDoorRows.lean that lists a variable, with what it lists TIED to the program's text (the seventh form; the later family's looks); each row that meets fmt, with fmt's text TOLD by the authors' own Lean function (tested against real Go, not proved from fmt's source: count such statements apart). THE CARD IS WHAT COUNTS. Prove the row's statement (the work); the ties are given (YtonaanedeldhmabDoorTie.lean); close each card by the builder's one call (the guide's Derived/Test/ToyasCard.lean, 'card_holds'). Laid BY PROGRAM, IN A SANDBOX (cutbox-door.mjs). By AI agents, Wed Nov 11 2026. No macro, syntax, notation, axiom, sorry.
-/
import Derived.Test.YtonaanedeldhmabDoorRows
import GoSem.ClaimSeven
namespace Go.Proofs.YtonaanedeldhmabDoor
namespace Rows

/-- THE TIED CARD OF 'turnbucklelaw02.FailParses'. -/
def failParsesCard : Claim7 := { stood := { row := failParsesRow, standIns := [], harness := (true, "6f2f1eb41e3cac8e65f9ea939fa823a0eb8e666a9f35ba58c7ddfae8b1eddf39"), looks := true }, kinds := [], alts := [], laidByText := true, laidKinds := [.data, .data, .data, .data, .sentinel, .sentinel, .data, .pinned], laidTests := true, laidLooks := .later }
def FailParsesCardSaid : Prop := Claim7.holds Tryd.pinned (.plain (OpenSpec.ofChange failParsesSpec)) failParsesCard

/-- THE TIED CARD OF 'turnbucklelaw02.FailFirst'. -/
def failFirstCard : Claim7 := { stood := { row := failFirstRow, standIns := [], harness := (true, "6f2f1eb41e3cac8e65f9ea939fa823a0eb8e666a9f35ba58c7ddfae8b1eddf39"), looks := true }, kinds := [], alts := [], laidByText := true, laidKinds := [.data, .data, .data, .data, .sentinel, .sentinel, .data, .pinned], laidTests := true, laidLooks := .later }
def FailFirstCardSaid : Prop := Claim7.holds Tryd.pinned (.plain (OpenSpec.ofChange failFirstSpec)) failFirstCard

/-- THE TIED CARD OF 'turnbucklelaw02.FailApart'. -/
def failApartCard : Claim7 := { stood := { row := failApartRow, standIns := [], harness := (true, "6f2f1eb41e3cac8e65f9ea939fa823a0eb8e666a9f35ba58c7ddfae8b1eddf39"), looks := true }, kinds := [], alts := [], laidByText := true, laidKinds := [.data, .data, .data, .data, .sentinel, .sentinel, .data, .pinned], laidTests := true, laidLooks := .later }
def FailApartCardSaid : Prop := Claim7.holds Tryd.pinned (.plain (OpenSpec.ofChange failApartSpec)) failApartCard

/-- THE SECOND FORM's CARD OF 'turnbucklelaw02.FailParses'. -/
def failParsesUptoCard : Claim7 := { stood := { row := failParsesUptoRow, standIns := [], harness := (true, "6f2f1eb41e3cac8e65f9ea939fa823a0eb8e666a9f35ba58c7ddfae8b1eddf39"), looks := true }, kinds := [], alts := [], laidByText := true, laidKinds := [.data, .data, .data, .data, .sentinel, .sentinel, .data, .pinned], laidTests := true, laidLooks := .later }
def FailParsesUptoCardSaid : Prop := Claim7.holds Tryd.pinned (.plain (OpenSpec.upto failParsesSpec)) failParsesUptoCard

/-- THE SECOND FORM's CARD OF 'turnbucklelaw02.FailFirst'. -/
def failFirstUptoCard : Claim7 := { stood := { row := failFirstUptoRow, standIns := [], harness := (true, "6f2f1eb41e3cac8e65f9ea939fa823a0eb8e666a9f35ba58c7ddfae8b1eddf39"), looks := true }, kinds := [], alts := [], laidByText := true, laidKinds := [.data, .data, .data, .data, .sentinel, .sentinel, .data, .pinned], laidTests := true, laidLooks := .later }
def FailFirstUptoCardSaid : Prop := Claim7.holds Tryd.pinned (.plain (OpenSpec.upto failFirstSpec)) failFirstUptoCard

/-- THE SECOND FORM's CARD OF 'turnbucklelaw02.FailApart'. -/
def failApartUptoCard : Claim7 := { stood := { row := failApartUptoRow, standIns := [], harness := (true, "6f2f1eb41e3cac8e65f9ea939fa823a0eb8e666a9f35ba58c7ddfae8b1eddf39"), looks := true }, kinds := [], alts := [], laidByText := true, laidKinds := [.data, .data, .data, .data, .sentinel, .sentinel, .data, .pinned], laidTests := true, laidLooks := .later }
def FailApartUptoCardSaid : Prop := Claim7.holds Tryd.pinned (.plain (OpenSpec.upto failApartSpec)) failApartUptoCard
end Rows
end Go.Proofs.YtonaanedeldhmabDoor
