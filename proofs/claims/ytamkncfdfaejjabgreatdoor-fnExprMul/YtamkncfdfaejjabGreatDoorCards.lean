/-
  DERIVED. GIVEN WITH THE SEED: THE CARDS: each row of YtamkncfdfaejjabGreatDoorRows.lean that lists a variable, with what it lists TIED to the program's text (the seventh form; the later family's looks); each row that meets fmt, with fmt's text TOLD by the authors' own Lean function (tested against real Go, not proved from fmt's source: count such statements apart). THE CARD IS WHAT COUNTS. Prove the row's statement (the work); the ties are given (YtamkncfdfaejjabGreatDoorTie.lean); close each card by the builder's one call (the guide's Derived/Test/ToyasCard.lean, 'card_holds'). Laid BY PROGRAM, IN A SANDBOX (cutbox-door.mjs). By AI agents, Wed Nov 11 2026. No macro, syntax, notation, axiom, sorry.
-/
import Derived.Test.YtamkncfdfaejjabGreatDoorRows
import GoSem.ClaimSeven
namespace Go.Proofs.YtamkncfdfaejjabGreatDoor
namespace Rows

/-- THE TIED CARD OF 'laws.FnExprPlus'. -/
def fnExprPlusCard : Claim7 := { stood := { row := fnExprPlusRow, standIns := [], harness := (true, "a681ec0f1a9b07d44db4055c43cd7f36f73431963d6b906bc89cdf05647ba64e"), looks := true }, kinds := [], alts := [], laidByText := true, laidKinds := [.handle], laidTests := true, laidLooks := .later }
def FnExprPlusCardSaid : Prop := Claim7.holds Tryz.pinned (.plain (OpenSpec.ofChange fnExprPlusSpec)) fnExprPlusCard

/-- THE TIED CARD OF 'laws.FnExprMul'. -/
def fnExprMulCard : Claim7 := { stood := { row := fnExprMulRow, standIns := [], harness := (true, "a681ec0f1a9b07d44db4055c43cd7f36f73431963d6b906bc89cdf05647ba64e"), looks := true }, kinds := [], alts := [], laidByText := true, laidKinds := [.handle], laidTests := true, laidLooks := .later }
def FnExprMulCardSaid : Prop := Claim7.holds Tryz.pinned (.plain (OpenSpec.ofChange fnExprMulSpec)) fnExprMulCard

/-- THE SECOND FORM's CARD OF 'laws.FnExprPlus'. -/
def fnExprPlusUptoCard : Claim7 := { stood := { row := fnExprPlusUptoRow, standIns := [], harness := (true, "a681ec0f1a9b07d44db4055c43cd7f36f73431963d6b906bc89cdf05647ba64e"), looks := true }, kinds := [], alts := [], laidByText := true, laidKinds := [.handle], laidTests := true, laidLooks := .later }
def FnExprPlusUptoCardSaid : Prop := Claim7.holds Tryz.pinned (.plain (OpenSpec.upto fnExprPlusSpec)) fnExprPlusUptoCard

/-- THE SECOND FORM's CARD OF 'laws.FnExprMul'. -/
def fnExprMulUptoCard : Claim7 := { stood := { row := fnExprMulUptoRow, standIns := [], harness := (true, "a681ec0f1a9b07d44db4055c43cd7f36f73431963d6b906bc89cdf05647ba64e"), looks := true }, kinds := [], alts := [], laidByText := true, laidKinds := [.handle], laidTests := true, laidLooks := .later }
def FnExprMulUptoCardSaid : Prop := Claim7.holds Tryz.pinned (.plain (OpenSpec.upto fnExprMulSpec)) fnExprMulUptoCard
end Rows
end Go.Proofs.YtamkncfdfaejjabGreatDoor
