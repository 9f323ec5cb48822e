/-
  DERIVED. GIVEN WITH THE SEED: THE CARDS: each row of YtamkncfdfaejjaaGreatDoorRows.lean that lists a variable, with what it lists TIED to the program's text (the seventh form; the later family's looks); each row that meets fmt, with fmt's text TOLD by the authors' own Lean function (tested against real Go, not proved from fmt's source: count such statements apart). THE CARD IS WHAT COUNTS. Prove the row's statement (the work); the ties are given (YtamkncfdfaejjaaGreatDoorTie.lean); close each card by the builder's one call (the guide's Derived/Test/ToyasCard.lean, 'card_holds'). Laid BY PROGRAM, IN A SANDBOX (cutbox-door.mjs). By AI agents, Wed Nov 11 2026. No macro, syntax, notation, axiom, sorry.
-/
import Derived.Test.YtamkncfdfaejjaaGreatDoorRows
import GoSem.ClaimSeven
namespace Go.Proofs.YtamkncfdfaejjaaGreatDoor
namespace Rows

/-- THE TIED CARD OF 'laws.FnExactExprEval'. -/
def fnExactExprEvalCard : Claim7 := { stood := { row := fnExactExprEvalRow, standIns := [], harness := (true, "0d1ac6e27b6b507ab646b9ce43aa3125ce8f65025fe6a6322b6fe9da882cb2cc"), looks := true }, kinds := [], alts := [], laidByText := true, laidKinds := [.handle], laidTests := true, laidLooks := .later }
def FnExactExprEvalCardSaid : Prop := Claim7.holds Tryz.pinned (.plain (OpenSpec.ofChange fnExactExprEvalSpec)) fnExactExprEvalCard

/-- THE TIED CARD OF 'laws.FnExprNames'. -/
def fnExprNamesCard : Claim7 := { stood := { row := fnExprNamesRow, standIns := [], harness := (true, "0d1ac6e27b6b507ab646b9ce43aa3125ce8f65025fe6a6322b6fe9da882cb2cc"), looks := true }, kinds := [], alts := [], laidByText := true, laidKinds := [.handle], laidTests := true, laidLooks := .later }
def FnExprNamesCardSaid : Prop := Claim7.holds Tryz.pinned (.plain (OpenSpec.ofChange fnExprNamesSpec)) fnExprNamesCard

/-- THE TIED CARD OF 'laws.FnExprOrder'. -/
def fnExprOrderCard : Claim7 := { stood := { row := fnExprOrderRow, standIns := [], harness := (true, "0d1ac6e27b6b507ab646b9ce43aa3125ce8f65025fe6a6322b6fe9da882cb2cc"), looks := true }, kinds := [], alts := [], laidByText := true, laidKinds := [.handle], laidTests := true, laidLooks := .later }
def FnExprOrderCardSaid : Prop := Claim7.holds Tryz.pinned (.plain (OpenSpec.ofChange fnExprOrderSpec)) fnExprOrderCard

/-- THE TIED CARD OF 'laws.FnExprNot'. -/
def fnExprNotCard : Claim7 := { stood := { row := fnExprNotRow, standIns := [], harness := (true, "0d1ac6e27b6b507ab646b9ce43aa3125ce8f65025fe6a6322b6fe9da882cb2cc"), looks := true }, kinds := [], alts := [], laidByText := true, laidKinds := [.handle], laidTests := true, laidLooks := .later }
def FnExprNotCardSaid : Prop := Claim7.holds Tryz.pinned (.plain (OpenSpec.ofChange fnExprNotSpec)) fnExprNotCard

/-- THE TIED CARD OF 'laws.FnExprSame'. -/
def fnExprSameCard : Claim7 := { stood := { row := fnExprSameRow, standIns := [], harness := (true, "0d1ac6e27b6b507ab646b9ce43aa3125ce8f65025fe6a6322b6fe9da882cb2cc"), looks := true }, kinds := [], alts := [], laidByText := true, laidKinds := [.handle], laidTests := true, laidLooks := .later }
def FnExprSameCardSaid : Prop := Claim7.holds Tryz.pinned (.plain (OpenSpec.ofChange fnExprSameSpec)) fnExprSameCard

/-- THE TIED CARD OF 'laws.FnExprAnd'. -/
def fnExprAndCard : Claim7 := { stood := { row := fnExprAndRow, standIns := [], harness := (true, "0d1ac6e27b6b507ab646b9ce43aa3125ce8f65025fe6a6322b6fe9da882cb2cc"), looks := true }, kinds := [], alts := [], laidByText := true, laidKinds := [.handle], laidTests := true, laidLooks := .later }
def FnExprAndCardSaid : Prop := Claim7.holds Tryz.pinned (.plain (OpenSpec.ofChange fnExprAndSpec)) fnExprAndCard

/-- THE SECOND FORM's CARD OF 'laws.FnExactExprEval'. -/
def fnExactExprEvalUptoCard : Claim7 := { stood := { row := fnExactExprEvalUptoRow, standIns := [], harness := (true, "0d1ac6e27b6b507ab646b9ce43aa3125ce8f65025fe6a6322b6fe9da882cb2cc"), looks := true }, kinds := [], alts := [], laidByText := true, laidKinds := [.handle], laidTests := true, laidLooks := .later }
def FnExactExprEvalUptoCardSaid : Prop := Claim7.holds Tryz.pinned (.plain (OpenSpec.upto fnExactExprEvalSpec)) fnExactExprEvalUptoCard

/-- THE SECOND FORM's CARD OF 'laws.FnExprNames'. -/
def fnExprNamesUptoCard : Claim7 := { stood := { row := fnExprNamesUptoRow, standIns := [], harness := (true, "0d1ac6e27b6b507ab646b9ce43aa3125ce8f65025fe6a6322b6fe9da882cb2cc"), looks := true }, kinds := [], alts := [], laidByText := true, laidKinds := [.handle], laidTests := true, laidLooks := .later }
def FnExprNamesUptoCardSaid : Prop := Claim7.holds Tryz.pinned (.plain (OpenSpec.upto fnExprNamesSpec)) fnExprNamesUptoCard

/-- THE SECOND FORM's CARD OF 'laws.FnExprOrder'. -/
def fnExprOrderUptoCard : Claim7 := { stood := { row := fnExprOrderUptoRow, standIns := [], harness := (true, "0d1ac6e27b6b507ab646b9ce43aa3125ce8f65025fe6a6322b6fe9da882cb2cc"), looks := true }, kinds := [], alts := [], laidByText := true, laidKinds := [.handle], laidTests := true, laidLooks := .later }
def FnExprOrderUptoCardSaid : Prop := Claim7.holds Tryz.pinned (.plain (OpenSpec.upto fnExprOrderSpec)) fnExprOrderUptoCard

/-- THE SECOND FORM's CARD OF 'laws.FnExprNot'. -/
def fnExprNotUptoCard : Claim7 := { stood := { row := fnExprNotUptoRow, standIns := [], harness := (true, "0d1ac6e27b6b507ab646b9ce43aa3125ce8f65025fe6a6322b6fe9da882cb2cc"), looks := true }, kinds := [], alts := [], laidByText := true, laidKinds := [.handle], laidTests := true, laidLooks := .later }
def FnExprNotUptoCardSaid : Prop := Claim7.holds Tryz.pinned (.plain (OpenSpec.upto fnExprNotSpec)) fnExprNotUptoCard

/-- THE SECOND FORM's CARD OF 'laws.FnExprSame'. -/
def fnExprSameUptoCard : Claim7 := { stood := { row := fnExprSameUptoRow, standIns := [], harness := (true, "0d1ac6e27b6b507ab646b9ce43aa3125ce8f65025fe6a6322b6fe9da882cb2cc"), looks := true }, kinds := [], alts := [], laidByText := true, laidKinds := [.handle], laidTests := true, laidLooks := .later }
def FnExprSameUptoCardSaid : Prop := Claim7.holds Tryz.pinned (.plain (OpenSpec.upto fnExprSameSpec)) fnExprSameUptoCard

/-- THE SECOND FORM's CARD OF 'laws.FnExprAnd'. -/
def fnExprAndUptoCard : Claim7 := { stood := { row := fnExprAndUptoRow, standIns := [], harness := (true, "0d1ac6e27b6b507ab646b9ce43aa3125ce8f65025fe6a6322b6fe9da882cb2cc"), looks := true }, kinds := [], alts := [], laidByText := true, laidKinds := [.handle], laidTests := true, laidLooks := .later }
def FnExprAndUptoCardSaid : Prop := Claim7.holds Tryz.pinned (.plain (OpenSpec.upto fnExprAndSpec)) fnExprAndUptoCard
end Rows
end Go.Proofs.YtamkncfdfaejjaaGreatDoor
