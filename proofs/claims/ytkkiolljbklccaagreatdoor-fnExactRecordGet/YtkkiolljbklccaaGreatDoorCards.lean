/-
  DERIVED. GIVEN WITH THE SEED: THE CARDS: each row of YtkkiolljbklccaaGreatDoorRows.lean that lists a variable, with what it lists TIED to the program's text (the seventh form; the later family's looks); each row that meets fmt, with fmt's text TOLD by the authors' own Lean function (tested against real Go, not proved from fmt's source: count such statements apart). THE CARD IS WHAT COUNTS. Prove the row's statement (the work); the ties are given (YtkkiolljbklccaaGreatDoorTie.lean); close each card by the builder's one call (the guide's Derived/Test/ToyasCard.lean, 'card_holds'). Laid BY PROGRAM, IN A SANDBOX (cutbox-door.mjs). By AI agents, Wed Nov 11 2026. No macro, syntax, notation, axiom, sorry.
-/
import Derived.Test.YtkkiolljbklccaaGreatDoorRows
import GoSem.ClaimSeven
namespace Go.Proofs.YtkkiolljbklccaaGreatDoor
namespace Rows

/-- THE TIED CARD OF 'laws.FnExactActPut'. -/
def fnExactActPutCard : Claim7 := { stood := { row := fnExactActPutRow, standIns := [], harness := (true, "83d5055a024622a7688e9c4c1b201e054f342568f58c145f3cf5c727780c2321"), looks := true }, kinds := [], alts := [], goes := true, laidByText := true, laidKinds := [.data, .data, .data, .handle], laidTests := true, laidLooks := .later }
def FnExactActPutCardSaid : Prop := Claim7.holds Tryz.pinned (.plain (OpenSpec.ofChange fnExactActPutSpec)) fnExactActPutCard

/-- THE TIED CARD OF 'laws.FnExactActGet'. -/
def fnExactActGetCard : Claim7 := { stood := { row := fnExactActGetRow, standIns := [], harness := (true, "83d5055a024622a7688e9c4c1b201e054f342568f58c145f3cf5c727780c2321"), looks := true }, kinds := [], alts := [], goes := true, laidByText := true, laidKinds := [.data, .data, .data, .data, .handle, .sentinel, .sentinel, .pinned], laidTests := true, laidLooks := .later }
def FnExactActGetCardSaid : Prop := Claim7.holds Tryz.pinned (.plain (OpenSpec.ofChange fnExactActGetSpec)) fnExactActGetCard

/-- THE TIED CARD OF 'laws.FnExactRecordPut'. -/
def fnExactRecordPutCard : Claim7 := { stood := { row := fnExactRecordPutRow, standIns := [], harness := (true, "83d5055a024622a7688e9c4c1b201e054f342568f58c145f3cf5c727780c2321"), looks := true }, kinds := [], alts := [], goes := true, laidByText := true, laidKinds := [.data, .data, .data, .handle], laidTests := true, laidLooks := .later }
def FnExactRecordPutCardSaid : Prop := Claim7.holds Tryz.pinned (.plain (OpenSpec.ofChange fnExactRecordPutSpec)) fnExactRecordPutCard

/-- THE TIED CARD OF 'laws.FnExactRecordGet'. -/
def fnExactRecordGetCard : Claim7 := { stood := { row := fnExactRecordGetRow, standIns := [], harness := (true, "83d5055a024622a7688e9c4c1b201e054f342568f58c145f3cf5c727780c2321"), looks := true }, kinds := [], alts := [], goes := true, laidByText := true, laidKinds := [.data, .data, .data, .data, .handle, .sentinel, .sentinel, .pinned], laidTests := true, laidLooks := .later }
def FnExactRecordGetCardSaid : Prop := Claim7.holds Tryz.pinned (.plain (OpenSpec.ofChange fnExactRecordGetSpec)) fnExactRecordGetCard

/-- THE SECOND FORM's CARD OF 'laws.FnExactActPut'. -/
def fnExactActPutUptoCard : Claim7 := { stood := { row := fnExactActPutUptoRow, standIns := [], harness := (true, "83d5055a024622a7688e9c4c1b201e054f342568f58c145f3cf5c727780c2321"), looks := true }, kinds := [], alts := [], goes := true, laidByText := true, laidKinds := [.data, .data, .data, .handle], laidTests := true, laidLooks := .later }
def FnExactActPutUptoCardSaid : Prop := Claim7.holds Tryz.pinned (.plain (OpenSpec.upto fnExactActPutSpec)) fnExactActPutUptoCard

/-- THE SECOND FORM's CARD OF 'laws.FnExactActGet'. -/
def fnExactActGetUptoCard : Claim7 := { stood := { row := fnExactActGetUptoRow, standIns := [], harness := (true, "83d5055a024622a7688e9c4c1b201e054f342568f58c145f3cf5c727780c2321"), looks := true }, kinds := [], alts := [], goes := true, laidByText := true, laidKinds := [.data, .data, .data, .data, .handle, .sentinel, .sentinel, .pinned], laidTests := true, laidLooks := .later }
def FnExactActGetUptoCardSaid : Prop := Claim7.holds Tryz.pinned (.plain (OpenSpec.upto fnExactActGetSpec)) fnExactActGetUptoCard

/-- THE SECOND FORM's CARD OF 'laws.FnExactRecordPut'. -/
def fnExactRecordPutUptoCard : Claim7 := { stood := { row := fnExactRecordPutUptoRow, standIns := [], harness := (true, "83d5055a024622a7688e9c4c1b201e054f342568f58c145f3cf5c727780c2321"), looks := true }, kinds := [], alts := [], goes := true, laidByText := true, laidKinds := [.data, .data, .data, .handle], laidTests := true, laidLooks := .later }
def FnExactRecordPutUptoCardSaid : Prop := Claim7.holds Tryz.pinned (.plain (OpenSpec.upto fnExactRecordPutSpec)) fnExactRecordPutUptoCard

/-- THE SECOND FORM's CARD OF 'laws.FnExactRecordGet'. -/
def fnExactRecordGetUptoCard : Claim7 := { stood := { row := fnExactRecordGetUptoRow, standIns := [], harness := (true, "83d5055a024622a7688e9c4c1b201e054f342568f58c145f3cf5c727780c2321"), looks := true }, kinds := [], alts := [], goes := true, laidByText := true, laidKinds := [.data, .data, .data, .data, .handle, .sentinel, .sentinel, .pinned], laidTests := true, laidLooks := .later }
def FnExactRecordGetUptoCardSaid : Prop := Claim7.holds Tryz.pinned (.plain (OpenSpec.upto fnExactRecordGetSpec)) fnExactRecordGetUptoCard
end Rows
end Go.Proofs.YtkkiolljbklccaaGreatDoor
