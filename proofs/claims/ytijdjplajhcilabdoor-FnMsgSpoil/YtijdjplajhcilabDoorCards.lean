/-
  DERIVED. GIVEN WITH THE SEED: THE CARDS: each row of YtijdjplajhcilabDoorRows.lean that lists a variable, with what it lists TIED to the program's text (the seventh form; the later family's looks); each row that meets fmt, with fmt's text TOLD by the authors' own Lean function (tested against real Go, not proved from fmt's source: count such statements apart). THE CARD IS WHAT COUNTS. Prove the row's statement (the work); the ties are given (YtijdjplajhcilabDoorTie.lean); close each card by the builder's one call (the guide's Derived/Test/ToyasCard.lean, 'card_holds'). Laid BY PROGRAM, IN A SANDBOX (cutbox-door.mjs). By AI agents, Wed Nov 11 2026. No macro, syntax, notation, axiom, sorry.
-/
import Derived.Test.YtijdjplajhcilabDoorRows
import GoSem.ClaimSeven
namespace Go.Proofs.YtijdjplajhcilabDoor
namespace Rows

/-- THE TIED CARD OF 'laws.FnMsgSpoil'. -/
def fnMsgSpoilCard : Claim7 := { stood := { row := fnMsgSpoilRow, standIns := [], harness := (true, "4e46116f2b2c09306a2fbdada8d4462e49ffe083f52dab02c3f948a1b140419f"), looks := false }, kinds := [], alts := [], laidByText := true, laidKinds := [.data, .data, .data, .sentinel], laidTests := true, laidLooks := .later }
def FnMsgSpoilCardSaid : Prop := Claim7.holds Tryd.pinned (.plain (OpenSpec.ofChange fnMsgSpoilSpec)) fnMsgSpoilCard

/-- THE SECOND FORM's CARD OF 'laws.FnMsgSpoil'. -/
def fnMsgSpoilUptoCard : Claim7 := { stood := { row := fnMsgSpoilUptoRow, standIns := [], harness := (true, "4e46116f2b2c09306a2fbdada8d4462e49ffe083f52dab02c3f948a1b140419f"), looks := false }, kinds := [], alts := [], laidByText := true, laidKinds := [.data, .data, .data, .sentinel], laidTests := true, laidLooks := .later }
def FnMsgSpoilUptoCardSaid : Prop := Claim7.holds Tryd.pinned (.plain (OpenSpec.upto fnMsgSpoilSpec)) fnMsgSpoilUptoCard
end Rows
end Go.Proofs.YtijdjplajhcilabDoor
