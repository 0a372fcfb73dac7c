/-
  DERIVED. GIVEN WITH THE SEED: THE CARDS: each row of YtcielnlhopjijabDoorRows.lean that lists a variable, with what it lists TIED to the program's text (the seventh form; the later family's looks); each row that meets fmt, with fmt's text TOLD by the authors' own Lean function (tested against real Go, not proved from fmt's source: count such statements apart). THE CARD IS WHAT COUNTS. Prove the row's statement (the work); the ties are given (YtcielnlhopjijabDoorTie.lean); close each card by the builder's one call (the guide's Derived/Test/ToyasCard.lean, 'card_holds'). Laid BY PROGRAM, IN A SANDBOX (cutbox-door.mjs). By AI agents, Wed Nov 11 2026. No macro, syntax, notation, axiom, sorry.
-/
import Derived.Test.YtcielnlhopjijabDoorRows
import GoSem.ClaimSeven
namespace Go.Proofs.YtcielnlhopjijabDoor
namespace Rows

/-- THE TIED CARD OF 'laws.FnExactMsgGet'. -/
def fnExactMsgGetCard : Claim7 := { stood := { row := fnExactMsgGetRow, standIns := [], harness := (true, "077c0c271822f3db1fc999e9ec9d9089efedf57c8ca9f7a6f08e64e02e6ef75d"), looks := false }, kinds := [], alts := [], laidByText := true, laidKinds := [.data, .data, .data, .sentinel], laidTests := true, laidLooks := .later }
def FnExactMsgGetCardSaid : Prop := Claim7.holds Tryd.pinned (.plain (OpenSpec.ofChange fnExactMsgGetSpec)) fnExactMsgGetCard

/-- THE SECOND FORM's CARD OF 'laws.FnExactMsgGet'. -/
def fnExactMsgGetUptoCard : Claim7 := { stood := { row := fnExactMsgGetUptoRow, standIns := [], harness := (true, "077c0c271822f3db1fc999e9ec9d9089efedf57c8ca9f7a6f08e64e02e6ef75d"), looks := false }, kinds := [], alts := [], laidByText := true, laidKinds := [.data, .data, .data, .sentinel], laidTests := true, laidLooks := .later }
def FnExactMsgGetUptoCardSaid : Prop := Claim7.holds Tryd.pinned (.plain (OpenSpec.upto fnExactMsgGetSpec)) fnExactMsgGetUptoCard
end Rows
end Go.Proofs.YtcielnlhopjijabDoor
