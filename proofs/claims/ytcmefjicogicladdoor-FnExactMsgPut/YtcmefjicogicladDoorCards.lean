/-
  DERIVED. GIVEN WITH THE SEED: THE CARDS: each row of YtcmefjicogicladDoorRows.lean that lists a variable, with what it lists TIED to the program's text (the seventh form; the later family's looks); each row that meets fmt, with fmt's text TOLD by the authors' own Lean function (tested against real Go, not proved from fmt's source: count such statements apart). THE CARD IS WHAT COUNTS. Prove the row's statement (the work); the ties are given (YtcmefjicogicladDoorTie.lean); close each card by the builder's one call (the guide's Derived/Test/ToyasCard.lean, 'card_holds'). Laid BY PROGRAM, IN A SANDBOX (cutbox-door.mjs). By AI agents, Wed Nov 11 2026. No macro, syntax, notation, axiom, sorry.
-/
import Derived.Test.YtcmefjicogicladDoorRows
import GoSem.ClaimSeven
namespace Go.Proofs.YtcmefjicogicladDoor
namespace Rows

/-- THE TIED CARD OF 'laws.FnExactMsgPut'. -/
def fnExactMsgPutCard : Claim7 := { stood := { row := fnExactMsgPutRow, standIns := [], harness := (true, "437c8e5e89e6f763b1d539d8e4265b6102f8782eb130a3489453222b45fb6157"), looks := false }, kinds := [], alts := [], laidByText := true, laidKinds := [.data, .data, .data], laidTests := true, laidLooks := .later }
def FnExactMsgPutCardSaid : Prop := Claim7.holds Tryd.pinned (.plain (OpenSpec.ofChange fnExactMsgPutSpec)) fnExactMsgPutCard

/-- THE SECOND FORM's CARD OF 'laws.FnExactMsgPut'. -/
def fnExactMsgPutUptoCard : Claim7 := { stood := { row := fnExactMsgPutUptoRow, standIns := [], harness := (true, "437c8e5e89e6f763b1d539d8e4265b6102f8782eb130a3489453222b45fb6157"), looks := false }, kinds := [], alts := [], laidByText := true, laidKinds := [.data, .data, .data], laidTests := true, laidLooks := .later }
def FnExactMsgPutUptoCardSaid : Prop := Claim7.holds Tryd.pinned (.plain (OpenSpec.upto fnExactMsgPutSpec)) fnExactMsgPutUptoCard
end Rows
end Go.Proofs.YtcmefjicogicladDoor
