/-
  DERIVED. GIVEN WITH THE SEED: THE CARDS: each row of YtcielnlhopjijaaDoorRows.lean that lists a variable, with what it lists TIED to the program's text (the seventh form; the later family's looks); each row that meets fmt, with fmt's text TOLD by the authors' own Lean function (tested against real Go, not proved from fmt's source: count such statements apart). THE CARD IS WHAT COUNTS. Prove the row's statement (the work); the ties are given (YtcielnlhopjijaaDoorTie.lean); close each card by the builder's one call (the guide's Derived/Test/ToyasCard.lean, 'card_holds'). Laid BY PROGRAM, IN A SANDBOX (cutbox-door.mjs). By AI agents, Wed Nov 11 2026. No macro, syntax, notation, axiom, sorry.
-/
import Derived.Test.YtcielnlhopjijaaDoorRows
import GoSem.ClaimSeven
namespace Go.Proofs.YtcielnlhopjijaaDoor
namespace Rows

/-- THE TIED CARD OF 'laws.FnMsgGet'. -/
def fnMsgGetCard : Claim7 := { stood := { row := fnMsgGetRow, standIns := [], harness := (true, "7a4af4d7d037f6c506a800b5410b1612ae5ffb0c7c0c3a043e143a9bd344f1ad"), looks := false }, kinds := [], alts := [], laidByText := true, laidKinds := [.data, .data, .data, .sentinel], laidTests := true, laidLooks := .later }
def FnMsgGetCardSaid : Prop := Claim7.holds Tryd.pinned (.plain (OpenSpec.ofChange fnMsgGetSpec)) fnMsgGetCard

/-- THE SECOND FORM's CARD OF 'laws.FnMsgGet'. -/
def fnMsgGetUptoCard : Claim7 := { stood := { row := fnMsgGetUptoRow, standIns := [], harness := (true, "7a4af4d7d037f6c506a800b5410b1612ae5ffb0c7c0c3a043e143a9bd344f1ad"), looks := false }, kinds := [], alts := [], laidByText := true, laidKinds := [.data, .data, .data, .sentinel], laidTests := true, laidLooks := .later }
def FnMsgGetUptoCardSaid : Prop := Claim7.holds Tryd.pinned (.plain (OpenSpec.upto fnMsgGetSpec)) fnMsgGetUptoCard
end Rows
end Go.Proofs.YtcielnlhopjijaaDoor
