/-
  DERIVED. GIVEN WITH THE SEED: THE CARDS: each row of YtjjcpkobpcpdeabDoorRows.lean that lists a variable, with what it lists TIED to the program's text (the seventh form; the later family's looks); each row that meets fmt, with fmt's text TOLD by the authors' own Lean function (tested against real Go, not proved from fmt's source: count such statements apart). THE CARD IS WHAT COUNTS. Prove the row's statement (the work); the ties are given (YtjjcpkobpcpdeabDoorTie.lean); close each card by the builder's one call (the guide's Derived/Test/ToyasCard.lean, 'card_holds'). Laid BY PROGRAM, IN A SANDBOX (cutbox-door.mjs). By AI agents, Wed Nov 11 2026. No macro, syntax, notation, axiom, sorry.
-/
import Derived.Test.YtjjcpkobpcpdeabDoorRows
import GoSem.ClaimSeven
namespace Go.Proofs.YtjjcpkobpcpdeabDoor
namespace Rows

/-- THE TIED CARD OF 'laws.FnExactHostPut'. -/
def fnExactHostPutCard : Claim7 := { stood := { row := fnExactHostPutRow, standIns := [], harness := (true, "a3848659389d2aa87846fc4dd1a1006d9dad184671b91985f81ad9f2b8acb6b7"), looks := false }, kinds := [], alts := [], laidByText := true, laidKinds := [.data, .data, .data], laidTests := true, laidLooks := .later }
def FnExactHostPutCardSaid : Prop := Claim7.holds Tryd.pinned (.plain (OpenSpec.ofChange fnExactHostPutSpec)) fnExactHostPutCard

/-- THE SECOND FORM's CARD OF 'laws.FnExactHostPut'. -/
def fnExactHostPutUptoCard : Claim7 := { stood := { row := fnExactHostPutUptoRow, standIns := [], harness := (true, "a3848659389d2aa87846fc4dd1a1006d9dad184671b91985f81ad9f2b8acb6b7"), looks := false }, kinds := [], alts := [], laidByText := true, laidKinds := [.data, .data, .data], laidTests := true, laidLooks := .later }
def FnExactHostPutUptoCardSaid : Prop := Claim7.holds Tryd.pinned (.plain (OpenSpec.upto fnExactHostPutSpec)) fnExactHostPutUptoCard
end Rows
end Go.Proofs.YtjjcpkobpcpdeabDoor
