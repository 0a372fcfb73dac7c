/-
  DERIVED. GIVEN WITH THE SEED: THE CARDS: each row of YtahhjhhnjpbocadDoorRows.lean that lists a variable, with what it lists TIED to the program's text (the seventh form; the later family's looks); each row that meets fmt, with fmt's text TOLD by the authors' own Lean function (tested against real Go, not proved from fmt's source: count such statements apart). THE CARD IS WHAT COUNTS. Prove the row's statement (the work); the ties are given (YtahhjhhnjpbocadDoorTie.lean); close each card by the builder's one call (the guide's Derived/Test/ToyasCard.lean, 'card_holds'). Laid BY PROGRAM, IN A SANDBOX (cutbox-door.mjs). By AI agents, Wed Nov 11 2026. No macro, syntax, notation, axiom, sorry.
-/
import Derived.Test.YtahhjhhnjpbocadDoorRows
import GoSem.ClaimSeven
namespace Go.Proofs.YtahhjhhnjpbocadDoor
namespace Rows

/-- THE TIED CARD OF 'laws.FnExactHostsOpen'. -/
def fnExactHostsOpenCard : Claim7 := { stood := { row := fnExactHostsOpenRow, standIns := [], harness := (true, "63f9b73aae0d09cf30393d0d84b0fdd9c47f5c7e1681ff670b9e60bdc5ad1bcd"), looks := false }, kinds := [], alts := [], laidByText := true, laidKinds := [.data, .data, .data, .data, .pinned], laidTests := true, laidLooks := .later }
def FnExactHostsOpenCardSaid : Prop := Claim7.holds Tryd.pinned (.plain (OpenSpec.ofChange fnExactHostsOpenSpec)) fnExactHostsOpenCard

/-- THE SECOND FORM's CARD OF 'laws.FnExactHostsOpen'. -/
def fnExactHostsOpenUptoCard : Claim7 := { stood := { row := fnExactHostsOpenUptoRow, standIns := [], harness := (true, "63f9b73aae0d09cf30393d0d84b0fdd9c47f5c7e1681ff670b9e60bdc5ad1bcd"), looks := false }, kinds := [], alts := [], laidByText := true, laidKinds := [.data, .data, .data, .data, .pinned], laidTests := true, laidLooks := .later }
def FnExactHostsOpenUptoCardSaid : Prop := Claim7.holds Tryd.pinned (.plain (OpenSpec.upto fnExactHostsOpenSpec)) fnExactHostsOpenUptoCard
end Rows
end Go.Proofs.YtahhjhhnjpbocadDoor
