/-
  DERIVED. GIVEN WITH THE SEED: THE CARDS: each row of YtmafkelegjjnfabDoorRows.lean that lists a variable, with what it lists TIED to the program's text (the seventh form; the later family's looks); each row that meets fmt, with fmt's text TOLD by the authors' own Lean function (tested against real Go, not proved from fmt's source: count such statements apart). THE CARD IS WHAT COUNTS. Prove the row's statement (the work); the ties are given (YtmafkelegjjnfabDoorTie.lean); close each card by the builder's one call (the guide's Derived/Test/ToyasCard.lean, 'card_holds'). Laid BY PROGRAM, IN A SANDBOX (cutbox-door.mjs). By AI agents, Wed Nov 11 2026. No macro, syntax, notation, axiom, sorry.
-/
import Derived.Test.YtmafkelegjjnfabDoorRows
import GoSem.ClaimSeven
namespace Go.Proofs.YtmafkelegjjnfabDoor
namespace Rows

/-- THE TIED CARD OF 'laws.FnExactLogTear'. -/
def fnExactLogTearCard : Claim7 := { stood := { row := fnExactLogTearRow, standIns := [], harness := (true, "6d305780cd6b925280d8df690a22822dbba902e00fc1638439cbd0c0f7575d66"), looks := false }, kinds := [], alts := [], laidByText := true, laidKinds := [.data, .data, .data], laidTests := true, laidLooks := .later }
def FnExactLogTearCardSaid : Prop := Claim7.holds Tryd.pinned (.plain (OpenSpec.ofChange fnExactLogTearSpec)) fnExactLogTearCard

/-- THE SECOND FORM's CARD OF 'laws.FnExactLogTear'. -/
def fnExactLogTearUptoCard : Claim7 := { stood := { row := fnExactLogTearUptoRow, standIns := [], harness := (true, "6d305780cd6b925280d8df690a22822dbba902e00fc1638439cbd0c0f7575d66"), looks := false }, kinds := [], alts := [], laidByText := true, laidKinds := [.data, .data, .data], laidTests := true, laidLooks := .later }
def FnExactLogTearUptoCardSaid : Prop := Claim7.holds Tryd.pinned (.plain (OpenSpec.upto fnExactLogTearSpec)) fnExactLogTearUptoCard
end Rows
end Go.Proofs.YtmafkelegjjnfabDoor
