/-
  DERIVED. GIVEN WITH THE SEED: THE CARDS: each row of YtmafkelegjjnfaeDoorRows.lean that lists a variable, with what it lists TIED to the program's text (the seventh form; the later family's looks); each row that meets fmt, with fmt's text TOLD by the authors' own Lean function (tested against real Go, not proved from fmt's source: count such statements apart). THE CARD IS WHAT COUNTS. Prove the row's statement (the work); the ties are given (YtmafkelegjjnfaeDoorTie.lean); close each card by the builder's one call (the guide's Derived/Test/ToyasCard.lean, 'card_holds'). Laid BY PROGRAM, IN A SANDBOX (cutbox-door.mjs). By AI agents, Wed Nov 11 2026. No macro, syntax, notation, axiom, sorry.
-/
import Derived.Test.YtmafkelegjjnfaeDoorRows
import GoSem.ClaimSeven
namespace Go.Proofs.YtmafkelegjjnfaeDoor
namespace Rows

/-- THE TIED CARD OF 'laws.FnLogTear'. -/
def fnLogTearCard : Claim7 := { stood := { row := fnLogTearRow, standIns := [], harness := (true, "ddc6276a2e43e59f8be201444fc99cdb8ad008812fc65236629219d1c8001787"), looks := false }, kinds := [], alts := [], laidByText := true, laidKinds := [.data, .data, .data], laidTests := true, laidLooks := .later }
def FnLogTearCardSaid : Prop := Claim7.holds Tryd.pinned (.plain (OpenSpec.ofChange fnLogTearSpec)) fnLogTearCard

/-- THE SECOND FORM's CARD OF 'laws.FnLogTear'. -/
def fnLogTearUptoCard : Claim7 := { stood := { row := fnLogTearUptoRow, standIns := [], harness := (true, "ddc6276a2e43e59f8be201444fc99cdb8ad008812fc65236629219d1c8001787"), looks := false }, kinds := [], alts := [], laidByText := true, laidKinds := [.data, .data, .data], laidTests := true, laidLooks := .later }
def FnLogTearUptoCardSaid : Prop := Claim7.holds Tryd.pinned (.plain (OpenSpec.upto fnLogTearSpec)) fnLogTearUptoCard
end Rows
end Go.Proofs.YtmafkelegjjnfaeDoor
