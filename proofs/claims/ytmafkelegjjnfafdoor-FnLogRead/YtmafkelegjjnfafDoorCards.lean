/-
  DERIVED. GIVEN WITH THE SEED: THE CARDS: each row of YtmafkelegjjnfafDoorRows.lean that lists a variable, with what it lists TIED to the program's text (the seventh form; the later family's looks); each row that meets fmt, with fmt's text TOLD by the authors' own Lean function (tested against real Go, not proved from fmt's source: count such statements apart). THE CARD IS WHAT COUNTS. Prove the row's statement (the work); the ties are given (YtmafkelegjjnfafDoorTie.lean); close each card by the builder's one call (the guide's Derived/Test/ToyasCard.lean, 'card_holds'). Laid BY PROGRAM, IN A SANDBOX (cutbox-door.mjs). By AI agents, Wed Nov 11 2026. No macro, syntax, notation, axiom, sorry.
-/
import Derived.Test.YtmafkelegjjnfafDoorRows
import GoSem.ClaimSeven
namespace Go.Proofs.YtmafkelegjjnfafDoor
namespace Rows

/-- THE TIED CARD OF 'laws.FnLogRead'. -/
def fnLogReadCard : Claim7 := { stood := { row := fnLogReadRow, standIns := [], harness := (true, "5bf9bd3a51e0b6b320429b3351c447abf3c04689c7f5d53dda2b70d630e55123"), looks := false }, kinds := [], alts := [], laidByText := true, laidKinds := [.data, .data, .data], laidTests := true, laidLooks := .later }
def FnLogReadCardSaid : Prop := Claim7.holds Tryd.pinned (.plain (OpenSpec.ofChange fnLogReadSpec)) fnLogReadCard

/-- THE SECOND FORM's CARD OF 'laws.FnLogRead'. -/
def fnLogReadUptoCard : Claim7 := { stood := { row := fnLogReadUptoRow, standIns := [], harness := (true, "5bf9bd3a51e0b6b320429b3351c447abf3c04689c7f5d53dda2b70d630e55123"), looks := false }, kinds := [], alts := [], laidByText := true, laidKinds := [.data, .data, .data], laidTests := true, laidLooks := .later }
def FnLogReadUptoCardSaid : Prop := Claim7.holds Tryd.pinned (.plain (OpenSpec.upto fnLogReadSpec)) fnLogReadUptoCard
end Rows
end Go.Proofs.YtmafkelegjjnfafDoor
