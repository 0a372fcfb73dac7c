/-
  DERIVED. GIVEN WITH THE SEED: THE CARDS: each row of YtplbfllhimcpiaaGreatDoorRows.lean that lists a variable, with what it lists TIED to the program's text (the seventh form; the later family's looks); each row that meets fmt, with fmt's text TOLD by the authors' own Lean function (tested against real Go, not proved from fmt's source: count such statements apart). THE CARD IS WHAT COUNTS. Prove the row's statement (the work); the ties are given (YtplbfllhimcpiaaGreatDoorTie.lean); close each card by the builder's one call (the guide's Derived/Test/ToyasCard.lean, 'card_holds'). Laid BY PROGRAM, IN A SANDBOX (cutbox-door.mjs). By AI agents, Wed Nov 11 2026. No macro, syntax, notation, axiom, sorry.
-/
import Derived.Test.YtplbfllhimcpiaaGreatDoorRows
import GoSem.ClaimSeven
namespace Go.Proofs.YtplbfllhimcpiaaGreatDoor
namespace Rows

/-- THE TIED CARD OF 'laws.FnRepNew'. -/
def fnRepNewCard : Claim7 := { stood := { row := fnRepNewRow, standIns := [], harness := (true, "c609fa74ba24932706d47c110b8768ac0a3f7ebaac4b3512136d2f4a11401e14"), looks := false }, kinds := [], alts := [], laidByText := true, laidKinds := [.data, .data, .data, .sentinel], laidTests := true, laidLooks := .later }
def FnRepNewCardSaid : Prop := Claim7.holds Tryz.pinned (.plain (OpenSpec.ofChange fnRepNewSpec)) fnRepNewCard

/-- THE SECOND FORM's CARD OF 'laws.FnRepNew'. -/
def fnRepNewUptoCard : Claim7 := { stood := { row := fnRepNewUptoRow, standIns := [], harness := (true, "c609fa74ba24932706d47c110b8768ac0a3f7ebaac4b3512136d2f4a11401e14"), looks := false }, kinds := [], alts := [], laidByText := true, laidKinds := [.data, .data, .data, .sentinel], laidTests := true, laidLooks := .later }
def FnRepNewUptoCardSaid : Prop := Claim7.holds Tryz.pinned (.plain (OpenSpec.upto fnRepNewSpec)) fnRepNewUptoCard
end Rows
end Go.Proofs.YtplbfllhimcpiaaGreatDoor
