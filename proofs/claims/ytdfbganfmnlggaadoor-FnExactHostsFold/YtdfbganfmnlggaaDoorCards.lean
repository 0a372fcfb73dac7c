/-
  DERIVED. GIVEN WITH THE SEED: THE CARDS: each row of YtdfbganfmnlggaaDoorRows.lean that lists a variable, with what it lists TIED to the program's text (the seventh form; the later family's looks); each row that meets fmt, with fmt's text TOLD by the authors' own Lean function (tested against real Go, not proved from fmt's source: count such statements apart). THE CARD IS WHAT COUNTS. Prove the row's statement (the work); the ties are given (YtdfbganfmnlggaaDoorTie.lean); close each card by the builder's one call (the guide's Derived/Test/ToyasCard.lean, 'card_holds'). Laid BY PROGRAM, IN A SANDBOX (cutbox-door.mjs). By AI agents, Wed Nov 11 2026. No macro, syntax, notation, axiom, sorry.
-/
import Derived.Test.YtdfbganfmnlggaaDoorRows
import GoSem.ClaimSeven
namespace Go.Proofs.YtdfbganfmnlggaaDoor
namespace Rows

/-- THE TIED CARD OF 'laws.FnExactHostsFold'. -/
def fnExactHostsFoldCard : Claim7 := { stood := { row := fnExactHostsFoldRow, standIns := [], harness := (true, "e74fda39aa5e1aaec4c59cb56aca8475a4c054caa56988dbf890261787643e3c"), looks := false }, kinds := [], alts := [], laidByText := true, laidKinds := [.data, .data, .data], laidTests := true, laidLooks := .later }
def FnExactHostsFoldCardSaid : Prop := Claim7.holds Tryd.pinned (.plain (OpenSpec.ofChange fnExactHostsFoldSpec)) fnExactHostsFoldCard

/-- THE SECOND FORM's CARD OF 'laws.FnExactHostsFold'. -/
def fnExactHostsFoldUptoCard : Claim7 := { stood := { row := fnExactHostsFoldUptoRow, standIns := [], harness := (true, "e74fda39aa5e1aaec4c59cb56aca8475a4c054caa56988dbf890261787643e3c"), looks := false }, kinds := [], alts := [], laidByText := true, laidKinds := [.data, .data, .data], laidTests := true, laidLooks := .later }
def FnExactHostsFoldUptoCardSaid : Prop := Claim7.holds Tryd.pinned (.plain (OpenSpec.upto fnExactHostsFoldSpec)) fnExactHostsFoldUptoCard
end Rows
end Go.Proofs.YtdfbganfmnlggaaDoor
