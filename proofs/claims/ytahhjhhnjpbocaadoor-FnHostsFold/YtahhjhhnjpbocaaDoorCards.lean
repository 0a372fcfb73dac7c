/-
  DERIVED. GIVEN WITH THE SEED: THE CARDS: each row of YtahhjhhnjpbocaaDoorRows.lean that lists a variable, with what it lists TIED to the program's text (the seventh form; the later family's looks); each row that meets fmt, with fmt's text TOLD by the authors' own Lean function (tested against real Go, not proved from fmt's source: count such statements apart). THE CARD IS WHAT COUNTS. Prove the row's statement (the work); the ties are given (YtahhjhhnjpbocaaDoorTie.lean); close each card by the builder's one call (the guide's Derived/Test/ToyasCard.lean, 'card_holds'). Laid BY PROGRAM, IN A SANDBOX (cutbox-door.mjs). By AI agents, Wed Nov 11 2026. No macro, syntax, notation, axiom, sorry.
-/
import Derived.Test.YtahhjhhnjpbocaaDoorRows
import GoSem.ClaimSeven
namespace Go.Proofs.YtahhjhhnjpbocaaDoor
namespace Rows

/-- THE TIED CARD OF 'laws.FnHostsFold'. -/
def fnHostsFoldCard : Claim7 := { stood := { row := fnHostsFoldRow, standIns := [], harness := (true, "ab4b7d9c55e2bd3193c844b34b2e1dca010eba8b748e12c40dcaccbc348c8d25"), looks := false }, kinds := [], alts := [], laidByText := true, laidKinds := [.data, .data, .data, .data, .pinned], laidTests := true, laidLooks := .later }
def FnHostsFoldCardSaid : Prop := Claim7.holds Tryd.pinned (.plain (OpenSpec.ofChange fnHostsFoldSpec)) fnHostsFoldCard

/-- THE SECOND FORM's CARD OF 'laws.FnHostsFold'. -/
def fnHostsFoldUptoCard : Claim7 := { stood := { row := fnHostsFoldUptoRow, standIns := [], harness := (true, "ab4b7d9c55e2bd3193c844b34b2e1dca010eba8b748e12c40dcaccbc348c8d25"), looks := false }, kinds := [], alts := [], laidByText := true, laidKinds := [.data, .data, .data, .data, .pinned], laidTests := true, laidLooks := .later }
def FnHostsFoldUptoCardSaid : Prop := Claim7.holds Tryd.pinned (.plain (OpenSpec.upto fnHostsFoldSpec)) fnHostsFoldUptoCard
end Rows
end Go.Proofs.YtahhjhhnjpbocaaDoor
