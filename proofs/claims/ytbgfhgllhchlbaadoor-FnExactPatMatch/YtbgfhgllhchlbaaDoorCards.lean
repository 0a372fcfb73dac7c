/-
  DERIVED. GIVEN WITH THE SEED: THE CARDS: each row of YtbgfhgllhchlbaaDoorRows.lean that lists a variable, with what it lists TIED to the program's text (the seventh form; the later family's looks); each row that meets fmt, with fmt's text TOLD by the authors' own Lean function (tested against real Go, not proved from fmt's source: count such statements apart). THE CARD IS WHAT COUNTS. Prove the row's statement (the work); the ties are given (YtbgfhgllhchlbaaDoorTie.lean); close each card by the builder's one call (the guide's Derived/Test/ToyasCard.lean, 'card_holds'). Laid BY PROGRAM, IN A SANDBOX (cutbox-door.mjs). By AI agents, Wed Nov 11 2026. No macro, syntax, notation, axiom, sorry.
-/
import Derived.Test.YtbgfhgllhchlbaaDoorRows
import GoSem.ClaimSeven
namespace Go.Proofs.YtbgfhgllhchlbaaDoor
namespace Rows

/-- THE TIED CARD OF 'laws.FnExactPatMatch'. -/
def fnExactPatMatchCard : Claim7 := { stood := { row := fnExactPatMatchRow, standIns := [], harness := (true, "74f08be36782b2c049db14a96285b25bb9aa55765f0b4e70bb5652ac2f86c7f2"), looks := false }, kinds := [], alts := [], laidByText := true, laidKinds := [.data, .pinned], laidTests := true, laidLooks := .later }
def FnExactPatMatchCardSaid : Prop := Claim7.holds Tryd.pinned (.plain (OpenSpec.ofChange fnExactPatMatchSpec)) fnExactPatMatchCard

/-- THE SECOND FORM's CARD OF 'laws.FnExactPatMatch'. -/
def fnExactPatMatchUptoCard : Claim7 := { stood := { row := fnExactPatMatchUptoRow, standIns := [], harness := (true, "74f08be36782b2c049db14a96285b25bb9aa55765f0b4e70bb5652ac2f86c7f2"), looks := false }, kinds := [], alts := [], laidByText := true, laidKinds := [.data, .pinned], laidTests := true, laidLooks := .later }
def FnExactPatMatchUptoCardSaid : Prop := Claim7.holds Tryd.pinned (.plain (OpenSpec.upto fnExactPatMatchSpec)) fnExactPatMatchUptoCard
end Rows
end Go.Proofs.YtbgfhgllhchlbaaDoor
