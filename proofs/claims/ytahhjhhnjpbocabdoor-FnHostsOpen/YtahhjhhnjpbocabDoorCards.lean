/-
  DERIVED. GIVEN WITH THE SEED: THE CARDS: each row of YtahhjhhnjpbocabDoorRows.lean that lists a variable, with what it lists TIED to the program's text (the seventh form; the later family's looks); each row that meets fmt, with fmt's text TOLD by the authors' own Lean function (tested against real Go, not proved from fmt's source: count such statements apart). THE CARD IS WHAT COUNTS. Prove the row's statement (the work); the ties are given (YtahhjhhnjpbocabDoorTie.lean); close each card by the builder's one call (the guide's Derived/Test/ToyasCard.lean, 'card_holds'). Laid BY PROGRAM, IN A SANDBOX (cutbox-door.mjs). By AI agents, Wed Nov 11 2026. No macro, syntax, notation, axiom, sorry.
-/
import Derived.Test.YtahhjhhnjpbocabDoorRows
import GoSem.ClaimSeven
namespace Go.Proofs.YtahhjhhnjpbocabDoor
namespace Rows

/-- THE TIED CARD OF 'laws.FnHostsOpen'. -/
def fnHostsOpenCard : Claim7 := { stood := { row := fnHostsOpenRow, standIns := [], harness := (true, "0fd0a1a026e6b22cbcf5664d53a51a99ad772d956682fe287673d9283d504289"), looks := false }, kinds := [], alts := [], laidByText := true, laidKinds := [.data, .data, .data, .data, .pinned], laidTests := true, laidLooks := .later }
def FnHostsOpenCardSaid : Prop := Claim7.holds Tryd.pinned (.plain (OpenSpec.ofChange fnHostsOpenSpec)) fnHostsOpenCard

/-- THE SECOND FORM's CARD OF 'laws.FnHostsOpen'. -/
def fnHostsOpenUptoCard : Claim7 := { stood := { row := fnHostsOpenUptoRow, standIns := [], harness := (true, "0fd0a1a026e6b22cbcf5664d53a51a99ad772d956682fe287673d9283d504289"), looks := false }, kinds := [], alts := [], laidByText := true, laidKinds := [.data, .data, .data, .data, .pinned], laidTests := true, laidLooks := .later }
def FnHostsOpenUptoCardSaid : Prop := Claim7.holds Tryd.pinned (.plain (OpenSpec.upto fnHostsOpenSpec)) fnHostsOpenUptoCard
end Rows
end Go.Proofs.YtahhjhhnjpbocabDoor
