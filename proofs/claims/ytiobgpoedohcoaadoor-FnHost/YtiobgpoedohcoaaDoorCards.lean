/-
  DERIVED. GIVEN WITH THE SEED: THE CARDS: each row of YtiobgpoedohcoaaDoorRows.lean that lists a variable, with what it lists TIED to the program's text (the seventh form; the later family's looks); each row that meets fmt, with fmt's text TOLD by the authors' own Lean function (tested against real Go, not proved from fmt's source: count such statements apart). THE CARD IS WHAT COUNTS. Prove the row's statement (the work); the ties are given (YtiobgpoedohcoaaDoorTie.lean); close each card by the builder's one call (the guide's Derived/Test/ToyasCard.lean, 'card_holds'). Laid BY PROGRAM, IN A SANDBOX (cutbox-door.mjs). By AI agents, Wed Nov 11 2026. No macro, syntax, notation, axiom, sorry.
-/
import Derived.Test.YtiobgpoedohcoaaDoorRows
import GoSem.ClaimSeven
namespace Go.Proofs.YtiobgpoedohcoaaDoor
namespace Rows

/-- THE TIED CARD OF 'laws.FnHost'. -/
def fnHostCard : Claim7 := { stood := { row := fnHostRow, standIns := [], harness := (true, "145d4790f6c0996d282d2ef1d9f1daeb8bb3e9cad66429ff56a9bc470c13f58a"), looks := false }, kinds := [], alts := [], laidByText := true, laidKinds := [.data, .data, .data], laidTests := true, laidLooks := .later }
def FnHostCardSaid : Prop := Claim7.holds Tryd.pinned (.plain (OpenSpec.ofChange fnHostSpec)) fnHostCard

/-- THE SECOND FORM's CARD OF 'laws.FnHost'. -/
def fnHostUptoCard : Claim7 := { stood := { row := fnHostUptoRow, standIns := [], harness := (true, "145d4790f6c0996d282d2ef1d9f1daeb8bb3e9cad66429ff56a9bc470c13f58a"), looks := false }, kinds := [], alts := [], laidByText := true, laidKinds := [.data, .data, .data], laidTests := true, laidLooks := .later }
def FnHostUptoCardSaid : Prop := Claim7.holds Tryd.pinned (.plain (OpenSpec.upto fnHostSpec)) fnHostUptoCard
end Rows
end Go.Proofs.YtiobgpoedohcoaaDoor
