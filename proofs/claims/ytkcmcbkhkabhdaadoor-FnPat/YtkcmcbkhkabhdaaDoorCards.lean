/-
  DERIVED. GIVEN WITH THE SEED: THE CARDS: each row of YtkcmcbkhkabhdaaDoorRows.lean that lists a variable, with what it lists TIED to the program's text (the seventh form; the later family's looks); each row that meets fmt, with fmt's text TOLD by the authors' own Lean function (tested against real Go, not proved from fmt's source: count such statements apart). THE CARD IS WHAT COUNTS. Prove the row's statement (the work); the ties are given (YtkcmcbkhkabhdaaDoorTie.lean); close each card by the builder's one call (the guide's Derived/Test/ToyasCard.lean, 'card_holds'). Laid BY PROGRAM, IN A SANDBOX (cutbox-door.mjs). By AI agents, Wed Nov 11 2026. No macro, syntax, notation, axiom, sorry.
-/
import Derived.Test.YtkcmcbkhkabhdaaDoorRows
import GoSem.ClaimSeven
namespace Go.Proofs.YtkcmcbkhkabhdaaDoor
namespace Rows

/-- THE TIED CARD OF 'laws.FnPat'. -/
def fnPatCard : Claim7 := { stood := { row := fnPatRow, standIns := [], harness := (true, "82fb33d834b3a57fad9f657b1fa5a0567c4ab8bce31d70148417d253b3a6b7a1"), looks := false }, kinds := [], alts := [], laidByText := true, laidKinds := [.data, .pinned], laidTests := true, laidLooks := .later }
def FnPatCardSaid : Prop := Claim7.holds Tryd.pinned (.plain (OpenSpec.ofChange fnPatSpec)) fnPatCard

/-- THE SECOND FORM's CARD OF 'laws.FnPat'. -/
def fnPatUptoCard : Claim7 := { stood := { row := fnPatUptoRow, standIns := [], harness := (true, "82fb33d834b3a57fad9f657b1fa5a0567c4ab8bce31d70148417d253b3a6b7a1"), looks := false }, kinds := [], alts := [], laidByText := true, laidKinds := [.data, .pinned], laidTests := true, laidLooks := .later }
def FnPatUptoCardSaid : Prop := Claim7.holds Tryd.pinned (.plain (OpenSpec.upto fnPatSpec)) fnPatUptoCard
end Rows
end Go.Proofs.YtkcmcbkhkabhdaaDoor
