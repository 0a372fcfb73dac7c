/-
  DERIVED. GIVEN WITH THE SEED: THE CARDS: each row of YtijdjplajhcilaaDoorRows.lean that lists a variable, with what it lists TIED to the program's text (the seventh form; the later family's looks); each row that meets fmt, with fmt's text TOLD by the authors' own Lean function (tested against real Go, not proved from fmt's source: count such statements apart). THE CARD IS WHAT COUNTS. Prove the row's statement (the work); the ties are given (YtijdjplajhcilaaDoorTie.lean); close each card by the builder's one call (the guide's Derived/Test/ToyasCard.lean, 'card_holds'). Laid BY PROGRAM, IN A SANDBOX (cutbox-door.mjs). By AI agents, Wed Nov 11 2026. No macro, syntax, notation, axiom, sorry.
-/
import Derived.Test.YtijdjplajhcilaaDoorRows
import GoSem.ClaimSeven
namespace Go.Proofs.YtijdjplajhcilaaDoor
namespace Rows

/-- THE TIED CARD OF 'laws.FnMsgPut'. -/
def fnMsgPutCard : Claim7 := { stood := { row := fnMsgPutRow, standIns := [], harness := (true, "b836fb66617e24361a6773c1e7f9b8e09adc5b919dd8fdddc11327df8a46686f"), looks := false }, kinds := [], alts := [], laidByText := true, laidKinds := [.data, .data, .data, .sentinel], laidTests := true, laidLooks := .later }
def FnMsgPutCardSaid : Prop := Claim7.holds Tryd.pinned (.plain (OpenSpec.ofChange fnMsgPutSpec)) fnMsgPutCard

/-- THE SECOND FORM's CARD OF 'laws.FnMsgPut'. -/
def fnMsgPutUptoCard : Claim7 := { stood := { row := fnMsgPutUptoRow, standIns := [], harness := (true, "b836fb66617e24361a6773c1e7f9b8e09adc5b919dd8fdddc11327df8a46686f"), looks := false }, kinds := [], alts := [], laidByText := true, laidKinds := [.data, .data, .data, .sentinel], laidTests := true, laidLooks := .later }
def FnMsgPutUptoCardSaid : Prop := Claim7.holds Tryd.pinned (.plain (OpenSpec.upto fnMsgPutSpec)) fnMsgPutUptoCard
end Rows
end Go.Proofs.YtijdjplajhcilaaDoor
