/- DERIVED. Numbers in a row. -/
import Derived.Test.YtplbfllhimcpiaaGreatDoorOk
import Derived.Below
import Derived.OwnWalk
import Derived.Deep.LoopGhost
import Derived.Deep.QuietTactic
import Derived.BigQuiet
namespace Go.Proofs.YtplbfllhimcpiaaGreatDoor
open Go.RowKit

/-- Numbers lie in a row. -/
def NumsAt (w : World) (oa : Option Addr) (V : List Int) : Prop := ∀ i (h : i < V.length), ∃ b off, oa = some ⟨b, off, none⟩ ∧ b < w.heap.size ∧ w.cell? ⟨b, off + i, none⟩ = some (.int .i64 V[i])

theorem NumsAt.below {w w' : World} {oa : Option Addr} {V : List Int} (h : NumsAt w oa V) (hb : Below w.heap.size w w') : NumsAt w' oa V := by
  intro i hi
  obtain ⟨b, off, e, hg, hc⟩ := h i hi
  exact ⟨b, off, e, Nat.lt_of_lt_of_le hg hb.size, by rw [hb.cell (p := ⟨b, off + i, none⟩) hg]; exact hc⟩

end Go.Proofs.YtplbfllhimcpiaaGreatDoor
