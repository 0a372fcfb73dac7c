/- DERIVED. The law's own tools at one who decides that knows nothing: eqRep, markRep, heldRep. -/
import Derived.Test.YtplbfllhimcpiaaGreatDoorNumMark
namespace Go.Proofs.YtplbfllhimcpiaaGreatDoor
open Go.RowKit

theorem cellAt {w : World} {b : Nat} {cur : Array Value} {t : TypeId} (h : w.heap[b]? = some (.cells cur t (0, 0))) (i : Nat) : w.cell? ⟨b, i, none⟩ = cur[i]? := by
  simp [World.cell?, h]

theorem block_below {w w' : World} {b : Nat} {x : Obj} (h : w.heap[b]? = some x) (hb : Below w.heap.size w w') : w'.heap[b]? = some x := by
  rw [hb.block b (Array.getElem?_eq_some_iff.1 h).1]
  exact h

theorem block_grown {w w' : World} {b : Nat} {x : Obj} {g : Option Nat} (h : w.heap[b]? = some x) (hg : w.grownBy w' g) (hne : some b ≠ g) : w'.heap[b]? = some x := by
  rw [hg.block b (Array.getElem?_eq_some_iff.1 h).1 hne]
  exact h

theorem block_alloc (w : World) (x : Obj) : (w.alloc x).heap[w.heap.size]? = some x := by
  show (w.heap.push x)[w.heap.size]? = _
  simp

end Go.Proofs.YtplbfllhimcpiaaGreatDoor
