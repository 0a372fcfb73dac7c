/- DERIVED. The walk of the model's range of numbers: l1Range. -/
import Derived.Test.YtahhjhhnjpbocaaDoorOpenCut
import Derived.Test.YtahhjhhnjpbocaaDoorNumWalks
import Derived.Test.YtahhjhhnjpbocaaDoorGetSpec
namespace Go.Proofs.YtahhjhhnjpbocaaDoor
open Go.RowKit

theorem cell_new2 (w : World) (u u2 : Value) (e : TypeId) : ∀ (j : Nat) x, [u, u2][j]? = some x → (w.alloc (.cells #[u, u2] e)).cell? ((⟨w.heap.size, 0, none⟩ : Addr).add j) = some x := by
  intro j x hj
  match j, hj with
  | 0, hj => simp at hj; subst hj; simp [Addr.add]
  | 1, hj => simp at hj; subst hj; simp [Addr.add]
  | n + 2, hj => simp at hj

/-- What a range leaves: a row of hosts, all else as it was. -/
def HostsOut (base : Nat) (w : World) (out : Hs) (e : Ending) (w' : World) : Prop :=
  ∃ v, e = .returned v ∧ w'.ownsRow base 31 2 v out.length (hcells out) ∧ Below base w w' ∧ KeepT 31 w w'

theorem range_yes (nm : ByteArray) (f : Nat) (n hi : Int) (o T : Hs) (hf : 31 - o.length ≤ f) (h1 : n ≤ hi) (h2 : o.length ≤ 30) (h3 : n ≤ 999) (hT : T = rangeL nm f n hi o) : ∃ g, 31 - (o ++ [(nm, n)]).length ≤ g ∧ T = rangeL nm g (n + 1) hi (o ++ [(nm, n)]) := by
  obtain ⟨g, rfl⟩ : ∃ g, f = g + 1 := ⟨f - 1, by omega⟩
  refine ⟨g, by simp; omega, ?_⟩
  rw [hT, rangeL, if_pos ⟨h1, h2, h3⟩]

end Go.Proofs.YtahhjhhnjpbocaaDoor
