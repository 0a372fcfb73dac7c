/- DERIVED. The walks of the law's own helpers over one host. -/
import Derived.Test.YtahhjhhnjpbocadDoorOk
namespace Go.Proofs.YtahhjhhnjpbocadDoor
open Go.RowKit

set_option maxHeartbeats 400000 in
theorem eqHost_same (r : ByteArray) (n : Int) (w : World) :
    Calls Tryd.prog 15 #[.agg #[.string r, .int .i64 n], .agg #[.string r, .int .i64 n]] w fun e w' => e = .returned (.bool true) ∧ Below w.heap.size w w' := by
  go_enter Tryd.func15, Tryd.ntmps15
  go_wp2
  go_ret
  exact ⟨rfl, ((Below.refl _ _).alloc (Nat.le_refl _) _).alloc (by simp) _⟩

end Go.Proofs.YtahhjhhnjpbocadDoor
