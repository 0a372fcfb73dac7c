/- DERIVED. HostOk's contracts. -/
import Derived.Test.YtiobgpoedohcoaaDoorOk
namespace Go.Proofs.YtiobgpoedohcoaaDoor
open Go.RowKit

set_option maxHeartbeats 400000 in
theorem specOk_any (s : ByteArray) (n : Int) (w : World) (hs : s.size ≤ maxLen) :
    Calls Tryd.prog 9 #[.agg #[.string s, .int .i64 n]] w fun e w' => e = .returned (.bool (okB s n)) ∧ Below w.heap.size w w' := by
  go_enter Tryd.func9, Tryd.ntmps9
  go_wp2_with (go_at_call 19; refine (l1Ok_any _ _ _ hs).mono ?_; rintro e w' ⟨rfl, rfl⟩)
  go_ret
  exact ⟨rfl, ((Below.refl _ _).alloc (Nat.le_refl _) _).alloc (by simp) _⟩

set_option maxHeartbeats 400000 in
theorem implOk_any (s : ByteArray) (n : Int) (w : World) (hs : s.size ≤ maxLen) :
    Calls Tryd.prog 8 #[.agg #[.string s, .int .i64 n]] w fun e w' => e = .returned (.bool (okB s n)) ∧ Below w.heap.size w w' := by
  go_enter Tryd.func8, Tryd.ntmps8
  go_wp2_with (go_at_call 14; refine (ok_any _ _ _ hs).mono ?_; rintro e w' ⟨rfl, nq, rfl⟩)
  go_ret
  exact ⟨rfl, below_drewN (((Below.refl _ _).alloc (Nat.le_refl _) _).alloc (by simp) _) _⟩

end Go.Proofs.YtiobgpoedohcoaaDoor
