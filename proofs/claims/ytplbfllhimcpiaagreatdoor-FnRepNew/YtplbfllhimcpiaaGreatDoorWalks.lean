/- DERIVED. The walks: each function on the road of the law, by a contract of its own. -/
import Derived.Test.YtplbfllhimcpiaaGreatDoorRows
import Derived.Test.YtplbfllhimcpiaaGreatDoorPlain
import Derived.WalkKit
import Derived.WalkSpells
import Derived.WalkLawsBesides
namespace Go.Proofs.YtplbfllhimcpiaaGreatDoor
open Go.RowKit



set_option maxHeartbeats 400000 in
theorem in_any (n a b : Int) (w : World) :
    Calls Tryz.prog 20 #[.int .i64 n, .int .i64 a, .int .i64 b] w fun e w' => e = .returned (.bool (inB n a b)) ∧ w' = w := by
  unfold inB
  by_cases h : a ≤ n
  all_goals
    go_enter Tryz.func20, Tryz.ntmps20
    go_wp2
    go_ret
    refine ⟨?_, rfl⟩
    first | (simp [h]; done) | (simp; omega)

theorem extract_all (s : ByteArray) : s.extract 0 s.size = s := by
  simp


end Go.Proofs.YtplbfllhimcpiaaGreatDoor
