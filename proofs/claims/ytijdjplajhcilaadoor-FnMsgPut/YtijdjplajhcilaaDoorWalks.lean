/- DERIVED. The walks: each function on the road of the law, by a contract of its own. -/
import Derived.Test.YtijdjplajhcilaaDoorRows
import Derived.Test.YtijdjplajhcilaaDoorPlain
import Derived.WalkKit
import Derived.WalkSpells
import Derived.WalkLawsBesides
namespace Go.Proofs.YtijdjplajhcilaaDoor
open Go.RowKit



set_option maxHeartbeats 400000 in
theorem in_any (n a b : Int) (w : World) :
    Calls Tryd.prog 36 #[.int .i64 n, .int .i64 a, .int .i64 b] w fun e w' => e = .returned (.bool (inB n a b)) ∧ w' = w := by
  unfold inB
  by_cases h : a ≤ n
  all_goals
    go_enter Tryd.func36, Tryd.ntmps36
    go_wp2
    go_ret
    refine ⟨?_, rfl⟩
    first | (simp [h]; done) | (simp; omega)

theorem extract_all (s : ByteArray) : s.extract 0 s.size = s := by
  simp


end Go.Proofs.YtijdjplajhcilaaDoor
