/- DERIVED. The walks of the law's own helpers over one host. -/
import Derived.Test.YtahhjhhnjpbocaeOk
namespace Go.Proofs.Ytahhjhhnjpbocae
open Go.RowKit

set_option maxHeartbeats 400000 in
theorem sz_any (s : ByteArray) (n l : Int) (w : World) (hs : s.size ≤ maxLen) (h0 : 0 ≤ l) (h1 : l ≤ 1048576) :
    Calls Try.prog 11 #[.agg #[.string s, .int .i64 n], .int .i64 l] w fun e w' => e = .returned (.int .i64 (if l - s.size < 0 then -1 else l - s.size)) ∧ w' = w.alloc (.cells #[.string s, .int .i64 n] 32) := by
  unfold maxLen at hs
  by_cases h : l - s.size < 0
  all_goals
    go_enter Try.func11, Try.ntmps11
    go_wp2
    go_ret
    exact ⟨rfl, rfl⟩

set_option maxHeartbeats 400000 in
theorem to_any (s : ByteArray) (n : Int) (w : World) :
    Calls Try.prog 14 #[.agg #[.string s, .int .i64 n]] w fun e w' => e = .returned (.agg #[.string s, .int .i64 n]) ∧ Below w.heap.size w w' := by
  go_enter Try.func14, Try.ntmps14
  go_wp2
  refine bodyPost_ret (v := .agg #[.string s, .int .i64 n]) (by simp [results, Try.results14, go_sem]) rfl ⟨rfl, ?_⟩
  exact (((Below.refl _ _).alloc (Nat.le_refl _) _).alloc (by simp) _).alloc (by simp; omega) _

set_option maxHeartbeats 400000 in
theorem eqHost_same (r : ByteArray) (n : Int) (w : World) :
    Calls Try.prog 20 #[.agg #[.string r, .int .i64 n], .agg #[.string r, .int .i64 n]] w fun e w' => e = .returned (.bool true) ∧ Below w.heap.size w w' := by
  go_enter Try.func20, Try.ntmps20
  go_wp2
  go_ret
  exact ⟨rfl, ((Below.refl _ _).alloc (Nat.le_refl _) _).alloc (by simp) _⟩

end Go.Proofs.Ytahhjhhnjpbocae
