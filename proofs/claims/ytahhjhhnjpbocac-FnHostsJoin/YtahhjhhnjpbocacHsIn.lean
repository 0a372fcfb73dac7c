/- DERIVED. The program's HostsOk at lists that came in. -/
import Derived.Test.YtahhjhhnjpbocacJoinSpec
import Derived.Test.YtahhjhhnjpbocacHsImpl
namespace Go.Proofs.Ytahhjhhnjpbocac
open Go.RowKit

set_option maxHeartbeats 400000 in
theorem hostsOk_zero (oa : Option Addr) (cap : Nat) (w : World) :
    Calls Try.prog 8 #[.slice oa 0 cap] w fun e w' => e = .returned (.bool true) ∧ Below w.heap.size w w' := by
  go_enter Try.func8, Try.ntmps8
  go_wp2
  go_loop [10] (fun i => i = .int .i64 0) (fun _ => 0)
  case atStart => rfl
  case round =>
    subst hrel
    go_wp2
    go_ret
    exact ⟨rfl, Below.refl _ _⟩

theorem hostsOk_in (v : Value) (o : Hs) (w : World) (h : InRow w v o) :
    Calls Try.prog 8 #[v] w fun e w' => e = .returned (.bool (okH o)) ∧ Below w.heap.size w w' := by
  obtain ⟨oa, cp, rfl, h1, h2, h3⟩ := h
  rcases h3 with h3 | ⟨g, off, rfl, R⟩
  · have e : okH o = true := by rw [List.eq_nil_of_length_eq_zero h3]; rfl
    rw [h3, e]
    exact hostsOk_zero oa cp w
  · exact hostsOk_impl g off o.length cp (Sof o) (Mof o) w h1 h2 R

end Go.Proofs.Ytahhjhhnjpbocac
