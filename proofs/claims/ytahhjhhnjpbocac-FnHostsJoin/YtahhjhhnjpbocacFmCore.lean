/- DERIVED. The walk of fmHosts. -/
import Derived.Test.YtahhjhhnjpbocacJoinSpec
import Derived.Test.YtahhjhhnjpbocacHsCmp
import Derived.Laws.StructEq
import Derived.BigQuiet
namespace Go.Proofs.Ytahhjhhnjpbocac
open Go.RowKit

theorem neqHost (s : ByteArray) (z : Int) (w : World) : (binOp .neq 29 (.agg #[.string s, .int .i64 z]) (.agg #[.string s, .int .i64 z])).run Try.prog w = .ok (.bool false) w := by
  have u3 := Try.underlying3
  have a3 := Try.isAgg3
  have z3 := Try.sizeOf3
  have u9 := Try.underlying9
  have a9 := Try.isAgg9
  have z9 := Try.sizeOf9
  have hS : Try.prog.underlying 29 = some (.struct (Try.prog.fieldsOf 29)) := by kernel_rfl
  have hp : Try.prog.stoodInHeld 29 = false := by kernel_rfl
  rw [run_neq_struct, show (10000 : Nat) = 9999 + 1 from rfl, run_equalIn_struct w 9999 29 _ _ hS hp]
  simp only [Program.fieldsOf, Try.underlying29]
  go_simp

set_option maxHeartbeats 400000 in
theorem fm_zero (oa ob : Option Addr) (p1 p2 : Nat) (w : World) :
    Calls Try.prog 6 #[.slice oa 0 p1, .slice ob 0 p2] w fun e w' => e = .returned (.bool true) ∧ Below w.heap.size w w' := by
  go_enter Try.func6, Try.ntmps6
  go_wp2
  go_loop [5] (fun i => i = .int .i64 0) (fun _ => 0)
  case atStart => rfl
  case round =>
    subst hrel
    go_wp2
    go_ret
    exact ⟨rfl, Below.refl _ _⟩

set_option maxRecDepth 100000 in
set_option maxHeartbeats 800000 in
theorem fm_caps (B1 B2 len p1 p2 o1 o2 : Nat) (S : Nat → ByteArray) (M : Nat → Int) (w : World) (hn : len ≤ 1048576) (R1 : RowAt w B1 o1 len S M) (R2 : RowAt w B2 o2 len S M) :
    Calls Try.prog 6 #[.slice (some ⟨B1, o1, none⟩) len p1, .slice (some ⟨B2, o2, none⟩) len p2] w fun e w' => e = .returned (.bool true) ∧ Below w.heap.size w w' := by
  go_enter Try.func6, Try.ntmps6
  go_wp2
  go_loopw [5] (fun i w' => Below w.heap.size w w' ∧ ∃ k : Nat, k ≤ len ∧ i = .int .i64 k) (fun i _ => len - (intOf i).toNat)
  case atStart => exact ⟨Below.refl _ _, 0, Nat.zero_le _, rfl⟩
  case round =>
    obtain ⟨hB, k, hk, rfl⟩ := hrel
    have HB := hid hB
    clear hB
    by_cases hlt : k < len
    · have c0 := (R1.below HB.out).name k hlt
      have c1 := (R1.below HB.out).num k hlt
      have d0 := (R2.below HB.out).name k hlt
      have d1 := (R2.below HB.out).num k hlt
      have hk0 : (0 : Int) ≤ (k : Int) := by omega
      have hk1 : (k : Int) < (len : Int) := by omega
      have hnq := fun W => neqHost (S k) (M k) W
      go_wp2
      go_quiet (fail)
      go_wp2
      go_roundw
      case rel => exact ⟨below_drewN HB.out _, k + 1, by omega, by go_num⟩
      case measure => simp [intOf]; omega
    · go_wp2
      go_ret
      exact ⟨rfl, HB.out⟩

theorem fmRow_same (v1 v2 : Value) (o : Hs) (w : World) (hl : o.length ≤ 1048576) (h1 : InRow w v1 o) (h2 : InRow w v2 o) :
    Calls Try.prog 6 #[v1, v2] w fun e w' => e = .returned (.bool true) ∧ Below w.heap.size w w' := by
  obtain ⟨oa, p1, rfl, _, _, h3⟩ := h1
  obtain ⟨ob, p2, rfl, _, _, h4⟩ := h2
  rcases h3 with h0 | ⟨g1, o1, rfl, R1⟩
  · rw [h0]; exact fm_zero oa ob p1 p2 w
  · rcases h4 with h0 | ⟨g2, o2, rfl, R2⟩
    · rw [h0]; exact fm_zero _ ob p1 p2 w
    · exact fm_caps g1 g2 o.length p1 p2 o1 o2 (Sof o) (Mof o) w hl R1 R2

end Go.Proofs.Ytahhjhhnjpbocac
