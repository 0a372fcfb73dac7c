/- DERIVED. The walk of fmHosts, and the program's functions at lists that came in. -/
import Derived.Test.YtahhjhhnjpbocaaDoorOpenImpl
import Derived.Test.YtahhjhhnjpbocaaDoorJoinSpec
import Derived.Laws.StructEq
namespace Go.Proofs.YtahhjhhnjpbocaaDoor
open Go.RowKit

theorem neqHost (s : ByteArray) (z : Int) (w : World) : (binOp .neq 31 (.agg #[.string s, .int .i64 z]) (.agg #[.string s, .int .i64 z])).run Tryd.prog w = .ok (.bool false) w := by
  have u3 := Tryd.underlying3
  have a3 := Tryd.isAgg3
  have z3 := Tryd.sizeOf3
  have u9 := Tryd.underlying9
  have a9 := Tryd.isAgg9
  have z9 := Tryd.sizeOf9
  have hS : Tryd.prog.underlying 31 = some (.struct (Tryd.prog.fieldsOf 31)) := by kernel_rfl
  have hp : Tryd.prog.stoodInHeld 31 = false := by kernel_rfl
  rw [run_neq_struct, show (10000 : Nat) = 9999 + 1 from rfl, run_equalIn_struct w 9999 31 _ _ hS hp]
  simp only [Program.fieldsOf, Tryd.underlying31]
  go_simp

set_option maxHeartbeats 400000 in
theorem fm_zero (oa ob : Option Addr) (p1 p2 : Nat) (w : World) :
    Calls Tryd.prog 11 #[.slice oa 0 p1, .slice ob 0 p2] w fun e w' => e = .returned (.bool true) ∧ Below w.heap.size w w' := by
  go_enter Tryd.func11, Tryd.ntmps11
  go_wp2
  go_loop [5] (fun i => i = .int .i64 0) (fun _ => 0)
  case atStart => rfl
  case round =>
    subst hrel
    go_wp2
    go_ret
    exact ⟨rfl, Below.refl _ _⟩

set_option maxRecDepth 100000 in
set_option maxHeartbeats 800000 in
theorem fm_caps (B1 B2 len p1 p2 o1 o2 : Nat) (S : Nat → ByteArray) (M : Nat → Int) (w : World) (hn : len ≤ 1048576) (R1 : RowAt w B1 o1 len S M) (R2 : RowAt w B2 o2 len S M) :
    Calls Tryd.prog 11 #[.slice (some ⟨B1, o1, none⟩) len p1, .slice (some ⟨B2, o2, none⟩) len p2] w fun e w' => e = .returned (.bool true) ∧ Below w.heap.size w w' := by
  go_enter Tryd.func11, Tryd.ntmps11
  go_wp2
  go_loopw [5] (fun i w' => Below w.heap.size w w' ∧ ∃ k : Nat, k ≤ len ∧ i = .int .i64 k) (fun i _ => len - (intOf i).toNat)
  case atStart => exact ⟨Below.refl _ _, 0, Nat.zero_le _, rfl⟩
  case round =>
    obtain ⟨hB, k, hk, rfl⟩ := hrel
    have HB := hid hB
    clear hB
    by_cases hlt : k < len
    · have c0 := (R1.below HB.out).name k hlt
      have c1 := (R1.below HB.out).num k hlt
      have d0 := (R2.below HB.out).name k hlt
      have d1 := (R2.below HB.out).num k hlt
      have hk0 : (0 : Int) ≤ (k : Int) := by omega
      have hk1 : (k : Int) < (len : Int) := by omega
      have hnq := fun W => neqHost (S k) (M k) W
      go_wp2
      go_quiet (fail)
      go_wp2
      go_roundw
      case rel => exact ⟨below_drewN HB.out _, k + 1, by omega, by go_num⟩
      case measure => simp [intOf]; omega
    · go_wp2
      go_ret
      exact ⟨rfl, HB.out⟩

theorem fmRow_same (v1 v2 : Value) (o : Hs) (w : World) (hl : o.length ≤ 1048576) (h1 : InRow w v1 o) (h2 : InRow w v2 o) :
    Calls Tryd.prog 11 #[v1, v2] w fun e w' => e = .returned (.bool true) ∧ Below w.heap.size w w' := by
  obtain ⟨oa, p1, rfl, _, _, h3⟩ := h1
  obtain ⟨ob, p2, rfl, _, _, h4⟩ := h2
  rcases h3 with h0 | ⟨g1, o1, rfl, R1⟩
  · rw [h0]; exact fm_zero oa ob p1 p2 w
  · rcases h4 with h0 | ⟨g2, o2, rfl, R2⟩
    · rw [h0]; exact fm_zero _ ob p1 p2 w
    · exact fm_caps g1 g2 o.length p1 p2 o1 o2 (Sof o) (Mof o) w hl R1 R2

theorem openS_ok (s : ByteArray) (o : Hs) (h : openS s = some o) : okH o = true ∧ foldO o = s.data.toList ∧ o.length ≤ 30 ∧ ∀ x ∈ o, x.1.size ≤ 400 := by
  unfold openS at h
  split at h
  · rename_i h0
    injection h with h
    rw [← h]
    have e : s.data.toList = [] := List.eq_nil_of_length_eq_zero (by simpa using h0)
    refine ⟨rfl, ?_, by simp, by simp⟩
    rw [e]
    unfold foldO
    split
    · exact foldH_nil
    · rfl
  · split at h
    · cases h
    · split at h
      · rename_i h1
        injection h with h
        rw [h] at h1
        obtain ⟨h30, hall⟩ := okH_each o h1.1
        refine ⟨h1.1, by unfold foldO; rw [if_pos h1.1]; exact h1.2, h30, fun x hx => ?_⟩
        obtain ⟨i, hi, e⟩ := List.getElem_of_mem hx
        have := (okB_num (hall i hi)).1
        have e2 : Sof o i = x.1 := by rw [← e]; simp [Sof, List.getD, List.getElem?_eq_getElem hi]
        rw [e2] at this
        omega
      · cases h

theorem hostsOk_in (v : Value) (o : Hs) (w : World) (h : InRow w v o) :
    Calls Tryd.prog 7 #[v] w fun e w' => e = .returned (.bool (okH o)) ∧ Below w.heap.size w w' := by
  obtain ⟨oa, cp, rfl, h1, h2, h3⟩ := h
  rcases h3 with h3 | ⟨g, off, rfl, R⟩
  · have e : okH o = true := by rw [List.eq_nil_of_length_eq_zero h3]; rfl
    rw [h3, e]
    exact hostsOk_zero oa cp w
  · exact hostsOk_impl g off o.length cp (Sof o) (Mof o) w h1 h2 R

theorem fold_in (v : Value) (o : Hs) (w : World) (h : InRow w v o) (ht : Tab w) :
    Calls Tryd.prog 5 #[v] w fun e w' => e = .returned (.string (mkB (foldO o))) ∧ Below w.heap.size w w' := by
  obtain ⟨oa, cp, rfl, h1, h2, h3⟩ := h
  rcases h3 with h3 | ⟨g, off, rfl, R⟩
  · have e : mkB (foldO o) = ⟨#[]⟩ := by
      rw [List.eq_nil_of_length_eq_zero h3]
      unfold foldO
      split
      · rw [foldH_nil]; rfl
      · rfl
    rw [h3, e]
    exact implFold_zero oa cp w
  · have h := implFold_any g off o.length cp (Sof o) (Mof o) w h1 h2 R ht
    have e : mkB (foldO o) = if listOk (Sof o) (Mof o) o.length = true then mkS (foldL (Sof o) (Mof o) 0 o.length) else ⟨#[]⟩ := by
      unfold foldO okH foldH
      split <;> rfl
    rw [e]
    exact h

end Go.Proofs.YtahhjhhnjpbocaaDoor
