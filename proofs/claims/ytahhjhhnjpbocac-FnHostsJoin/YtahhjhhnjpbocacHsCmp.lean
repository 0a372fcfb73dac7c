/- DERIVED. The walk of the method compare. -/
import Derived.Test.YtahhjhhnjpbocacHsWalks
import Derived.Deep.RegionHeld3
namespace Go.Proofs.Ytahhjhhnjpbocac
open Go.RowKit

set_option maxHeartbeats 800000 in
theorem compare_any (s t : ByteArray) (n m : Int) (w : World) :
    Calls Try.prog 13 #[.agg #[.string s, .int .i64 n], .agg #[.string t, .int .i64 m]] w fun e w' => e = .returned (.int .i64 (cmpI s n t m)) ∧ Below w.heap.size w w' := by
  rw [cmp_parts]
  obtain ⟨x, hx⟩ : ∃ x, x = cmpS s t := ⟨_, rfl⟩
  obtain ⟨y, hy⟩ : ∃ y, y = cmpN n m := ⟨_, rfl⟩
  rw [← hx, ← hy]
  obtain ⟨z, hz⟩ : ∃ z, z = if (x != 0) = true then x else y := ⟨_, rfl⟩
  rw [← hz]
  have cO : ∀ B w, w.cell? ⟨B, 0, none⟩ = some (.int .i64 x) → w.cell? ⟨B, 1, none⟩ = some (.int .i64 y) → Calls Try.prog 25 #[.slice (some ⟨B, 0, none⟩) 2 2] w fun e w' => e = .returned (.int .i64 z) ∧ w' = w := fun B w h0 h1 => by rw [hz]; exact or_any x y B w h0 h1
  have CO := hid cO
  clear cO hz
  have HX := hid hx
  have HY := hid hy
  clear hx hy
  have cS : ∀ w, Calls Try.prog 26 #[.string s, .string t] w fun e w' => e = .returned (.int .i64 x) ∧ w' = w := fun w => by rw [HX.out]; exact cmpS_any s t w
  have cN : ∀ w, Calls Try.prog 27 #[.int .i64 n, .int .i64 m] w fun e w' => e = .returned (.int .i64 y) ∧ w' = w := fun w => by rw [HY.out]; exact cmpN_any n m w
  have CS := hid cS
  have CN := hid cN
  clear cS cN
  go_enter Try.func13, Try.ntmps13
  go_wp2
  go_region_held3 (fun w' => w'.cell? ⟨w.heap.size, 0, none⟩ = some (.string s) ∧ w'.cell? ⟨w.heap.size, 1, none⟩ = some (.int .i64 n) ∧ w'.cell? ⟨w.heap.size + 1, 0, none⟩ = some (.string t) ∧ w'.cell? ⟨w.heap.size + 1, 1, none⟩ = some (.int .i64 m)) (go_keep)
    (first
      | (go_at_call 26; refine (CS.out _).mono ?_; rintro e w' ⟨rfl, rfl⟩)
      | (go_at_call 27; refine (CN.out _).mono ?_; rintro e w' ⟨rfl, rfl⟩)
      | (go_at_call 25; refine (CO.out _ _ ?_ ?_).mono ?_; simp [go_sem]; simp [go_sem]; rintro e w' ⟨rfl, rfl⟩))
  all_goals
    go_wp2
    go_ret
    refine ⟨rfl, ?_⟩
    repeat (first | exact Below.refl _ _ | refine Below.drew ?_ | refine below_drewN ?_ _ | refine Below.alloc ?_ (by simp; try omega) _)

theorem ge_less (s t : ByteArray) (n m : Int) : decide (0 ≤ cmpI s n t m) = !lessB s n t m := cmpI_less s n t m

end Go.Proofs.Ytahhjhhnjpbocac
