/- DERIVED. The walk of the law on PatMatch. -/
import Derived.Test.YtbgfhgllhchlbaaDoorPatMatch
namespace Go.Proofs.YtbgfhgllhchlbaaDoor
open Go.RowKit

set_option maxRecDepth 100000 in
set_option maxHeartbeats 800000 in
theorem law_any (p s : ByteArray) (w : World) (hp : p.size ≤ maxLen) (hs : s.size ≤ maxLen) :
    Calls Tryd.prog 3 #[.string p, .string s] w fun e w' => e = .returned (.bool true) ∧ Below w.heap.size w w' := by
  have hp' : p.size ≤ 2 ^ 63 - 1 := hp
  have hs' : s.size ≤ 2 ^ 63 - 1 := hs
  obtain ⟨b, hb⟩ : ∃ b : Bool, b = true ↔ PatSo p.data.toList s.data.toList := by
    rcases Classical.em (PatSo p.data.toList s.data.toList) with h | h
    · exact ⟨true, by simp [h]⟩
    · exact ⟨false, by simp [h]⟩
  have CS : Hid (∀ w, Calls Tryd.prog 4 #[.string p, .string s] w fun e w' => e = .returned (.bool b) ∧ Below w.heap.size w w') := fun w => patSpec_any p s b w hp hs hb
  have CI : Hid (∀ w, Calls Tryd.prog 5 #[.string p, .string s] w fun e w' => e = .returned (.bool b) ∧ ∃ nq, w' = w.drewN nq) := fun w => patImpl_any p s b w hp hs hb
  clear hb
  by_cases h1 : (p.size : Int) > 1048576
  · go_enter Tryd.func3, Tryd.ntmps3
    go_wp2
    refine bodyPost_ret (v := .bool true) (by simp [results, Tryd.results3, go_sem]) rfl ⟨rfl, Below.refl _ _⟩
  · by_cases h2 : (s.size : Int) > 1048576
    · go_enter Tryd.func3, Tryd.ntmps3
      go_wp2
      refine bodyPost_ret (v := .bool true) (by simp [results, Tryd.results3, go_sem]) rfl ⟨rfl, Below.refl _ _⟩
    · go_enter Tryd.func3, Tryd.ntmps3
      go_wp2_with (go_at_call 4; refine (CS.out _).mono ?_; rintro e w1 ⟨rfl, hB⟩; have HB := hidP hB; clear hB)
      go_wp2_with (go_at_call 5; refine (CI.out _).mono ?_; rintro e w2 ⟨rfl, nq, rfl⟩)
      refine bodyPost_ret (v := .bool true) (by simp [results, Tryd.results3, go_sem]) rfl ⟨rfl, p_below_drewN HB.out _⟩

end Go.Proofs.YtbgfhgllhchlbaaDoor
