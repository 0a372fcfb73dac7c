/- DERIVED. The law FnExactLogTear at every two texts and number. -/
import Derived.Test.YtmafkelegjjnfabDoorLogTear
namespace Go.Proofs.YtmafkelegjjnfabDoor
open Go.RowKit

set_option maxHeartbeats 800000 in
theorem law_any (log r : ByteArray) (n : Int) (w : World) (hl : log.size ≤ maxLen) (hr : r.size ≤ maxLen) (_hn : (Lit.int .i64 n).wf = true) (ht : Tab w) :
    Calls Tryd.prog 3 #[.string log, .string r, .int .i64 n] w fun e w' => e = .returned (.bool true) ∧ Below w.heap.size w w' := by
  unfold maxLen at hl hr
  have HT := hid ht
  clear ht
  by_cases h1 : (log.size : Int) > 1048576
  · go_enter Tryd.func3, Tryd.ntmps3
    go_wp2
    go_ret
    exact ⟨rfl, Below.refl _ _⟩
  by_cases h2 : (r.size : Int) > 1048576
  · go_enter Tryd.func3, Tryd.ntmps3
    go_wp2
    go_ret
    exact ⟨rfl, Below.refl _ _⟩
  obtain ⟨z, hz⟩ : ∃ z, z = tearS log r n := ⟨_, rfl⟩
  have CS : Hid (∀ w, Calls Tryd.prog 4 #[.string log, .string r, .int .i64 n] w fun e w' => e = .returned (.string z) ∧ Below w.heap.size w w') := fun w => by rw [hz]; exact specTear_any log r n w (by omega) (by omega)
  have CI : Hid (∀ w, Tab w → Calls Tryd.prog 5 #[.string log, .string r, .int .i64 n] w fun e w' => e = .returned (.string z) ∧ Below w.heap.size w w') := fun w ht => by rw [hz]; exact implTear_any log r n w (by omega) (by omega) ht
  clear hz
  go_enter Tryd.func3, Tryd.ntmps3
  go_wp2_with fail
  refine (CS.out _).mono ?_
  rintro e w1 ⟨rfl, hb⟩
  have HB := hid hb
  clear hb
  go_wp2_with fail
  refine (CI.out _ (HT.out.below HB.out)).mono ?_
  rintro e w2 ⟨rfl, hb⟩
  have HB2 : Hid (Below w.heap.size w w2) := HB.out.trans (hb.mono HB.out.size)
  clear hb
  go_wp2
  go_ret
  exact ⟨rfl, HB2.out⟩

end Go.Proofs.YtmafkelegjjnfabDoor
