/- DERIVED. The walk of the law on HostPut. -/
import Derived.Test.YtjjcpkobpcpdeabDoorPut
import Derived.Test.YtjjcpkobpcpdeabDoorSz
namespace Go.Proofs.YtjjcpkobpcpdeabDoor
open Go.RowKit

set_option maxHeartbeats 400000 in
theorem law_any (s : ByteArray) (n : Int) (w : World) (hs : s.size ≤ maxLen) (ht : Tab w) :
    Calls Tryd.prog 3 #[.agg #[.string s, .int .i64 n]] w fun e w' => e = .returned (.bool true) ∧ Below w.heap.size w w' := by
  have HT := hid ht
  clear ht
  by_cases h : 1048576 - (s.size : Int) < 0
  · go_enter Tryd.func3, Tryd.ntmps3
    go_wp2_with (go_at_call 4; refine (sz_any _ _ _ _ hs (by decide) (by decide)).mono ?_; rintro e w' ⟨rfl, rfl⟩; rw [if_pos h])
    go_ret
    exact ⟨rfl, ((Below.refl _ _).alloc (Nat.le_refl _) _).alloc (by simp) _⟩
  · obtain ⟨z, hz⟩ : ∃ z, z = putS s n := ⟨_, rfl⟩
    have CS : Hid (∀ w, Calls Tryd.prog 5 #[.agg #[.string s, .int .i64 n]] w fun e w' => e = .returned (.string z) ∧ Below w.heap.size w w') := fun w => by rw [hz]; exact specPut_any s n w hs
    have CI : Hid (∀ w, Tab w → Calls Tryd.prog 7 #[.agg #[.string s, .int .i64 n]] w fun e w' => e = .returned (.string z) ∧ Below w.heap.size w w') := fun w ht => by rw [hz]; exact implPut_any s n w hs ht
    clear hz
    go_enter Tryd.func3, Tryd.ntmps3
    go_wp2_with (go_at_call 4; refine (sz_any _ _ _ _ hs (by decide) (by decide)).mono ?_; rintro e w' ⟨rfl, rfl⟩; rw [if_neg h])
    refine (to_any s n _).mono ?_
    rintro e w1 ⟨rfl, hb1⟩
    have hca : w1.cell? ⟨w.heap.size, 0, none⟩ = some (.string s) := by rw [hb1.cell (by simp; omega)]; simp
    have hcb : w1.cell? ⟨w.heap.size, 1, none⟩ = some (.int .i64 n) := by rw [hb1.cell (by simp; omega)]; simp
    have hz1 : w.heap.size < w1.heap.size := by have := hb1.size; simp at this; omega
    have B1 : Hid (Below w.heap.size w w1) := ((((Below.refl _ _).alloc (Nat.le_refl _) _).alloc (by simp) _).trans (hb1.mono (by simp; omega)))
    clear hb1
    go_wp2_with fail
    refine (CS.out _).mono ?_
    rintro e w2 ⟨rfl, hb2⟩
    have hca2 : w2.cell? ⟨w.heap.size, 0, none⟩ = some (.string s) := by rw [hb2.cell (p := ⟨w.heap.size, 0, none⟩) hz1]; exact hca
    have hcb2 : w2.cell? ⟨w.heap.size, 1, none⟩ = some (.int .i64 n) := by rw [hb2.cell (p := ⟨w.heap.size, 1, none⟩) hz1]; exact hcb
    have B2 : Hid (Below w.heap.size w w2) := B1.out.trans (hb2.mono B1.out.size)
    clear hb2 hca hcb
    go_wp2_with fail
    refine (to_any s n _).mono ?_
    rintro e w3 ⟨rfl, hb3⟩
    have B3 : Hid (Below w.heap.size w w3) := B2.out.trans (hb3.mono B2.out.size)
    have HT3 : Hid (Tab w3) := HT.out.below B3.out
    clear hb3 hca2 hcb2
    go_wp2_with fail
    refine (CI.out _ HT3.out).mono ?_
    rintro e w4 ⟨rfl, hb4⟩
    have B4 : Hid (Below w.heap.size w w4) := B3.out.trans (hb4.mono B3.out.size)
    clear hb4
    go_wp2
    go_ret
    exact ⟨rfl, B4.out⟩

end Go.Proofs.YtjjcpkobpcpdeabDoor
