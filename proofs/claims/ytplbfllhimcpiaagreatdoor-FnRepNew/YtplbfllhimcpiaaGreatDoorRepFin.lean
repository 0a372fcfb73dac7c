/- DERIVED. One who decides that knows nothing: RepOk, RepFall, RepRise; and fmRep. -/
import Derived.Test.YtplbfllhimcpiaaGreatDoorRepMid3
import Derived.Test.YtplbfllhimcpiaaGreatDoorFmEnt
namespace Go.Proofs.YtplbfllhimcpiaaGreatDoor
open Go.RowKit

set_option maxRecDepth 100000 in
set_option maxHeartbeats 3200000 in
theorem repOkN (g n cp base : Nat) (id : Int) (w : World) (ht : Tab w) (h1 : 1 ≤ n) (h3 : n ≤ 3) (hi1 : 10 ≤ id) (hi2 : id ≤ 12) (hG : w.ownsRow base 3 1 (.slice (some ⟨g, 0, none⟩) n cp) n ((noneL n).map (Value.int .i64))) :
    Calls Tryz.prog 8 #[.int .i64 (n : Int), .agg #[.int .i64 id, .string ⟨#[]⟩, .bool true, .int .i64 0, .slice none 0 0, .slice none 0 0, .int .i64 0, .slice none 0 0, .int .i64 0, .int .i64 0, .int .i64 0, .slice (some ⟨g, 0, none⟩) n cp, .slice none 0 0, .slice none 0 0]] w fun e w' => e = .returned (.bool true) ∧ Below w.heap.size w w' := by
  obtain ⟨w1, hw1⟩ : ∃ w1, w1 = (w.alloc (.cells #[.int .i64 id, .string ⟨#[]⟩, .bool true, .int .i64 0, .slice none 0 0, .slice none 0 0, .int .i64 0, .slice none 0 0, .int .i64 0, .int .i64 0, .int .i64 0, .slice (some ⟨g, 0, none⟩) n cp, .slice none 0 0, .slice none 0 0] 28)) := ⟨_, rfl⟩
  have HBw1 : Hid (Below w.heap.size w w1) := by rw [hw1]; exact ((Below.refl _ _).alloc (Nat.le_refl _) _)
  have Hw10 : Hid (w1.heap[w.heap.size]? = some (.cells #[.int .i64 id, .string ⟨#[]⟩, .bool true, .int .i64 0, .slice none 0 0, .slice none 0 0, .int .i64 0, .slice none 0 0, .int .i64 0, .int .i64 0, .int .i64 0, .slice (some ⟨g, 0, none⟩) n cp, .slice none 0 0, .slice none 0 0] 28 (0, 0))) := by
    have q := alloc_newR w (.cells #[.int .i64 id, .string ⟨#[]⟩, .bool true, .int .i64 0, .slice none 0 0, .slice none 0 0, .int .i64 0, .slice none 0 0, .int .i64 0, .int .i64 0, .int .i64 0, .slice (some ⟨g, 0, none⟩) n cp, .slice none 0 0, .slice none 0 0] 28)
    rw [hw1]
    exact q
  have HC := hid (decider_up g n cp base id w1 (ht.below HBw1.out) h1 h3 hi1 hi2 (row_below hG HBw1.out))
  clear hG ht
  go_enter Tryz.func8, Tryz.ntmps8
  go_wp2_with fail
  rw [← hw1]
  clear hw1
  refine HC.out.mono ?_
  rintro e w2 ⟨⟨D, ov, cv, rfl, _, _⟩, hb⟩
  have HB2 := hid (HBw1.out.trans (hb.mono HBw1.out.size))
  clear hb
  go_wp2
  go_ret
  exact ⟨rfl, HB2.out⟩

set_option maxRecDepth 100000 in
set_option maxHeartbeats 3200000 in
theorem fmRep_same (id : Int) (up : Bool) (o1 o2 : Option Addr) (c1 c2 n : Nat) (V : List Int) (w : World) (hl : n = V.length) (hm : n ≤ 1048576) (hn1 : NumsAt w o1 V) (hn2 : NumsAt w o2 V) :
    Calls Tryz.prog 6 #[.agg #[.int .i64 id, .string ⟨#[]⟩, .bool up, .int .i64 0, .slice none 0 0, .slice none 0 0, .int .i64 0, .slice none 0 0, .int .i64 0, .int .i64 0, .int .i64 0, .slice o1 n c1, .slice none 0 0, .slice none 0 0], .agg #[.int .i64 id, .string ⟨#[]⟩, .bool up, .int .i64 0, .slice none 0 0, .slice none 0 0, .int .i64 0, .slice none 0 0, .int .i64 0, .int .i64 0, .int .i64 0, .slice o2 n c2, .slice none 0 0, .slice none 0 0]] w fun e w' => e = .returned (.bool true) ∧ Below w.heap.size w w' := by
  obtain ⟨w1, hw1⟩ : ∃ w1, w1 = ((w.alloc (.cells #[.int .i64 id, .string ⟨#[]⟩, .bool up, .int .i64 0, .slice none 0 0, .slice none 0 0, .int .i64 0, .slice none 0 0, .int .i64 0, .int .i64 0, .int .i64 0, .slice o1 n c1, .slice none 0 0, .slice none 0 0] 28)).alloc (.cells #[.int .i64 id, .string ⟨#[]⟩, .bool up, .int .i64 0, .slice none 0 0, .slice none 0 0, .int .i64 0, .slice none 0 0, .int .i64 0, .int .i64 0, .int .i64 0, .slice o2 n c2, .slice none 0 0, .slice none 0 0] 28)) := ⟨_, rfl⟩
  have HBw1 : Hid (Below w.heap.size w w1) := by rw [hw1]; exact (((Below.refl _ _).alloc (Nat.le_refl _) _).alloc (by simp) _)
  have Hw10 : Hid (w1.heap[w.heap.size]? = some (.cells #[.int .i64 id, .string ⟨#[]⟩, .bool up, .int .i64 0, .slice none 0 0, .slice none 0 0, .int .i64 0, .slice none 0 0, .int .i64 0, .int .i64 0, .int .i64 0, .slice o1 n c1, .slice none 0 0, .slice none 0 0] 28 (0, 0))) := by
    have q := alloc_newR w (.cells #[.int .i64 id, .string ⟨#[]⟩, .bool up, .int .i64 0, .slice none 0 0, .slice none 0 0, .int .i64 0, .slice none 0 0, .int .i64 0, .int .i64 0, .int .i64 0, .slice o1 n c1, .slice none 0 0, .slice none 0 0] 28)
    rw [hw1]
    have q := blk_belowR q ((Below.refl _ _).alloc (Nat.le_refl _) (.cells #[.int .i64 id, .string ⟨#[]⟩, .bool up, .int .i64 0, .slice none 0 0, .slice none 0 0, .int .i64 0, .slice none 0 0, .int .i64 0, .int .i64 0, .int .i64 0, .slice o2 n c2, .slice none 0 0, .slice none 0 0] 28))
    exact q
  have Hw11 : Hid (w1.heap[w.heap.size + 1]? = some (.cells #[.int .i64 id, .string ⟨#[]⟩, .bool up, .int .i64 0, .slice none 0 0, .slice none 0 0, .int .i64 0, .slice none 0 0, .int .i64 0, .int .i64 0, .int .i64 0, .slice o2 n c2, .slice none 0 0, .slice none 0 0] 28 (0, 0))) := by
    have q := alloc_newR (w.alloc (.cells #[.int .i64 id, .string ⟨#[]⟩, .bool up, .int .i64 0, .slice none 0 0, .slice none 0 0, .int .i64 0, .slice none 0 0, .int .i64 0, .int .i64 0, .int .i64 0, .slice o1 n c1, .slice none 0 0, .slice none 0 0] 28)) (.cells #[.int .i64 id, .string ⟨#[]⟩, .bool up, .int .i64 0, .slice none 0 0, .slice none 0 0, .int .i64 0, .slice none 0 0, .int .i64 0, .int .i64 0, .int .i64 0, .slice o2 n c2, .slice none 0 0, .slice none 0 0] 28)
    rw [show (w.alloc (.cells #[.int .i64 id, .string ⟨#[]⟩, .bool up, .int .i64 0, .slice none 0 0, .slice none 0 0, .int .i64 0, .slice none 0 0, .int .i64 0, .int .i64 0, .int .i64 0, .slice o1 n c1, .slice none 0 0, .slice none 0 0] 28)).heap.size = w.heap.size + 1 by simp] at q
    rw [hw1]
    exact q
  have HPw1 := Hw10
  have HQw1 := Hw11
  have HL := hid hl
  have HM := hid hm
  have HN1 := hid hn1
  have HN2 := hid hn2
  clear hl hm hn1 hn2
  go_enter Tryz.func6, Tryz.ntmps6
  go_wp2_with fail
  rw [← hw1]
  clear hw1 Hw10 Hw11
  refine (fmEntries_same none none 0 0 0 [] w1 rfl (by decide) (fun i hi => absurd hi (Nat.not_lt_zero _)) (fun i hi => absurd hi (Nat.not_lt_zero _))).mono ?_
  rintro e w2 ⟨rfl, hb⟩
  have HBw2 := hid (HBw1.out.trans (hb.mono HBw1.out.size))
  have HPw2 := hid (blk_belowR HPw1.out hb)
  have HQw2 := hid (blk_belowR HQw1.out hb)
  clear hb
  have x0 : w2.cell? ⟨w.heap.size, 0, none⟩ = some (.int .i64 id) := by rw [in_blockR HPw2.out 0]; rfl
  have x1 : w2.cell? ⟨w.heap.size, 1, none⟩ = some (.string ⟨#[]⟩) := by rw [in_blockR HPw2.out 1]; rfl
  have x2 : w2.cell? ⟨w.heap.size, 2, none⟩ = some (.bool up) := by rw [in_blockR HPw2.out 2]; rfl
  have x3 : w2.cell? ⟨w.heap.size, 3, none⟩ = some (.int .i64 0) := by rw [in_blockR HPw2.out 3]; rfl
  have x4 : w2.cell? ⟨w.heap.size, 4, none⟩ = some (.slice none 0 0) := by rw [in_blockR HPw2.out 4]; rfl
  have x5 : w2.cell? ⟨w.heap.size, 5, none⟩ = some (.slice none 0 0) := by rw [in_blockR HPw2.out 5]; rfl
  have x6 : w2.cell? ⟨w.heap.size, 6, none⟩ = some (.int .i64 0) := by rw [in_blockR HPw2.out 6]; rfl
  have x7 : w2.cell? ⟨w.heap.size, 7, none⟩ = some (.slice none 0 0) := by rw [in_blockR HPw2.out 7]; rfl
  have x8 : w2.cell? ⟨w.heap.size, 8, none⟩ = some (.int .i64 0) := by rw [in_blockR HPw2.out 8]; rfl
  have x9 : w2.cell? ⟨w.heap.size, 9, none⟩ = some (.int .i64 0) := by rw [in_blockR HPw2.out 9]; rfl
  have x10 : w2.cell? ⟨w.heap.size, 10, none⟩ = some (.int .i64 0) := by rw [in_blockR HPw2.out 10]; rfl
  have x11 : w2.cell? ⟨w.heap.size, 11, none⟩ = some (.slice o1 n c1) := by rw [in_blockR HPw2.out 11]; rfl
  have x12 : w2.cell? ⟨w.heap.size, 12, none⟩ = some (.slice none 0 0) := by rw [in_blockR HPw2.out 12]; rfl
  have x13 : w2.cell? ⟨w.heap.size, 13, none⟩ = some (.slice none 0 0) := by rw [in_blockR HPw2.out 13]; rfl
  have y0 : w2.cell? ⟨w.heap.size + 1, 0, none⟩ = some (.int .i64 id) := by rw [in_blockR HQw2.out 0]; rfl
  have y1 : w2.cell? ⟨w.heap.size + 1, 1, none⟩ = some (.string ⟨#[]⟩) := by rw [in_blockR HQw2.out 1]; rfl
  have y2 : w2.cell? ⟨w.heap.size + 1, 2, none⟩ = some (.bool up) := by rw [in_blockR HQw2.out 2]; rfl
  have y3 : w2.cell? ⟨w.heap.size + 1, 3, none⟩ = some (.int .i64 0) := by rw [in_blockR HQw2.out 3]; rfl
  have y4 : w2.cell? ⟨w.heap.size + 1, 4, none⟩ = some (.slice none 0 0) := by rw [in_blockR HQw2.out 4]; rfl
  have y5 : w2.cell? ⟨w.heap.size + 1, 5, none⟩ = some (.slice none 0 0) := by rw [in_blockR HQw2.out 5]; rfl
  have y6 : w2.cell? ⟨w.heap.size + 1, 6, none⟩ = some (.int .i64 0) := by rw [in_blockR HQw2.out 6]; rfl
  have y7 : w2.cell? ⟨w.heap.size + 1, 7, none⟩ = some (.slice none 0 0) := by rw [in_blockR HQw2.out 7]; rfl
  have y8 : w2.cell? ⟨w.heap.size + 1, 8, none⟩ = some (.int .i64 0) := by rw [in_blockR HQw2.out 8]; rfl
  have y9 : w2.cell? ⟨w.heap.size + 1, 9, none⟩ = some (.int .i64 0) := by rw [in_blockR HQw2.out 9]; rfl
  have y10 : w2.cell? ⟨w.heap.size + 1, 10, none⟩ = some (.int .i64 0) := by rw [in_blockR HQw2.out 10]; rfl
  have y11 : w2.cell? ⟨w.heap.size + 1, 11, none⟩ = some (.slice o2 n c2) := by rw [in_blockR HQw2.out 11]; rfl
  have y12 : w2.cell? ⟨w.heap.size + 1, 12, none⟩ = some (.slice none 0 0) := by rw [in_blockR HQw2.out 12]; rfl
  have y13 : w2.cell? ⟨w.heap.size + 1, 13, none⟩ = some (.slice none 0 0) := by rw [in_blockR HQw2.out 13]; rfl
  go_wp2_with fail
  refine (fmEntries_same none none 0 0 0 [] w2 rfl (by decide) (fun i hi => absurd hi (Nat.not_lt_zero _)) (fun i hi => absurd hi (Nat.not_lt_zero _))).mono ?_
  rintro e w3 ⟨rfl, hb⟩
  have HBw3 := hid (HBw2.out.trans (hb.mono HBw2.out.size))
  have HPw3 := hid (blk_belowR HPw2.out hb)
  have HQw3 := hid (blk_belowR HQw2.out hb)
  clear hb
  clear x0 x1 x2 x3 x4 x5 x6 x7 x8 x9 x10 x11 x12 x13 y0 y1 y2 y3 y4 y5 y6 y7 y8 y9 y10 y11 y12 y13
  have x0 : w3.cell? ⟨w.heap.size, 0, none⟩ = some (.int .i64 id) := by rw [in_blockR HPw3.out 0]; rfl
  have x1 : w3.cell? ⟨w.heap.size, 1, none⟩ = some (.string ⟨#[]⟩) := by rw [in_blockR HPw3.out 1]; rfl
  have x2 : w3.cell? ⟨w.heap.size, 2, none⟩ = some (.bool up) := by rw [in_blockR HPw3.out 2]; rfl
  have x3 : w3.cell? ⟨w.heap.size, 3, none⟩ = some (.int .i64 0) := by rw [in_blockR HPw3.out 3]; rfl
  have x4 : w3.cell? ⟨w.heap.size, 4, none⟩ = some (.slice none 0 0) := by rw [in_blockR HPw3.out 4]; rfl
  have x5 : w3.cell? ⟨w.heap.size, 5, none⟩ = some (.slice none 0 0) := by rw [in_blockR HPw3.out 5]; rfl
  have x6 : w3.cell? ⟨w.heap.size, 6, none⟩ = some (.int .i64 0) := by rw [in_blockR HPw3.out 6]; rfl
  have x7 : w3.cell? ⟨w.heap.size, 7, none⟩ = some (.slice none 0 0) := by rw [in_blockR HPw3.out 7]; rfl
  have x8 : w3.cell? ⟨w.heap.size, 8, none⟩ = some (.int .i64 0) := by rw [in_blockR HPw3.out 8]; rfl
  have x9 : w3.cell? ⟨w.heap.size, 9, none⟩ = some (.int .i64 0) := by rw [in_blockR HPw3.out 9]; rfl
  have x10 : w3.cell? ⟨w.heap.size, 10, none⟩ = some (.int .i64 0) := by rw [in_blockR HPw3.out 10]; rfl
  have x11 : w3.cell? ⟨w.heap.size, 11, none⟩ = some (.slice o1 n c1) := by rw [in_blockR HPw3.out 11]; rfl
  have x12 : w3.cell? ⟨w.heap.size, 12, none⟩ = some (.slice none 0 0) := by rw [in_blockR HPw3.out 12]; rfl
  have x13 : w3.cell? ⟨w.heap.size, 13, none⟩ = some (.slice none 0 0) := by rw [in_blockR HPw3.out 13]; rfl
  have y0 : w3.cell? ⟨w.heap.size + 1, 0, none⟩ = some (.int .i64 id) := by rw [in_blockR HQw3.out 0]; rfl
  have y1 : w3.cell? ⟨w.heap.size + 1, 1, none⟩ = some (.string ⟨#[]⟩) := by rw [in_blockR HQw3.out 1]; rfl
  have y2 : w3.cell? ⟨w.heap.size + 1, 2, none⟩ = some (.bool up) := by rw [in_blockR HQw3.out 2]; rfl
  have y3 : w3.cell? ⟨w.heap.size + 1, 3, none⟩ = some (.int .i64 0) := by rw [in_blockR HQw3.out 3]; rfl
  have y4 : w3.cell? ⟨w.heap.size + 1, 4, none⟩ = some (.slice none 0 0) := by rw [in_blockR HQw3.out 4]; rfl
  have y5 : w3.cell? ⟨w.heap.size + 1, 5, none⟩ = some (.slice none 0 0) := by rw [in_blockR HQw3.out 5]; rfl
  have y6 : w3.cell? ⟨w.heap.size + 1, 6, none⟩ = some (.int .i64 0) := by rw [in_blockR HQw3.out 6]; rfl
  have y7 : w3.cell? ⟨w.heap.size + 1, 7, none⟩ = some (.slice none 0 0) := by rw [in_blockR HQw3.out 7]; rfl
  have y8 : w3.cell? ⟨w.heap.size + 1, 8, none⟩ = some (.int .i64 0) := by rw [in_blockR HQw3.out 8]; rfl
  have y9 : w3.cell? ⟨w.heap.size + 1, 9, none⟩ = some (.int .i64 0) := by rw [in_blockR HQw3.out 9]; rfl
  have y10 : w3.cell? ⟨w.heap.size + 1, 10, none⟩ = some (.int .i64 0) := by rw [in_blockR HQw3.out 10]; rfl
  have y11 : w3.cell? ⟨w.heap.size + 1, 11, none⟩ = some (.slice o2 n c2) := by rw [in_blockR HQw3.out 11]; rfl
  have y12 : w3.cell? ⟨w.heap.size + 1, 12, none⟩ = some (.slice none 0 0) := by rw [in_blockR HQw3.out 12]; rfl
  have y13 : w3.cell? ⟨w.heap.size + 1, 13, none⟩ = some (.slice none 0 0) := by rw [in_blockR HQw3.out 13]; rfl
  go_wp2_with fail
  refine (fmInts_same none none 0 0 0 [] w3 rfl (by decide) (fun i hi => absurd hi (Nat.not_lt_zero _)) (fun i hi => absurd hi (Nat.not_lt_zero _))).mono ?_
  rintro e w4 ⟨rfl, hb⟩
  have HBw4 := hid (HBw3.out.trans (hb.mono HBw3.out.size))
  have HPw4 := hid (blk_belowR HPw3.out hb)
  have HQw4 := hid (blk_belowR HQw3.out hb)
  clear hb
  clear x0 x1 x2 x3 x4 x5 x6 x7 x8 x9 x10 x11 x12 x13 y0 y1 y2 y3 y4 y5 y6 y7 y8 y9 y10 y11 y12 y13
  have x0 : w4.cell? ⟨w.heap.size, 0, none⟩ = some (.int .i64 id) := by rw [in_blockR HPw4.out 0]; rfl
  have x1 : w4.cell? ⟨w.heap.size, 1, none⟩ = some (.string ⟨#[]⟩) := by rw [in_blockR HPw4.out 1]; rfl
  have x2 : w4.cell? ⟨w.heap.size, 2, none⟩ = some (.bool up) := by rw [in_blockR HPw4.out 2]; rfl
  have x3 : w4.cell? ⟨w.heap.size, 3, none⟩ = some (.int .i64 0) := by rw [in_blockR HPw4.out 3]; rfl
  have x4 : w4.cell? ⟨w.heap.size, 4, none⟩ = some (.slice none 0 0) := by rw [in_blockR HPw4.out 4]; rfl
  have x5 : w4.cell? ⟨w.heap.size, 5, none⟩ = some (.slice none 0 0) := by rw [in_blockR HPw4.out 5]; rfl
  have x6 : w4.cell? ⟨w.heap.size, 6, none⟩ = some (.int .i64 0) := by rw [in_blockR HPw4.out 6]; rfl
  have x7 : w4.cell? ⟨w.heap.size, 7, none⟩ = some (.slice none 0 0) := by rw [in_blockR HPw4.out 7]; rfl
  have x8 : w4.cell? ⟨w.heap.size, 8, none⟩ = some (.int .i64 0) := by rw [in_blockR HPw4.out 8]; rfl
  have x9 : w4.cell? ⟨w.heap.size, 9, none⟩ = some (.int .i64 0) := by rw [in_blockR HPw4.out 9]; rfl
  have x10 : w4.cell? ⟨w.heap.size, 10, none⟩ = some (.int .i64 0) := by rw [in_blockR HPw4.out 10]; rfl
  have x11 : w4.cell? ⟨w.heap.size, 11, none⟩ = some (.slice o1 n c1) := by rw [in_blockR HPw4.out 11]; rfl
  have x12 : w4.cell? ⟨w.heap.size, 12, none⟩ = some (.slice none 0 0) := by rw [in_blockR HPw4.out 12]; rfl
  have x13 : w4.cell? ⟨w.heap.size, 13, none⟩ = some (.slice none 0 0) := by rw [in_blockR HPw4.out 13]; rfl
  have y0 : w4.cell? ⟨w.heap.size + 1, 0, none⟩ = some (.int .i64 id) := by rw [in_blockR HQw4.out 0]; rfl
  have y1 : w4.cell? ⟨w.heap.size + 1, 1, none⟩ = some (.string ⟨#[]⟩) := by rw [in_blockR HQw4.out 1]; rfl
  have y2 : w4.cell? ⟨w.heap.size + 1, 2, none⟩ = some (.bool up) := by rw [in_blockR HQw4.out 2]; rfl
  have y3 : w4.cell? ⟨w.heap.size + 1, 3, none⟩ = some (.int .i64 0) := by rw [in_blockR HQw4.out 3]; rfl
  have y4 : w4.cell? ⟨w.heap.size + 1, 4, none⟩ = some (.slice none 0 0) := by rw [in_blockR HQw4.out 4]; rfl
  have y5 : w4.cell? ⟨w.heap.size + 1, 5, none⟩ = some (.slice none 0 0) := by rw [in_blockR HQw4.out 5]; rfl
  have y6 : w4.cell? ⟨w.heap.size + 1, 6, none⟩ = some (.int .i64 0) := by rw [in_blockR HQw4.out 6]; rfl
  have y7 : w4.cell? ⟨w.heap.size + 1, 7, none⟩ = some (.slice none 0 0) := by rw [in_blockR HQw4.out 7]; rfl
  have y8 : w4.cell? ⟨w.heap.size + 1, 8, none⟩ = some (.int .i64 0) := by rw [in_blockR HQw4.out 8]; rfl
  have y9 : w4.cell? ⟨w.heap.size + 1, 9, none⟩ = some (.int .i64 0) := by rw [in_blockR HQw4.out 9]; rfl
  have y10 : w4.cell? ⟨w.heap.size + 1, 10, none⟩ = some (.int .i64 0) := by rw [in_blockR HQw4.out 10]; rfl
  have y11 : w4.cell? ⟨w.heap.size + 1, 11, none⟩ = some (.slice o2 n c2) := by rw [in_blockR HQw4.out 11]; rfl
  have y12 : w4.cell? ⟨w.heap.size + 1, 12, none⟩ = some (.slice none 0 0) := by rw [in_blockR HQw4.out 12]; rfl
  have y13 : w4.cell? ⟨w.heap.size + 1, 13, none⟩ = some (.slice none 0 0) := by rw [in_blockR HQw4.out 13]; rfl
  go_wp2_with fail
  refine (fmInts_same o1 o2 c1 c2 n V w4 HL.out HM.out (HN1.out.below HBw4.out) (HN2.out.below HBw4.out)).mono ?_
  rintro e w5 ⟨rfl, hb⟩
  have HBw5 := hid (HBw4.out.trans (hb.mono HBw4.out.size))
  have HPw5 := hid (blk_belowR HPw4.out hb)
  have HQw5 := hid (blk_belowR HQw4.out hb)
  clear hb
  clear x0 x1 x2 x3 x4 x5 x6 x7 x8 x9 x10 x11 x12 x13 y0 y1 y2 y3 y4 y5 y6 y7 y8 y9 y10 y11 y12 y13
  have x0 : w5.cell? ⟨w.heap.size, 0, none⟩ = some (.int .i64 id) := by rw [in_blockR HPw5.out 0]; rfl
  have x1 : w5.cell? ⟨w.heap.size, 1, none⟩ = some (.string ⟨#[]⟩) := by rw [in_blockR HPw5.out 1]; rfl
  have x2 : w5.cell? ⟨w.heap.size, 2, none⟩ = some (.bool up) := by rw [in_blockR HPw5.out 2]; rfl
  have x3 : w5.cell? ⟨w.heap.size, 3, none⟩ = some (.int .i64 0) := by rw [in_blockR HPw5.out 3]; rfl
  have x4 : w5.cell? ⟨w.heap.size, 4, none⟩ = some (.slice none 0 0) := by rw [in_blockR HPw5.out 4]; rfl
  have x5 : w5.cell? ⟨w.heap.size, 5, none⟩ = some (.slice none 0 0) := by rw [in_blockR HPw5.out 5]; rfl
  have x6 : w5.cell? ⟨w.heap.size, 6, none⟩ = some (.int .i64 0) := by rw [in_blockR HPw5.out 6]; rfl
  have x7 : w5.cell? ⟨w.heap.size, 7, none⟩ = some (.slice none 0 0) := by rw [in_blockR HPw5.out 7]; rfl
  have x8 : w5.cell? ⟨w.heap.size, 8, none⟩ = some (.int .i64 0) := by rw [in_blockR HPw5.out 8]; rfl
  have x9 : w5.cell? ⟨w.heap.size, 9, none⟩ = some (.int .i64 0) := by rw [in_blockR HPw5.out 9]; rfl
  have x10 : w5.cell? ⟨w.heap.size, 10, none⟩ = some (.int .i64 0) := by rw [in_blockR HPw5.out 10]; rfl
  have x11 : w5.cell? ⟨w.heap.size, 11, none⟩ = some (.slice o1 n c1) := by rw [in_blockR HPw5.out 11]; rfl
  have x12 : w5.cell? ⟨w.heap.size, 12, none⟩ = some (.slice none 0 0) := by rw [in_blockR HPw5.out 12]; rfl
  have x13 : w5.cell? ⟨w.heap.size, 13, none⟩ = some (.slice none 0 0) := by rw [in_blockR HPw5.out 13]; rfl
  have y0 : w5.cell? ⟨w.heap.size + 1, 0, none⟩ = some (.int .i64 id) := by rw [in_blockR HQw5.out 0]; rfl
  have y1 : w5.cell? ⟨w.heap.size + 1, 1, none⟩ = some (.string ⟨#[]⟩) := by rw [in_blockR HQw5.out 1]; rfl
  have y2 : w5.cell? ⟨w.heap.size + 1, 2, none⟩ = some (.bool up) := by rw [in_blockR HQw5.out 2]; rfl
  have y3 : w5.cell? ⟨w.heap.size + 1, 3, none⟩ = some (.int .i64 0) := by rw [in_blockR HQw5.out 3]; rfl
  have y4 : w5.cell? ⟨w.heap.size + 1, 4, none⟩ = some (.slice none 0 0) := by rw [in_blockR HQw5.out 4]; rfl
  have y5 : w5.cell? ⟨w.heap.size + 1, 5, none⟩ = some (.slice none 0 0) := by rw [in_blockR HQw5.out 5]; rfl
  have y6 : w5.cell? ⟨w.heap.size + 1, 6, none⟩ = some (.int .i64 0) := by rw [in_blockR HQw5.out 6]; rfl
  have y7 : w5.cell? ⟨w.heap.size + 1, 7, none⟩ = some (.slice none 0 0) := by rw [in_blockR HQw5.out 7]; rfl
  have y8 : w5.cell? ⟨w.heap.size + 1, 8, none⟩ = some (.int .i64 0) := by rw [in_blockR HQw5.out 8]; rfl
  have y9 : w5.cell? ⟨w.heap.size + 1, 9, none⟩ = some (.int .i64 0) := by rw [in_blockR HQw5.out 9]; rfl
  have y10 : w5.cell? ⟨w.heap.size + 1, 10, none⟩ = some (.int .i64 0) := by rw [in_blockR HQw5.out 10]; rfl
  have y11 : w5.cell? ⟨w.heap.size + 1, 11, none⟩ = some (.slice o2 n c2) := by rw [in_blockR HQw5.out 11]; rfl
  have y12 : w5.cell? ⟨w.heap.size + 1, 12, none⟩ = some (.slice none 0 0) := by rw [in_blockR HQw5.out 12]; rfl
  have y13 : w5.cell? ⟨w.heap.size + 1, 13, none⟩ = some (.slice none 0 0) := by rw [in_blockR HQw5.out 13]; rfl
  go_wp2_with fail
  refine (fmEntries_same none none 0 0 0 [] w5 rfl (by decide) (fun i hi => absurd hi (Nat.not_lt_zero _)) (fun i hi => absurd hi (Nat.not_lt_zero _))).mono ?_
  rintro e w6 ⟨rfl, hb⟩
  have HBw6 := hid (HBw5.out.trans (hb.mono HBw5.out.size))
  have HPw6 := hid (blk_belowR HPw5.out hb)
  have HQw6 := hid (blk_belowR HQw5.out hb)
  clear hb
  clear x0 x1 x2 x3 x4 x5 x6 x7 x8 x9 x10 x11 x12 x13 y0 y1 y2 y3 y4 y5 y6 y7 y8 y9 y10 y11 y12 y13
  have x0 : w6.cell? ⟨w.heap.size, 0, none⟩ = some (.int .i64 id) := by rw [in_blockR HPw6.out 0]; rfl
  have x1 : w6.cell? ⟨w.heap.size, 1, none⟩ = some (.string ⟨#[]⟩) := by rw [in_blockR HPw6.out 1]; rfl
  have x2 : w6.cell? ⟨w.heap.size, 2, none⟩ = some (.bool up) := by rw [in_blockR HPw6.out 2]; rfl
  have x3 : w6.cell? ⟨w.heap.size, 3, none⟩ = some (.int .i64 0) := by rw [in_blockR HPw6.out 3]; rfl
  have x4 : w6.cell? ⟨w.heap.size, 4, none⟩ = some (.slice none 0 0) := by rw [in_blockR HPw6.out 4]; rfl
  have x5 : w6.cell? ⟨w.heap.size, 5, none⟩ = some (.slice none 0 0) := by rw [in_blockR HPw6.out 5]; rfl
  have x6 : w6.cell? ⟨w.heap.size, 6, none⟩ = some (.int .i64 0) := by rw [in_blockR HPw6.out 6]; rfl
  have x7 : w6.cell? ⟨w.heap.size, 7, none⟩ = some (.slice none 0 0) := by rw [in_blockR HPw6.out 7]; rfl
  have x8 : w6.cell? ⟨w.heap.size, 8, none⟩ = some (.int .i64 0) := by rw [in_blockR HPw6.out 8]; rfl
  have x9 : w6.cell? ⟨w.heap.size, 9, none⟩ = some (.int .i64 0) := by rw [in_blockR HPw6.out 9]; rfl
  have x10 : w6.cell? ⟨w.heap.size, 10, none⟩ = some (.int .i64 0) := by rw [in_blockR HPw6.out 10]; rfl
  have x11 : w6.cell? ⟨w.heap.size, 11, none⟩ = some (.slice o1 n c1) := by rw [in_blockR HPw6.out 11]; rfl
  have x12 : w6.cell? ⟨w.heap.size, 12, none⟩ = some (.slice none 0 0) := by rw [in_blockR HPw6.out 12]; rfl
  have x13 : w6.cell? ⟨w.heap.size, 13, none⟩ = some (.slice none 0 0) := by rw [in_blockR HPw6.out 13]; rfl
  have y0 : w6.cell? ⟨w.heap.size + 1, 0, none⟩ = some (.int .i64 id) := by rw [in_blockR HQw6.out 0]; rfl
  have y1 : w6.cell? ⟨w.heap.size + 1, 1, none⟩ = some (.string ⟨#[]⟩) := by rw [in_blockR HQw6.out 1]; rfl
  have y2 : w6.cell? ⟨w.heap.size + 1, 2, none⟩ = some (.bool up) := by rw [in_blockR HQw6.out 2]; rfl
  have y3 : w6.cell? ⟨w.heap.size + 1, 3, none⟩ = some (.int .i64 0) := by rw [in_blockR HQw6.out 3]; rfl
  have y4 : w6.cell? ⟨w.heap.size + 1, 4, none⟩ = some (.slice none 0 0) := by rw [in_blockR HQw6.out 4]; rfl
  have y5 : w6.cell? ⟨w.heap.size + 1, 5, none⟩ = some (.slice none 0 0) := by rw [in_blockR HQw6.out 5]; rfl
  have y6 : w6.cell? ⟨w.heap.size + 1, 6, none⟩ = some (.int .i64 0) := by rw [in_blockR HQw6.out 6]; rfl
  have y7 : w6.cell? ⟨w.heap.size + 1, 7, none⟩ = some (.slice none 0 0) := by rw [in_blockR HQw6.out 7]; rfl
  have y8 : w6.cell? ⟨w.heap.size + 1, 8, none⟩ = some (.int .i64 0) := by rw [in_blockR HQw6.out 8]; rfl
  have y9 : w6.cell? ⟨w.heap.size + 1, 9, none⟩ = some (.int .i64 0) := by rw [in_blockR HQw6.out 9]; rfl
  have y10 : w6.cell? ⟨w.heap.size + 1, 10, none⟩ = some (.int .i64 0) := by rw [in_blockR HQw6.out 10]; rfl
  have y11 : w6.cell? ⟨w.heap.size + 1, 11, none⟩ = some (.slice o2 n c2) := by rw [in_blockR HQw6.out 11]; rfl
  have y12 : w6.cell? ⟨w.heap.size + 1, 12, none⟩ = some (.slice none 0 0) := by rw [in_blockR HQw6.out 12]; rfl
  have y13 : w6.cell? ⟨w.heap.size + 1, 13, none⟩ = some (.slice none 0 0) := by rw [in_blockR HQw6.out 13]; rfl
  go_wp2_with fail
  refine (fmInts_same none none 0 0 0 [] w6 rfl (by decide) (fun i hi => absurd hi (Nat.not_lt_zero _)) (fun i hi => absurd hi (Nat.not_lt_zero _))).mono ?_
  rintro e w7 ⟨rfl, hb⟩
  have HBw7 := hid (HBw6.out.trans (hb.mono HBw6.out.size))
  have HPw7 := hid (blk_belowR HPw6.out hb)
  have HQw7 := hid (blk_belowR HQw6.out hb)
  clear hb
  clear x0 x1 x2 x3 x4 x5 x6 x7 x8 x9 x10 x11 x12 x13 y0 y1 y2 y3 y4 y5 y6 y7 y8 y9 y10 y11 y12 y13
  go_wp2
  go_ret
  exact ⟨rfl, HBw7.out⟩

end Go.Proofs.YtplbfllhimcpiaaGreatDoor
