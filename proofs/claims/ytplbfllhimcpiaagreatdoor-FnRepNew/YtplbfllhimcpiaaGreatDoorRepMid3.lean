/- DERIVED. One who decides that knows nothing, at work: knownOf, decider. -/
import Derived.Test.YtplbfllhimcpiaaGreatDoorRepMid2
import Derived.Test.YtplbfllhimcpiaaGreatDoorLogRead
namespace Go.Proofs.YtplbfllhimcpiaaGreatDoor
open Go.RowKit

set_option maxRecDepth 100000 in
set_option maxHeartbeats 3200000 in
theorem knownN (n : Int) (w : World) (ht : Tab w) :
    Calls Tryz.prog 30 #[.int .i64 n, .string ⟨#[]⟩] w fun e w' => e = .returned (.tuple #[.agg #[.int .i64 0, .slice none 0 0, .slice none 0 0], .int .i64 0, .bool true]) ∧ Below w.heap.size w w' := by
  have HB2 : Hid (Below w.heap.size w ((w.alloc (.cells #[.int .i64 0, .slice none 0 0, .slice none 0 0] 50)).alloc (.cells #[.int .i64 0, .slice none 0 0, .slice none 0 0] 50))) := ((Below.refl _ _).alloc (Nat.le_refl _) _).alloc (by simp) _
  have HZ2 : Hid (((w.alloc (.cells #[.int .i64 0, .slice none 0 0, .slice none 0 0] 50)).alloc (.cells #[.int .i64 0, .slice none 0 0, .slice none 0 0] 50)).heap[w.heap.size]? = some (.cells #[.int .i64 0, .slice none 0 0, .slice none 0 0] 50 (0, 0))) := blk_belowR (alloc_newR _ _) ((Below.refl _ _).alloc (Nat.le_refl _) _)
  have HK2 : Hid (((w.alloc (.cells #[.int .i64 0, .slice none 0 0, .slice none 0 0] 50)).alloc (.cells #[.int .i64 0, .slice none 0 0, .slice none 0 0] 50)).heap[w.heap.size + 1]? = some (.cells #[.int .i64 0, .slice none 0 0, .slice none 0 0] 50 (0, 0))) := by
    have := alloc_newR (w.alloc (.cells #[.int .i64 0, .slice none 0 0, .slice none 0 0] 50)) (.cells #[.int .i64 0, .slice none 0 0, .slice none 0 0] 50)
    rw [show (w.alloc (.cells #[.int .i64 0, .slice none 0 0, .slice none 0 0] 50)).heap.size = w.heap.size + 1 by simp] at this
    exact this
  have HT := hid ht
  clear ht
  go_enter Tryz.func30, Tryz.ntmps30
  go_wp2_with fail
  obtain ⟨w2, hw2⟩ : ∃ w2, w2 = (w.alloc (.cells #[.int .i64 0, .slice none 0 0, .slice none 0 0] 50)).alloc (.cells #[.int .i64 0, .slice none 0 0, .slice none 0 0] 50) := ⟨_, rfl⟩
  rw [← hw2] at HB2 HZ2 HK2 ⊢
  clear hw2
  refine (implRead_any ⟨#[]⟩ w2 (by decide) (HT.out.below HB2.out)).mono ?_
  rintro e w3 ⟨v, rfl, hrow, hb⟩
  have e0 : logS ⟨#[]⟩ = [] := rfl
  rw [e0] at hrow ⊢
  obtain ⟨oa, cp, rfl⟩ := row_shape hrow
  have HB3 := hid (HB2.out.trans (hb.mono HB2.out.size))
  have HZ3 := hid (blk_belowR HZ2.out hb)
  have HK3 := hid (blk_belowR HK2.out hb)
  clear hrow hb e0
  rw [show ((sizeR ([] : List ByteArray) : Nat) : Int) = 0 from rfl, show ([] : List ByteArray).length = 0 from rfl]
  go_wp2
  go_loop [21] (fun i => i = .int .i64 0) (fun _ => 0)
  case atStart => rfl
  case round =>
    subst hrel
    have k0 : w3.cell? ⟨w.heap.size + 1, 0, none⟩ = some (.int .i64 0) := by rw [in_blockR HK3.out 0]; rfl
    have k1 : w3.cell? ⟨w.heap.size + 1, 1, none⟩ = some (.slice none 0 0) := by rw [in_blockR HK3.out 1]; rfl
    have k2 : w3.cell? ⟨w.heap.size + 1, 2, none⟩ = some (.slice none 0 0) := by rw [in_blockR HK3.out 2]; rfl
    have z0 : w3.cell? ⟨w.heap.size, 0, none⟩ = some (.int .i64 0) := by rw [in_blockR HZ3.out 0]; rfl
    have z1 : w3.cell? ⟨w.heap.size, 1, none⟩ = some (.slice none 0 0) := by rw [in_blockR HZ3.out 1]; rfl
    have z2 : w3.cell? ⟨w.heap.size, 2, none⟩ = some (.slice none 0 0) := by rw [in_blockR HZ3.out 2]; rfl
    have fz0 : w3.frozen? ⟨w.heap.size, 0, none⟩ = false := free_blockR HZ3.out 0
    have fz1 : w3.frozen? ⟨w.heap.size, 1, none⟩ = false := free_blockR HZ3.out 1
    have fz2 : w3.frozen? ⟨w.heap.size, 2, none⟩ = false := free_blockR HZ3.out 2
    go_wp2
    refine bodyPost_ret (v := .tuple #[.agg #[.int .i64 0, .slice none 0 0, .slice none 0 0], .int .i64 0, .bool true]) (by simp [results, Tryz.results30, go_sem, z0, z1, z2]) rfl ⟨rfl, ?_⟩
    exact (((HB3.out.setCell (p := ⟨w.heap.size, 0, none⟩) (Nat.le_refl _) (.int .i64 0)).setCell (p := ⟨w.heap.size, 1, none⟩) (Nat.le_refl _) (.slice none 0 0)).setCell (p := ⟨w.heap.size, 2, none⟩) (Nat.le_refl _) (.slice none 0 0))

set_option maxRecDepth 100000 in
set_option maxHeartbeats 3200000 in
theorem decider_up (g n cp base : Nat) (id : Int) (w : World) (ht : Tab w) (h1 : 1 ≤ n) (h3 : n ≤ 3) (hi1 : 10 ≤ id) (hi2 : id ≤ 12) (hG : w.ownsRow base 3 1 (.slice (some ⟨g, 0, none⟩) n cp) n ((noneL n).map (Value.int .i64))) :
    Calls Tryz.prog 22 #[.agg #[.int .i64 id, .string ⟨#[]⟩, .bool true, .int .i64 0, .slice none 0 0, .slice none 0 0, .int .i64 0, .slice none 0 0, .int .i64 0, .int .i64 0, .int .i64 0, .slice (some ⟨g, 0, none⟩) n cp, .slice none 0 0, .slice none 0 0], .int .i64 (n : Int)] w fun e w' => (∃ D : Nat, ∃ (ov : Option Addr) (cv : Nat), e = .returned (.tuple #[.pointer (some ⟨D, 0, none⟩), .bool true]) ∧ w.heap.size ≤ D ∧ w'.heap[D]? = some (.cells #[.int .i64 id, .int .i64 (n : Int), .string ⟨#[]⟩, .int .i64 0, .slice none 0 0, .slice none 0 0, .int .i64 0, .slice none 0 0, .int .i64 0, .int .i64 0, .int .i64 0, .slice ov n cv, .slice none 0 0, .slice none 0 0, .slice none 0 0] 55 (0, 0))) ∧ Below w.heap.size w w' := by
  have HB1 : Hid (Below w.heap.size w (w.alloc (.cells #[.int .i64 id, .string ⟨#[]⟩, .bool true, .int .i64 0, .slice none 0 0, .slice none 0 0, .int .i64 0, .slice none 0 0, .int .i64 0, .int .i64 0, .int .i64 0, .slice (some ⟨g, 0, none⟩) n cp, .slice none 0 0, .slice none 0 0] 28))) := (Below.refl _ _).alloc (Nat.le_refl _) _
  have HR1 : Hid ((w.alloc (.cells #[.int .i64 id, .string ⟨#[]⟩, .bool true, .int .i64 0, .slice none 0 0, .slice none 0 0, .int .i64 0, .slice none 0 0, .int .i64 0, .int .i64 0, .int .i64 0, .slice (some ⟨g, 0, none⟩) n cp, .slice none 0 0, .slice none 0 0] 28)).heap[w.heap.size]? = some (.cells #[.int .i64 id, .string ⟨#[]⟩, .bool true, .int .i64 0, .slice none 0 0, .slice none 0 0, .int .i64 0, .slice none 0 0, .int .i64 0, .int .i64 0, .int .i64 0, .slice (some ⟨g, 0, none⟩) n cp, .slice none 0 0, .slice none 0 0] 28 (0, 0))) := alloc_newR _ _
  have C1 : Hid (∀ W, Calls Tryz.prog 14 #[.int .i64 id] W fun e w' => e = .returned (.bool true) ∧ w' = W) := fun W => by
    have e : inB id 10 12 = true := by simp [inB]; omega
    rw [← e]
    exact rep_any id W
  have C2 : Hid (∀ W, Calls Tryz.prog 15 #[.int .i64 (n : Int)] W fun e w' => e = .returned (.bool true) ∧ w' = W) := fun W => by
    have e : inB (n : Int) 1 3 = true := by simp [inB]; omega
    rw [← e]
    exact many_any _ W
  have HT := hid ht
  have HGG := hid hG
  clear hG
  clear ht
  go_enter Tryz.func22, Tryz.ntmps22
  go_wp2_with fail
  obtain ⟨w1, hw1⟩ : ∃ w1, w1 = w.alloc (.cells #[.int .i64 id, .string ⟨#[]⟩, .bool true, .int .i64 0, .slice none 0 0, .slice none 0 0, .int .i64 0, .slice none 0 0, .int .i64 0, .int .i64 0, .int .i64 0, .slice (some ⟨g, 0, none⟩) n cp, .slice none 0 0, .slice none 0 0] 28) := ⟨_, rfl⟩
  rw [← hw1] at HB1 HR1 ⊢
  clear hw1
  refine (C1.out w1).mono ?_
  rintro e v ⟨rfl, hv⟩
  rw [hv]
  clear hv v
  go_wp2_with fail
  refine (C2.out w1).mono ?_
  rintro e v ⟨rfl, hv⟩
  rw [hv]
  clear hv v
  have x0 : w1.cell? ⟨w.heap.size, 0, none⟩ = some (.int .i64 id) := by rw [in_blockR HR1.out 0]; rfl
  have x1 : w1.cell? ⟨w.heap.size, 1, none⟩ = some (.string ⟨#[]⟩) := by rw [in_blockR HR1.out 1]; rfl
  have x2 : w1.cell? ⟨w.heap.size, 2, none⟩ = some (.bool true) := by rw [in_blockR HR1.out 2]; rfl
  have x3 : w1.cell? ⟨w.heap.size, 3, none⟩ = some (.int .i64 0) := by rw [in_blockR HR1.out 3]; rfl
  have x4 : w1.cell? ⟨w.heap.size, 4, none⟩ = some (.slice none 0 0) := by rw [in_blockR HR1.out 4]; rfl
  have x5 : w1.cell? ⟨w.heap.size, 5, none⟩ = some (.slice none 0 0) := by rw [in_blockR HR1.out 5]; rfl
  have x6 : w1.cell? ⟨w.heap.size, 6, none⟩ = some (.int .i64 0) := by rw [in_blockR HR1.out 6]; rfl
  have x7 : w1.cell? ⟨w.heap.size, 7, none⟩ = some (.slice none 0 0) := by rw [in_blockR HR1.out 7]; rfl
  have x8 : w1.cell? ⟨w.heap.size, 8, none⟩ = some (.int .i64 0) := by rw [in_blockR HR1.out 8]; rfl
  have x9 : w1.cell? ⟨w.heap.size, 9, none⟩ = some (.int .i64 0) := by rw [in_blockR HR1.out 9]; rfl
  have x10 : w1.cell? ⟨w.heap.size, 10, none⟩ = some (.int .i64 0) := by rw [in_blockR HR1.out 10]; rfl
  have x11 : w1.cell? ⟨w.heap.size, 11, none⟩ = some (.slice (some ⟨g, 0, none⟩) n cp) := by rw [in_blockR HR1.out 11]; rfl
  have x12 : w1.cell? ⟨w.heap.size, 12, none⟩ = some (.slice none 0 0) := by rw [in_blockR HR1.out 12]; rfl
  have x13 : w1.cell? ⟨w.heap.size, 13, none⟩ = some (.slice none 0 0) := by rw [in_blockR HR1.out 13]; rfl
  go_wp2_with fail
  refine (knownN _ w1 (HT.out.below HB1.out)).mono ?_
  rintro e w2 ⟨rfl, hb⟩
  have HB2 := hid (HB1.out.trans (hb.mono HB1.out.size))
  have HR2 := hid (blk_belowR HR1.out hb)
  clear hb x0 x1 x2 x3 x4 x5 x6 x7 x8 x9 x10 x11 x12 x13
  go_wp2_with fail
  obtain ⟨w3, hw3⟩ : ∃ w3, w3 = w2.alloc (.cells #[.int .i64 0, .slice none 0 0, .slice none 0 0] 50) := ⟨_, rfl⟩
  rw [← hw3]
  have hal : Below w2.heap.size w2 w3 := by rw [hw3]; exact (Below.refl _ _).alloc (Nat.le_refl _) _
  have HK3 : Hid (w3.heap[w2.heap.size]? = some (.cells #[.int .i64 0, .slice none 0 0, .slice none 0 0] 50 (0, 0))) := by rw [hw3]; exact alloc_newR _ _
  have HR3 := hid (blk_belowR HR2.out hal)
  have HB3 := hid (HB2.out.trans (hal.mono HB2.out.size))
  clear hw3 hal
  have x0 : w3.cell? ⟨w.heap.size, 0, none⟩ = some (.int .i64 id) := by rw [in_blockR HR3.out 0]; rfl
  have x1 : w3.cell? ⟨w.heap.size, 1, none⟩ = some (.string ⟨#[]⟩) := by rw [in_blockR HR3.out 1]; rfl
  have x2 : w3.cell? ⟨w.heap.size, 2, none⟩ = some (.bool true) := by rw [in_blockR HR3.out 2]; rfl
  have x3 : w3.cell? ⟨w.heap.size, 3, none⟩ = some (.int .i64 0) := by rw [in_blockR HR3.out 3]; rfl
  have x4 : w3.cell? ⟨w.heap.size, 4, none⟩ = some (.slice none 0 0) := by rw [in_blockR HR3.out 4]; rfl
  have x5 : w3.cell? ⟨w.heap.size, 5, none⟩ = some (.slice none 0 0) := by rw [in_blockR HR3.out 5]; rfl
  have x6 : w3.cell? ⟨w.heap.size, 6, none⟩ = some (.int .i64 0) := by rw [in_blockR HR3.out 6]; rfl
  have x7 : w3.cell? ⟨w.heap.size, 7, none⟩ = some (.slice none 0 0) := by rw [in_blockR HR3.out 7]; rfl
  have x8 : w3.cell? ⟨w.heap.size, 8, none⟩ = some (.int .i64 0) := by rw [in_blockR HR3.out 8]; rfl
  have x9 : w3.cell? ⟨w.heap.size, 9, none⟩ = some (.int .i64 0) := by rw [in_blockR HR3.out 9]; rfl
  have x10 : w3.cell? ⟨w.heap.size, 10, none⟩ = some (.int .i64 0) := by rw [in_blockR HR3.out 10]; rfl
  have x11 : w3.cell? ⟨w.heap.size, 11, none⟩ = some (.slice (some ⟨g, 0, none⟩) n cp) := by rw [in_blockR HR3.out 11]; rfl
  have x12 : w3.cell? ⟨w.heap.size, 12, none⟩ = some (.slice none 0 0) := by rw [in_blockR HR3.out 12]; rfl
  have x13 : w3.cell? ⟨w.heap.size, 13, none⟩ = some (.slice none 0 0) := by rw [in_blockR HR3.out 13]; rfl
  have y0 : w3.cell? ⟨w2.heap.size, 0, none⟩ = some (.int .i64 0) := by rw [in_blockR HK3.out 0]; rfl
  have y1 : w3.cell? ⟨w2.heap.size, 1, none⟩ = some (.slice none 0 0) := by rw [in_blockR HK3.out 1]; rfl
  have y2 : w3.cell? ⟨w2.heap.size, 2, none⟩ = some (.slice none 0 0) := by rw [in_blockR HK3.out 2]; rfl
  have SAT : Hid (∀ w', Below w3.heap.size w3 w' → w'.cell? ⟨w.heap.size, 0, none⟩ = some (.int .i64 id) ∧ w'.cell? ⟨w.heap.size, 1, none⟩ = some (.string ⟨#[]⟩) ∧ w'.cell? ⟨w.heap.size, 2, none⟩ = some (.bool true) ∧ w'.cell? ⟨w.heap.size, 3, none⟩ = some (.int .i64 0) ∧ w'.cell? ⟨w.heap.size, 4, none⟩ = some (.slice none 0 0) ∧ w'.cell? ⟨w.heap.size, 5, none⟩ = some (.slice none 0 0) ∧ w'.cell? ⟨w.heap.size, 6, none⟩ = some (.int .i64 0) ∧ w'.cell? ⟨w.heap.size, 7, none⟩ = some (.slice none 0 0) ∧ w'.cell? ⟨w.heap.size, 8, none⟩ = some (.int .i64 0) ∧ w'.cell? ⟨w.heap.size, 9, none⟩ = some (.int .i64 0) ∧ w'.cell? ⟨w.heap.size, 10, none⟩ = some (.int .i64 0) ∧ w'.cell? ⟨w.heap.size, 11, none⟩ = some (.slice (some ⟨g, 0, none⟩) n cp) ∧ w'.cell? ⟨w.heap.size, 12, none⟩ = some (.slice none 0 0) ∧ w'.cell? ⟨w.heap.size, 13, none⟩ = some (.slice none 0 0) ∧ w'.cell? ⟨w2.heap.size, 0, none⟩ = some (.int .i64 0) ∧ w'.cell? ⟨w2.heap.size, 1, none⟩ = some (.slice none 0 0) ∧ w'.cell? ⟨w2.heap.size, 2, none⟩ = some (.slice none 0 0)) := fun w' hb => ⟨(hb.cell (p := ⟨w.heap.size, 0, none⟩) (Array.getElem?_eq_some_iff.1 HR3.out).1).trans x0, (hb.cell (p := ⟨w.heap.size, 1, none⟩) (Array.getElem?_eq_some_iff.1 HR3.out).1).trans x1, (hb.cell (p := ⟨w.heap.size, 2, none⟩) (Array.getElem?_eq_some_iff.1 HR3.out).1).trans x2, (hb.cell (p := ⟨w.heap.size, 3, none⟩) (Array.getElem?_eq_some_iff.1 HR3.out).1).trans x3, (hb.cell (p := ⟨w.heap.size, 4, none⟩) (Array.getElem?_eq_some_iff.1 HR3.out).1).trans x4, (hb.cell (p := ⟨w.heap.size, 5, none⟩) (Array.getElem?_eq_some_iff.1 HR3.out).1).trans x5, (hb.cell (p := ⟨w.heap.size, 6, none⟩) (Array.getElem?_eq_some_iff.1 HR3.out).1).trans x6, (hb.cell (p := ⟨w.heap.size, 7, none⟩) (Array.getElem?_eq_some_iff.1 HR3.out).1).trans x7, (hb.cell (p := ⟨w.heap.size, 8, none⟩) (Array.getElem?_eq_some_iff.1 HR3.out).1).trans x8, (hb.cell (p := ⟨w.heap.size, 9, none⟩) (Array.getElem?_eq_some_iff.1 HR3.out).1).trans x9, (hb.cell (p := ⟨w.heap.size, 10, none⟩) (Array.getElem?_eq_some_iff.1 HR3.out).1).trans x10, (hb.cell (p := ⟨w.heap.size, 11, none⟩) (Array.getElem?_eq_some_iff.1 HR3.out).1).trans x11, (hb.cell (p := ⟨w.heap.size, 12, none⟩) (Array.getElem?_eq_some_iff.1 HR3.out).1).trans x12, (hb.cell (p := ⟨w.heap.size, 13, none⟩) (Array.getElem?_eq_some_iff.1 HR3.out).1).trans x13, (hb.cell (p := ⟨w2.heap.size, 0, none⟩) (Array.getElem?_eq_some_iff.1 HK3.out).1).trans y0, (hb.cell (p := ⟨w2.heap.size, 1, none⟩) (Array.getElem?_eq_some_iff.1 HK3.out).1).trans y1, (hb.cell (p := ⟨w2.heap.size, 2, none⟩) (Array.getElem?_eq_some_iff.1 HK3.out).1).trans y2⟩
  have HD : Hid (Below w3.heap.size w3 w3.drew) := (Below.refl _ _).drew
  have CI : Hid (∀ W, Below w3.heap.size w3 W → Calls Tryz.prog 31 #[.agg #[.int .i64 id, .string ⟨#[]⟩, .bool true, .int .i64 0, .slice none 0 0, .slice none 0 0, .int .i64 0, .slice none 0 0, .int .i64 0, .int .i64 0, .int .i64 0, .slice (some ⟨g, 0, none⟩) n cp, .slice none 0 0, .slice none 0 0]] W fun e w' => (∃ (ov : Option Addr) (cv : Nat), e = .returned (.agg #[.int .i64 0, .slice none 0 0, .int .i64 0, .int .i64 0, .int .i64 0, .slice ov n cv, .slice none 0 0, .slice none 0 0]) ∧ w'.ownsRow W.heap.size 3 1 (.slice ov n cv) n ((noneL n).map (Value.int .i64))) ∧ Below W.heap.size W w') := fun W hb => inMind_up g n cp base id W h1 h3 (row_below (row_below HGG.out HB3.out) hb)
  clear x0 x1 x2 x3 x4 x5 x6 x7 x8 x9 x10 x11 x12 x13 y0 y1 y2
  refine wp_region_held_drew (S := (fun w' => w'.cell? ⟨w.heap.size, 0, none⟩ = some (.int .i64 id) ∧ w'.cell? ⟨w.heap.size, 1, none⟩ = some (.string ⟨#[]⟩) ∧ w'.cell? ⟨w.heap.size, 2, none⟩ = some (.bool true) ∧ w'.cell? ⟨w.heap.size, 3, none⟩ = some (.int .i64 0) ∧ w'.cell? ⟨w.heap.size, 4, none⟩ = some (.slice none 0 0) ∧ w'.cell? ⟨w.heap.size, 5, none⟩ = some (.slice none 0 0) ∧ w'.cell? ⟨w.heap.size, 6, none⟩ = some (.int .i64 0) ∧ w'.cell? ⟨w.heap.size, 7, none⟩ = some (.slice none 0 0) ∧ w'.cell? ⟨w.heap.size, 8, none⟩ = some (.int .i64 0) ∧ w'.cell? ⟨w.heap.size, 9, none⟩ = some (.int .i64 0) ∧ w'.cell? ⟨w.heap.size, 10, none⟩ = some (.int .i64 0) ∧ w'.cell? ⟨w.heap.size, 11, none⟩ = some (.slice (some ⟨g, 0, none⟩) n cp) ∧ w'.cell? ⟨w.heap.size, 12, none⟩ = some (.slice none 0 0) ∧ w'.cell? ⟨w.heap.size, 13, none⟩ = some (.slice none 0 0) ∧ w'.cell? ⟨w2.heap.size, 0, none⟩ = some (.int .i64 0) ∧ w'.cell? ⟨w2.heap.size, 1, none⟩ = some (.slice none 0 0) ∧ w'.cell? ⟨w2.heap.size, 2, none⟩ = some (.slice none 0 0))) (by kernel_rfl) ?_ (fun hS => ?_)
  · exact (SAT.out _ HD.out)
  obtain ⟨w4, hw4⟩ : ∃ w4, w4 = w3.drew := ⟨_, rfl⟩
  rw [← hw4] at hS HD ⊢
  clear hw4
  refine takeH_on 0 (v := ?_) rfl rfl (by kernel_rfl) (by kernel_rfl) (by kernel_rfl) (fun _ _ _ h => h) (by rfl) hS (fun w hSw => ?_) ?_
  rotate_left
  · ((try dsimp only at hSw); go_simp; try with_reducible rfl)
  simp only [List.setIfInBounds_toArray, List.set_cons_zero, List.set_cons_succ]
  refine takeH_on 1 (v := ?_) rfl rfl (by kernel_rfl) (by kernel_rfl) (by kernel_rfl) (fun _ _ _ h => h) (by rfl) hS (fun w hSw => ?_) ?_
  rotate_left
  · ((try dsimp only at hSw); go_simp; try with_reducible rfl)
  simp only [List.setIfInBounds_toArray, List.set_cons_zero, List.set_cons_succ]
  refine takeH_on 2 (v := ?_) rfl rfl (by kernel_rfl) (by kernel_rfl) (by kernel_rfl) (fun _ _ _ h => h) (by rfl) hS (fun w hSw => ?_) ?_
  rotate_left
  · ((try dsimp only at hSw); go_simp; try with_reducible rfl)
  simp only [List.setIfInBounds_toArray, List.set_cons_zero, List.set_cons_succ]
  refine takeH_on 3 (v := ?_) rfl rfl (by kernel_rfl) (by kernel_rfl) (by kernel_rfl) (fun _ _ _ h => h) (by rfl) hS (fun w hSw => ?_) ?_
  rotate_left
  · ((try dsimp only at hSw); go_simp; try with_reducible rfl)
  simp only [List.setIfInBounds_toArray, List.set_cons_zero, List.set_cons_succ]
  refine takeH_on 4 (v := ?_) rfl rfl (by kernel_rfl) (by kernel_rfl) (by kernel_rfl) (fun _ _ _ h => h) (by rfl) hS (fun w hSw => ?_) ?_
  rotate_left
  · ((try dsimp only at hSw); go_simp; try with_reducible rfl)
  simp only [List.setIfInBounds_toArray, List.set_cons_zero, List.set_cons_succ]
  refine takeH_on 5 (v := ?_) rfl rfl (by kernel_rfl) (by kernel_rfl) (by kernel_rfl) (fun _ _ _ h => h) (by rfl) hS (fun w hSw => ?_) ?_
  rotate_left
  · ((try dsimp only at hSw); go_simp; try with_reducible rfl)
  simp only [List.setIfInBounds_toArray, List.set_cons_zero, List.set_cons_succ]
  refine takeH_on 6 (v := .string ⟨#[]⟩) rfl rfl (by kernel_rfl) (by kernel_rfl) (by kernel_rfl) (fun _ _ _ h => h) (by rfl) hS (fun w hSw => ?_) ?_
  · ((try dsimp only at hSw); go_simp; (try rfl))
  simp only [List.setIfInBounds_toArray, List.set_cons_zero, List.set_cons_succ]
  refine takeH_on 7 (v := ?_) rfl rfl (by kernel_rfl) (by kernel_rfl) (by kernel_rfl) (fun _ _ _ h => h) (by rfl) hS (fun w hSw => ?_) ?_
  rotate_left
  · ((try dsimp only at hSw); go_simp; try with_reducible rfl)
  simp only [List.setIfInBounds_toArray, List.set_cons_zero, List.set_cons_succ]
  refine takeH_on 8 (v := ?_) rfl rfl (by kernel_rfl) (by kernel_rfl) (by kernel_rfl) (fun _ _ _ h => h) (by rfl) hS (fun w hSw => ?_) ?_
  rotate_left
  · ((try dsimp only at hSw); go_simp; try with_reducible rfl)
  simp only [List.setIfInBounds_toArray, List.set_cons_zero, List.set_cons_succ]
  refine wpAnyH_ready (rs := [9]) (by kernel_rfl) (by simp) (AllReadyH.cons rfl (fun K hK => ?_) AllReadyH.nil)
  clear hS
  go_simp
  go_wp2_with fail
  refine (CI.out _ HD.out).mono ?_
  rintro e w5 ⟨⟨ov, cv, rfl, hrow⟩, hb⟩
  have HB5 := hid (HD.out.trans (hb.mono HD.out.size))
  have HN5 := hid (noneRow hrow)
  clear hrow hb
  refine Shut.out hK _ _ (SAT.out _ HB5.out) (fun hS => ?_)
  clear hK K
  refine takeH_on 10 (v := ?_) rfl rfl (by kernel_rfl) (by kernel_rfl) (by kernel_rfl) (fun _ _ _ h => h) (by rfl) hS (fun w hSw => ?_) ?_
  rotate_left
  · ((try dsimp only at hSw); go_simp; try with_reducible rfl)
  simp only [List.setIfInBounds_toArray, List.set_cons_zero, List.set_cons_succ]
  refine wpAnyH_ready (rs := [11]) (by kernel_rfl) (by simp) (AllReadyH.cons rfl (fun K hK => ?_) AllReadyH.nil)
  clear hS
  go_simp
  obtain ⟨w6, hw6⟩ : ∃ w6, w6 = w5.alloc (.cells #[.int .i64 id, .int .i64 (n : Int), .string ⟨#[]⟩, .int .i64 0, .slice none 0 0, .slice none 0 0, .int .i64 0, .slice none 0 0, .int .i64 0, .int .i64 0, .int .i64 0, .slice ov n cv, .slice none 0 0, .slice none 0 0, .slice none 0 0] 55) := ⟨_, rfl⟩
  rw [← hw6]
  have hal : Below w5.heap.size w5 w6 := by rw [hw6]; exact (Below.refl _ _).alloc (Nat.le_refl _) _
  have HD6 : Hid (w6.heap[w5.heap.size]? = some (.cells #[.int .i64 id, .int .i64 (n : Int), .string ⟨#[]⟩, .int .i64 0, .slice none 0 0, .slice none 0 0, .int .i64 0, .slice none 0 0, .int .i64 0, .int .i64 0, .int .i64 0, .slice ov n cv, .slice none 0 0, .slice none 0 0, .slice none 0 0] 55 (0, 0))) := by rw [hw6]; exact alloc_newR _ _
  have HB6 := hid (HB5.out.trans (hal.mono HB5.out.size))
  have HN6 := hid (HN5.out.below hal)
  clear hw6 hal
  refine Shut.out hK _ _ (SAT.out _ HB6.out) (fun hS => ?_)
  clear hK K
  refine takeH_on 12 (v := ?_) rfl rfl (by kernel_rfl) (by kernel_rfl) (by kernel_rfl) (fun _ _ _ h => h) (by rfl) hS (fun w hSw => ?_) ?_
  rotate_left
  · ((try dsimp only at hSw); go_simp; try with_reducible rfl)
  simp only [List.setIfInBounds_toArray, List.set_cons_zero, List.set_cons_succ]
  refine wpAnyH_done (by kernel_rfl) ?_ _
  clear hS
  have HC6 := hid (HB3.out.trans (HB6.out.mono HB3.out.size))
  have hr6 := blk_belowR HR3.out HB6.out
  have hk6 := blk_belowR HK3.out HB6.out
  have x0 : w6.cell? ⟨w.heap.size, 0, none⟩ = some (.int .i64 id) := by rw [in_blockR hr6 0]; rfl
  have x1 : w6.cell? ⟨w.heap.size, 1, none⟩ = some (.string ⟨#[]⟩) := by rw [in_blockR hr6 1]; rfl
  have x2 : w6.cell? ⟨w.heap.size, 2, none⟩ = some (.bool true) := by rw [in_blockR hr6 2]; rfl
  have x3 : w6.cell? ⟨w.heap.size, 3, none⟩ = some (.int .i64 0) := by rw [in_blockR hr6 3]; rfl
  have x4 : w6.cell? ⟨w.heap.size, 4, none⟩ = some (.slice none 0 0) := by rw [in_blockR hr6 4]; rfl
  have x5 : w6.cell? ⟨w.heap.size, 5, none⟩ = some (.slice none 0 0) := by rw [in_blockR hr6 5]; rfl
  have x6 : w6.cell? ⟨w.heap.size, 6, none⟩ = some (.int .i64 0) := by rw [in_blockR hr6 6]; rfl
  have x7 : w6.cell? ⟨w.heap.size, 7, none⟩ = some (.slice none 0 0) := by rw [in_blockR hr6 7]; rfl
  have x8 : w6.cell? ⟨w.heap.size, 8, none⟩ = some (.int .i64 0) := by rw [in_blockR hr6 8]; rfl
  have x9 : w6.cell? ⟨w.heap.size, 9, none⟩ = some (.int .i64 0) := by rw [in_blockR hr6 9]; rfl
  have x10 : w6.cell? ⟨w.heap.size, 10, none⟩ = some (.int .i64 0) := by rw [in_blockR hr6 10]; rfl
  have x11 : w6.cell? ⟨w.heap.size, 11, none⟩ = some (.slice (some ⟨g, 0, none⟩) n cp) := by rw [in_blockR hr6 11]; rfl
  have x12 : w6.cell? ⟨w.heap.size, 12, none⟩ = some (.slice none 0 0) := by rw [in_blockR hr6 12]; rfl
  have x13 : w6.cell? ⟨w.heap.size, 13, none⟩ = some (.slice none 0 0) := by rw [in_blockR hr6 13]; rfl
  have y0 : w6.cell? ⟨w2.heap.size, 0, none⟩ = some (.int .i64 0) := by rw [in_blockR hk6 0]; rfl
  have y1 : w6.cell? ⟨w2.heap.size, 1, none⟩ = some (.slice none 0 0) := by rw [in_blockR hk6 1]; rfl
  have y2 : w6.cell? ⟨w2.heap.size, 2, none⟩ = some (.slice none 0 0) := by rw [in_blockR hk6 2]; rfl
  have l1 : w.heap.size < w6.heap.size := (Array.getElem?_eq_some_iff.1 hr6).1
  have l2 : w2.heap.size < w6.heap.size := (Array.getElem?_eq_some_iff.1 hk6).1
  have l3 : w5.heap.size < w6.heap.size := (Array.getElem?_eq_some_iff.1 HD6.out).1
  have n1 : ¬ w6.heap.size = w.heap.size := by omega
  have n2 : ¬ w.heap.size = w6.heap.size := by omega
  have n3 : ¬ w6.heap.size = w2.heap.size := by omega
  have n4 : ¬ w2.heap.size = w6.heap.size := by omega
  have HLE : Hid (w.heap.size ≤ w5.heap.size) := Nat.le_trans HB3.out.size HB5.out.size
  clear hr6 hk6
  go_wp2_with fail
  obtain ⟨w7, hw7⟩ : ∃ w7, w7 = w6.alloc (.cells #[.int .i64 0, .slice none 0 0, .slice none 0 0] 50) := ⟨_, rfl⟩
  rw [← hw7]
  have hal : Below w6.heap.size w6 w7 := by rw [hw7]; exact (Below.refl _ _).alloc (Nat.le_refl _) _
  refine (sameN w7).mono ?_
  rintro e w8 ⟨rfl, hb⟩
  have h68 := hal.trans (hb.mono hal.size)
  have HC8 := hid (HC6.out.trans (h68.mono HC6.out.size))
  have HD8 := hid (blk_belowR HD6.out h68)
  have HN8 := hid (HN6.out.below h68)
  clear hb hal hw7 h68 l1 l2 l3 n1 n2 n3 n4 x0 x1 x2 x3 x4 x5 x6 x7 x8 x9 x10 x11 x12 x13 y0 y1 y2
  have d0 : w8.cell? ⟨w5.heap.size, 0, none⟩ = some (.int .i64 id) := by rw [in_blockR HD8.out 0]; rfl
  have d1 : w8.cell? ⟨w5.heap.size, 1, none⟩ = some (.int .i64 (n : Int)) := by rw [in_blockR HD8.out 1]; rfl
  have d2 : w8.cell? ⟨w5.heap.size, 2, none⟩ = some (.string ⟨#[]⟩) := by rw [in_blockR HD8.out 2]; rfl
  have d3 : w8.cell? ⟨w5.heap.size, 3, none⟩ = some (.int .i64 0) := by rw [in_blockR HD8.out 3]; rfl
  have d4 : w8.cell? ⟨w5.heap.size, 4, none⟩ = some (.slice none 0 0) := by rw [in_blockR HD8.out 4]; rfl
  have d5 : w8.cell? ⟨w5.heap.size, 5, none⟩ = some (.slice none 0 0) := by rw [in_blockR HD8.out 5]; rfl
  have d6 : w8.cell? ⟨w5.heap.size, 6, none⟩ = some (.int .i64 0) := by rw [in_blockR HD8.out 6]; rfl
  have d7 : w8.cell? ⟨w5.heap.size, 7, none⟩ = some (.slice none 0 0) := by rw [in_blockR HD8.out 7]; rfl
  have d8 : w8.cell? ⟨w5.heap.size, 8, none⟩ = some (.int .i64 0) := by rw [in_blockR HD8.out 8]; rfl
  have d9 : w8.cell? ⟨w5.heap.size, 9, none⟩ = some (.int .i64 0) := by rw [in_blockR HD8.out 9]; rfl
  have d10 : w8.cell? ⟨w5.heap.size, 10, none⟩ = some (.int .i64 0) := by rw [in_blockR HD8.out 10]; rfl
  have d11 : w8.cell? ⟨w5.heap.size, 11, none⟩ = some (.slice ov n cv) := by rw [in_blockR HD8.out 11]; rfl
  have d12 : w8.cell? ⟨w5.heap.size, 12, none⟩ = some (.slice none 0 0) := by rw [in_blockR HD8.out 12]; rfl
  have d13 : w8.cell? ⟨w5.heap.size, 13, none⟩ = some (.slice none 0 0) := by rw [in_blockR HD8.out 13]; rfl
  have d14 : w8.cell? ⟨w5.heap.size, 14, none⟩ = some (.slice none 0 0) := by rw [in_blockR HD8.out 14]; rfl
  go_wp2_with fail
  refine (mindOk n ov cv w8 h3 HN8.out).mono ?_
  rintro e w9 ⟨rfl, hb⟩
  have HC9 := hid (HC8.out.trans (hb.mono HC8.out.size))
  have HD9 := hid (blk_belowR HD8.out hb)
  clear hb d0 d1 d2 d3 d4 d5 d6 d7 d8 d9 d10 d11 d12 d13 d14
  go_wp2_with fail
  refine (leadOkN w5.heap.size id n 0 ov n cv w9 HD9.out).mono ?_
  rintro e w10 ⟨rfl, hb⟩
  have HC10 := hid (HC9.out.trans (hb.mono HC9.out.size))
  have HD10 := hid (blk_belowR HD9.out hb)
  clear hb
  go_wp2
  go_ret2
  exact ⟨⟨_, ov, cv, rfl, HLE.out, HD10.out⟩, HC10.out⟩

set_option maxRecDepth 100000 in
set_option maxHeartbeats 3200000 in
theorem decider_down (n : Nat) (id : Int) (w : World) (ht : Tab w) (h1 : 1 ≤ n) (h3 : n ≤ 3) (hi1 : 10 ≤ id) (hi2 : id ≤ 12) :
    Calls Tryz.prog 22 #[.agg #[.int .i64 id, .string ⟨#[]⟩, .bool false, .int .i64 0, .slice none 0 0, .slice none 0 0, .int .i64 0, .slice none 0 0, .int .i64 0, .int .i64 0, .int .i64 0, .slice none 0 0, .slice none 0 0, .slice none 0 0], .int .i64 (n : Int)] w fun e w' => (∃ D : Nat, e = .returned (.tuple #[.pointer (some ⟨D, 0, none⟩), .bool true]) ∧ w.heap.size ≤ D ∧ w'.heap[D]? = some (.cells #[.int .i64 id, .int .i64 (n : Int), .string ⟨#[]⟩, .int .i64 0, .slice none 0 0, .slice none 0 0, .int .i64 0, .slice none 0 0, .int .i64 0, .int .i64 0, .int .i64 0, .slice none 0 0, .slice none 0 0, .slice none 0 0, .slice none 0 0] 55 (0, 0))) ∧ Below w.heap.size w w' := by
  have HB1 : Hid (Below w.heap.size w (w.alloc (.cells #[.int .i64 id, .string ⟨#[]⟩, .bool false, .int .i64 0, .slice none 0 0, .slice none 0 0, .int .i64 0, .slice none 0 0, .int .i64 0, .int .i64 0, .int .i64 0, .slice none 0 0, .slice none 0 0, .slice none 0 0] 28))) := (Below.refl _ _).alloc (Nat.le_refl _) _
  have HR1 : Hid ((w.alloc (.cells #[.int .i64 id, .string ⟨#[]⟩, .bool false, .int .i64 0, .slice none 0 0, .slice none 0 0, .int .i64 0, .slice none 0 0, .int .i64 0, .int .i64 0, .int .i64 0, .slice none 0 0, .slice none 0 0, .slice none 0 0] 28)).heap[w.heap.size]? = some (.cells #[.int .i64 id, .string ⟨#[]⟩, .bool false, .int .i64 0, .slice none 0 0, .slice none 0 0, .int .i64 0, .slice none 0 0, .int .i64 0, .int .i64 0, .int .i64 0, .slice none 0 0, .slice none 0 0, .slice none 0 0] 28 (0, 0))) := alloc_newR _ _
  have C1 : Hid (∀ W, Calls Tryz.prog 14 #[.int .i64 id] W fun e w' => e = .returned (.bool true) ∧ w' = W) := fun W => by
    have e : inB id 10 12 = true := by simp [inB]; omega
    rw [← e]
    exact rep_any id W
  have C2 : Hid (∀ W, Calls Tryz.prog 15 #[.int .i64 (n : Int)] W fun e w' => e = .returned (.bool true) ∧ w' = W) := fun W => by
    have e : inB (n : Int) 1 3 = true := by simp [inB]; omega
    rw [← e]
    exact many_any _ W
  have HT := hid ht
  clear ht
  go_enter Tryz.func22, Tryz.ntmps22
  go_wp2_with fail
  obtain ⟨w1, hw1⟩ : ∃ w1, w1 = w.alloc (.cells #[.int .i64 id, .string ⟨#[]⟩, .bool false, .int .i64 0, .slice none 0 0, .slice none 0 0, .int .i64 0, .slice none 0 0, .int .i64 0, .int .i64 0, .int .i64 0, .slice none 0 0, .slice none 0 0, .slice none 0 0] 28) := ⟨_, rfl⟩
  rw [← hw1] at HB1 HR1 ⊢
  clear hw1
  refine (C1.out w1).mono ?_
  rintro e v ⟨rfl, hv⟩
  rw [hv]
  clear hv v
  go_wp2_with fail
  refine (C2.out w1).mono ?_
  rintro e v ⟨rfl, hv⟩
  rw [hv]
  clear hv v
  have x0 : w1.cell? ⟨w.heap.size, 0, none⟩ = some (.int .i64 id) := by rw [in_blockR HR1.out 0]; rfl
  have x1 : w1.cell? ⟨w.heap.size, 1, none⟩ = some (.string ⟨#[]⟩) := by rw [in_blockR HR1.out 1]; rfl
  have x2 : w1.cell? ⟨w.heap.size, 2, none⟩ = some (.bool false) := by rw [in_blockR HR1.out 2]; rfl
  have x3 : w1.cell? ⟨w.heap.size, 3, none⟩ = some (.int .i64 0) := by rw [in_blockR HR1.out 3]; rfl
  have x4 : w1.cell? ⟨w.heap.size, 4, none⟩ = some (.slice none 0 0) := by rw [in_blockR HR1.out 4]; rfl
  have x5 : w1.cell? ⟨w.heap.size, 5, none⟩ = some (.slice none 0 0) := by rw [in_blockR HR1.out 5]; rfl
  have x6 : w1.cell? ⟨w.heap.size, 6, none⟩ = some (.int .i64 0) := by rw [in_blockR HR1.out 6]; rfl
  have x7 : w1.cell? ⟨w.heap.size, 7, none⟩ = some (.slice none 0 0) := by rw [in_blockR HR1.out 7]; rfl
  have x8 : w1.cell? ⟨w.heap.size, 8, none⟩ = some (.int .i64 0) := by rw [in_blockR HR1.out 8]; rfl
  have x9 : w1.cell? ⟨w.heap.size, 9, none⟩ = some (.int .i64 0) := by rw [in_blockR HR1.out 9]; rfl
  have x10 : w1.cell? ⟨w.heap.size, 10, none⟩ = some (.int .i64 0) := by rw [in_blockR HR1.out 10]; rfl
  have x11 : w1.cell? ⟨w.heap.size, 11, none⟩ = some (.slice none 0 0) := by rw [in_blockR HR1.out 11]; rfl
  have x12 : w1.cell? ⟨w.heap.size, 12, none⟩ = some (.slice none 0 0) := by rw [in_blockR HR1.out 12]; rfl
  have x13 : w1.cell? ⟨w.heap.size, 13, none⟩ = some (.slice none 0 0) := by rw [in_blockR HR1.out 13]; rfl
  go_wp2_with fail
  refine (knownN _ w1 (HT.out.below HB1.out)).mono ?_
  rintro e w2 ⟨rfl, hb⟩
  have HB2 := hid (HB1.out.trans (hb.mono HB1.out.size))
  have HR2 := hid (blk_belowR HR1.out hb)
  clear hb x0 x1 x2 x3 x4 x5 x6 x7 x8 x9 x10 x11 x12 x13
  go_wp2_with fail
  obtain ⟨w3, hw3⟩ : ∃ w3, w3 = w2.alloc (.cells #[.int .i64 0, .slice none 0 0, .slice none 0 0] 50) := ⟨_, rfl⟩
  rw [← hw3]
  have hal : Below w2.heap.size w2 w3 := by rw [hw3]; exact (Below.refl _ _).alloc (Nat.le_refl _) _
  have HK3 : Hid (w3.heap[w2.heap.size]? = some (.cells #[.int .i64 0, .slice none 0 0, .slice none 0 0] 50 (0, 0))) := by rw [hw3]; exact alloc_newR _ _
  have HR3 := hid (blk_belowR HR2.out hal)
  have HB3 := hid (HB2.out.trans (hal.mono HB2.out.size))
  clear hw3 hal
  have x0 : w3.cell? ⟨w.heap.size, 0, none⟩ = some (.int .i64 id) := by rw [in_blockR HR3.out 0]; rfl
  have x1 : w3.cell? ⟨w.heap.size, 1, none⟩ = some (.string ⟨#[]⟩) := by rw [in_blockR HR3.out 1]; rfl
  have x2 : w3.cell? ⟨w.heap.size, 2, none⟩ = some (.bool false) := by rw [in_blockR HR3.out 2]; rfl
  have x3 : w3.cell? ⟨w.heap.size, 3, none⟩ = some (.int .i64 0) := by rw [in_blockR HR3.out 3]; rfl
  have x4 : w3.cell? ⟨w.heap.size, 4, none⟩ = some (.slice none 0 0) := by rw [in_blockR HR3.out 4]; rfl
  have x5 : w3.cell? ⟨w.heap.size, 5, none⟩ = some (.slice none 0 0) := by rw [in_blockR HR3.out 5]; rfl
  have x6 : w3.cell? ⟨w.heap.size, 6, none⟩ = some (.int .i64 0) := by rw [in_blockR HR3.out 6]; rfl
  have x7 : w3.cell? ⟨w.heap.size, 7, none⟩ = some (.slice none 0 0) := by rw [in_blockR HR3.out 7]; rfl
  have x8 : w3.cell? ⟨w.heap.size, 8, none⟩ = some (.int .i64 0) := by rw [in_blockR HR3.out 8]; rfl
  have x9 : w3.cell? ⟨w.heap.size, 9, none⟩ = some (.int .i64 0) := by rw [in_blockR HR3.out 9]; rfl
  have x10 : w3.cell? ⟨w.heap.size, 10, none⟩ = some (.int .i64 0) := by rw [in_blockR HR3.out 10]; rfl
  have x11 : w3.cell? ⟨w.heap.size, 11, none⟩ = some (.slice none 0 0) := by rw [in_blockR HR3.out 11]; rfl
  have x12 : w3.cell? ⟨w.heap.size, 12, none⟩ = some (.slice none 0 0) := by rw [in_blockR HR3.out 12]; rfl
  have x13 : w3.cell? ⟨w.heap.size, 13, none⟩ = some (.slice none 0 0) := by rw [in_blockR HR3.out 13]; rfl
  have y0 : w3.cell? ⟨w2.heap.size, 0, none⟩ = some (.int .i64 0) := by rw [in_blockR HK3.out 0]; rfl
  have y1 : w3.cell? ⟨w2.heap.size, 1, none⟩ = some (.slice none 0 0) := by rw [in_blockR HK3.out 1]; rfl
  have y2 : w3.cell? ⟨w2.heap.size, 2, none⟩ = some (.slice none 0 0) := by rw [in_blockR HK3.out 2]; rfl
  have SAT : Hid (∀ w', Below w3.heap.size w3 w' → w'.cell? ⟨w.heap.size, 0, none⟩ = some (.int .i64 id) ∧ w'.cell? ⟨w.heap.size, 1, none⟩ = some (.string ⟨#[]⟩) ∧ w'.cell? ⟨w.heap.size, 2, none⟩ = some (.bool false) ∧ w'.cell? ⟨w.heap.size, 3, none⟩ = some (.int .i64 0) ∧ w'.cell? ⟨w.heap.size, 4, none⟩ = some (.slice none 0 0) ∧ w'.cell? ⟨w.heap.size, 5, none⟩ = some (.slice none 0 0) ∧ w'.cell? ⟨w.heap.size, 6, none⟩ = some (.int .i64 0) ∧ w'.cell? ⟨w.heap.size, 7, none⟩ = some (.slice none 0 0) ∧ w'.cell? ⟨w.heap.size, 8, none⟩ = some (.int .i64 0) ∧ w'.cell? ⟨w.heap.size, 9, none⟩ = some (.int .i64 0) ∧ w'.cell? ⟨w.heap.size, 10, none⟩ = some (.int .i64 0) ∧ w'.cell? ⟨w.heap.size, 11, none⟩ = some (.slice none 0 0) ∧ w'.cell? ⟨w.heap.size, 12, none⟩ = some (.slice none 0 0) ∧ w'.cell? ⟨w.heap.size, 13, none⟩ = some (.slice none 0 0) ∧ w'.cell? ⟨w2.heap.size, 0, none⟩ = some (.int .i64 0) ∧ w'.cell? ⟨w2.heap.size, 1, none⟩ = some (.slice none 0 0) ∧ w'.cell? ⟨w2.heap.size, 2, none⟩ = some (.slice none 0 0)) := fun w' hb => ⟨(hb.cell (p := ⟨w.heap.size, 0, none⟩) (Array.getElem?_eq_some_iff.1 HR3.out).1).trans x0, (hb.cell (p := ⟨w.heap.size, 1, none⟩) (Array.getElem?_eq_some_iff.1 HR3.out).1).trans x1, (hb.cell (p := ⟨w.heap.size, 2, none⟩) (Array.getElem?_eq_some_iff.1 HR3.out).1).trans x2, (hb.cell (p := ⟨w.heap.size, 3, none⟩) (Array.getElem?_eq_some_iff.1 HR3.out).1).trans x3, (hb.cell (p := ⟨w.heap.size, 4, none⟩) (Array.getElem?_eq_some_iff.1 HR3.out).1).trans x4, (hb.cell (p := ⟨w.heap.size, 5, none⟩) (Array.getElem?_eq_some_iff.1 HR3.out).1).trans x5, (hb.cell (p := ⟨w.heap.size, 6, none⟩) (Array.getElem?_eq_some_iff.1 HR3.out).1).trans x6, (hb.cell (p := ⟨w.heap.size, 7, none⟩) (Array.getElem?_eq_some_iff.1 HR3.out).1).trans x7, (hb.cell (p := ⟨w.heap.size, 8, none⟩) (Array.getElem?_eq_some_iff.1 HR3.out).1).trans x8, (hb.cell (p := ⟨w.heap.size, 9, none⟩) (Array.getElem?_eq_some_iff.1 HR3.out).1).trans x9, (hb.cell (p := ⟨w.heap.size, 10, none⟩) (Array.getElem?_eq_some_iff.1 HR3.out).1).trans x10, (hb.cell (p := ⟨w.heap.size, 11, none⟩) (Array.getElem?_eq_some_iff.1 HR3.out).1).trans x11, (hb.cell (p := ⟨w.heap.size, 12, none⟩) (Array.getElem?_eq_some_iff.1 HR3.out).1).trans x12, (hb.cell (p := ⟨w.heap.size, 13, none⟩) (Array.getElem?_eq_some_iff.1 HR3.out).1).trans x13, (hb.cell (p := ⟨w2.heap.size, 0, none⟩) (Array.getElem?_eq_some_iff.1 HK3.out).1).trans y0, (hb.cell (p := ⟨w2.heap.size, 1, none⟩) (Array.getElem?_eq_some_iff.1 HK3.out).1).trans y1, (hb.cell (p := ⟨w2.heap.size, 2, none⟩) (Array.getElem?_eq_some_iff.1 HK3.out).1).trans y2⟩
  have HD : Hid (Below w3.heap.size w3 w3.drew) := (Below.refl _ _).drew
  have CI : Hid (∀ W, Below w3.heap.size w3 W → Calls Tryz.prog 31 #[.agg #[.int .i64 id, .string ⟨#[]⟩, .bool false, .int .i64 0, .slice none 0 0, .slice none 0 0, .int .i64 0, .slice none 0 0, .int .i64 0, .int .i64 0, .int .i64 0, .slice none 0 0, .slice none 0 0, .slice none 0 0]] W fun e w' => e = .returned (.agg #[.int .i64 0, .slice none 0 0, .int .i64 0, .int .i64 0, .int .i64 0, .slice none 0 0, .slice none 0 0, .slice none 0 0]) ∧ Below W.heap.size W w') := fun W _ => inMind_down id W
  clear x0 x1 x2 x3 x4 x5 x6 x7 x8 x9 x10 x11 x12 x13 y0 y1 y2
  refine wp_region_held_drew (S := (fun w' => w'.cell? ⟨w.heap.size, 0, none⟩ = some (.int .i64 id) ∧ w'.cell? ⟨w.heap.size, 1, none⟩ = some (.string ⟨#[]⟩) ∧ w'.cell? ⟨w.heap.size, 2, none⟩ = some (.bool false) ∧ w'.cell? ⟨w.heap.size, 3, none⟩ = some (.int .i64 0) ∧ w'.cell? ⟨w.heap.size, 4, none⟩ = some (.slice none 0 0) ∧ w'.cell? ⟨w.heap.size, 5, none⟩ = some (.slice none 0 0) ∧ w'.cell? ⟨w.heap.size, 6, none⟩ = some (.int .i64 0) ∧ w'.cell? ⟨w.heap.size, 7, none⟩ = some (.slice none 0 0) ∧ w'.cell? ⟨w.heap.size, 8, none⟩ = some (.int .i64 0) ∧ w'.cell? ⟨w.heap.size, 9, none⟩ = some (.int .i64 0) ∧ w'.cell? ⟨w.heap.size, 10, none⟩ = some (.int .i64 0) ∧ w'.cell? ⟨w.heap.size, 11, none⟩ = some (.slice none 0 0) ∧ w'.cell? ⟨w.heap.size, 12, none⟩ = some (.slice none 0 0) ∧ w'.cell? ⟨w.heap.size, 13, none⟩ = some (.slice none 0 0) ∧ w'.cell? ⟨w2.heap.size, 0, none⟩ = some (.int .i64 0) ∧ w'.cell? ⟨w2.heap.size, 1, none⟩ = some (.slice none 0 0) ∧ w'.cell? ⟨w2.heap.size, 2, none⟩ = some (.slice none 0 0))) (by kernel_rfl) ?_ (fun hS => ?_)
  · exact (SAT.out _ HD.out)
  obtain ⟨w4, hw4⟩ : ∃ w4, w4 = w3.drew := ⟨_, rfl⟩
  rw [← hw4] at hS HD ⊢
  clear hw4
  refine takeH_on 0 (v := ?_) rfl rfl (by kernel_rfl) (by kernel_rfl) (by kernel_rfl) (fun _ _ _ h => h) (by rfl) hS (fun w hSw => ?_) ?_
  rotate_left
  · ((try dsimp only at hSw); go_simp; try with_reducible rfl)
  simp only [List.setIfInBounds_toArray, List.set_cons_zero, List.set_cons_succ]
  refine takeH_on 1 (v := ?_) rfl rfl (by kernel_rfl) (by kernel_rfl) (by kernel_rfl) (fun _ _ _ h => h) (by rfl) hS (fun w hSw => ?_) ?_
  rotate_left
  · ((try dsimp only at hSw); go_simp; try with_reducible rfl)
  simp only [List.setIfInBounds_toArray, List.set_cons_zero, List.set_cons_succ]
  refine takeH_on 2 (v := ?_) rfl rfl (by kernel_rfl) (by kernel_rfl) (by kernel_rfl) (fun _ _ _ h => h) (by rfl) hS (fun w hSw => ?_) ?_
  rotate_left
  · ((try dsimp only at hSw); go_simp; try with_reducible rfl)
  simp only [List.setIfInBounds_toArray, List.set_cons_zero, List.set_cons_succ]
  refine takeH_on 3 (v := ?_) rfl rfl (by kernel_rfl) (by kernel_rfl) (by kernel_rfl) (fun _ _ _ h => h) (by rfl) hS (fun w hSw => ?_) ?_
  rotate_left
  · ((try dsimp only at hSw); go_simp; try with_reducible rfl)
  simp only [List.setIfInBounds_toArray, List.set_cons_zero, List.set_cons_succ]
  refine takeH_on 4 (v := ?_) rfl rfl (by kernel_rfl) (by kernel_rfl) (by kernel_rfl) (fun _ _ _ h => h) (by rfl) hS (fun w hSw => ?_) ?_
  rotate_left
  · ((try dsimp only at hSw); go_simp; try with_reducible rfl)
  simp only [List.setIfInBounds_toArray, List.set_cons_zero, List.set_cons_succ]
  refine takeH_on 5 (v := ?_) rfl rfl (by kernel_rfl) (by kernel_rfl) (by kernel_rfl) (fun _ _ _ h => h) (by rfl) hS (fun w hSw => ?_) ?_
  rotate_left
  · ((try dsimp only at hSw); go_simp; try with_reducible rfl)
  simp only [List.setIfInBounds_toArray, List.set_cons_zero, List.set_cons_succ]
  refine takeH_on 6 (v := .string ⟨#[]⟩) rfl rfl (by kernel_rfl) (by kernel_rfl) (by kernel_rfl) (fun _ _ _ h => h) (by rfl) hS (fun w hSw => ?_) ?_
  · ((try dsimp only at hSw); go_simp; (try rfl))
  simp only [List.setIfInBounds_toArray, List.set_cons_zero, List.set_cons_succ]
  refine takeH_on 7 (v := ?_) rfl rfl (by kernel_rfl) (by kernel_rfl) (by kernel_rfl) (fun _ _ _ h => h) (by rfl) hS (fun w hSw => ?_) ?_
  rotate_left
  · ((try dsimp only at hSw); go_simp; try with_reducible rfl)
  simp only [List.setIfInBounds_toArray, List.set_cons_zero, List.set_cons_succ]
  refine takeH_on 8 (v := ?_) rfl rfl (by kernel_rfl) (by kernel_rfl) (by kernel_rfl) (fun _ _ _ h => h) (by rfl) hS (fun w hSw => ?_) ?_
  rotate_left
  · ((try dsimp only at hSw); go_simp; try with_reducible rfl)
  simp only [List.setIfInBounds_toArray, List.set_cons_zero, List.set_cons_succ]
  refine wpAnyH_ready (rs := [9]) (by kernel_rfl) (by simp) (AllReadyH.cons rfl (fun K hK => ?_) AllReadyH.nil)
  clear hS
  go_simp
  go_wp2_with fail
  refine (CI.out _ HD.out).mono ?_
  rintro e w5 ⟨rfl, hb⟩
  have HB5 := hid (HD.out.trans (hb.mono HD.out.size))
  clear hb
  refine Shut.out hK _ _ (SAT.out _ HB5.out) (fun hS => ?_)
  clear hK K
  refine takeH_on 10 (v := ?_) rfl rfl (by kernel_rfl) (by kernel_rfl) (by kernel_rfl) (fun _ _ _ h => h) (by rfl) hS (fun w hSw => ?_) ?_
  rotate_left
  · ((try dsimp only at hSw); go_simp; try with_reducible rfl)
  simp only [List.setIfInBounds_toArray, List.set_cons_zero, List.set_cons_succ]
  refine wpAnyH_ready (rs := [11]) (by kernel_rfl) (by simp) (AllReadyH.cons rfl (fun K hK => ?_) AllReadyH.nil)
  clear hS
  go_simp
  obtain ⟨w6, hw6⟩ : ∃ w6, w6 = w5.alloc (.cells #[.int .i64 id, .int .i64 (n : Int), .string ⟨#[]⟩, .int .i64 0, .slice none 0 0, .slice none 0 0, .int .i64 0, .slice none 0 0, .int .i64 0, .int .i64 0, .int .i64 0, .slice none 0 0, .slice none 0 0, .slice none 0 0, .slice none 0 0] 55) := ⟨_, rfl⟩
  rw [← hw6]
  have hal : Below w5.heap.size w5 w6 := by rw [hw6]; exact (Below.refl _ _).alloc (Nat.le_refl _) _
  have HD6 : Hid (w6.heap[w5.heap.size]? = some (.cells #[.int .i64 id, .int .i64 (n : Int), .string ⟨#[]⟩, .int .i64 0, .slice none 0 0, .slice none 0 0, .int .i64 0, .slice none 0 0, .int .i64 0, .int .i64 0, .int .i64 0, .slice none 0 0, .slice none 0 0, .slice none 0 0, .slice none 0 0] 55 (0, 0))) := by rw [hw6]; exact alloc_newR _ _
  have HB6 := hid (HB5.out.trans (hal.mono HB5.out.size))
  clear hw6 hal
  refine Shut.out hK _ _ (SAT.out _ HB6.out) (fun hS => ?_)
  clear hK K
  refine takeH_on 12 (v := ?_) rfl rfl (by kernel_rfl) (by kernel_rfl) (by kernel_rfl) (fun _ _ _ h => h) (by rfl) hS (fun w hSw => ?_) ?_
  rotate_left
  · ((try dsimp only at hSw); go_simp; try with_reducible rfl)
  simp only [List.setIfInBounds_toArray, List.set_cons_zero, List.set_cons_succ]
  refine wpAnyH_done (by kernel_rfl) ?_ _
  clear hS
  have HC6 := hid (HB3.out.trans (HB6.out.mono HB3.out.size))
  have hr6 := blk_belowR HR3.out HB6.out
  have hk6 := blk_belowR HK3.out HB6.out
  have x0 : w6.cell? ⟨w.heap.size, 0, none⟩ = some (.int .i64 id) := by rw [in_blockR hr6 0]; rfl
  have x1 : w6.cell? ⟨w.heap.size, 1, none⟩ = some (.string ⟨#[]⟩) := by rw [in_blockR hr6 1]; rfl
  have x2 : w6.cell? ⟨w.heap.size, 2, none⟩ = some (.bool false) := by rw [in_blockR hr6 2]; rfl
  have x3 : w6.cell? ⟨w.heap.size, 3, none⟩ = some (.int .i64 0) := by rw [in_blockR hr6 3]; rfl
  have x4 : w6.cell? ⟨w.heap.size, 4, none⟩ = some (.slice none 0 0) := by rw [in_blockR hr6 4]; rfl
  have x5 : w6.cell? ⟨w.heap.size, 5, none⟩ = some (.slice none 0 0) := by rw [in_blockR hr6 5]; rfl
  have x6 : w6.cell? ⟨w.heap.size, 6, none⟩ = some (.int .i64 0) := by rw [in_blockR hr6 6]; rfl
  have x7 : w6.cell? ⟨w.heap.size, 7, none⟩ = some (.slice none 0 0) := by rw [in_blockR hr6 7]; rfl
  have x8 : w6.cell? ⟨w.heap.size, 8, none⟩ = some (.int .i64 0) := by rw [in_blockR hr6 8]; rfl
  have x9 : w6.cell? ⟨w.heap.size, 9, none⟩ = some (.int .i64 0) := by rw [in_blockR hr6 9]; rfl
  have x10 : w6.cell? ⟨w.heap.size, 10, none⟩ = some (.int .i64 0) := by rw [in_blockR hr6 10]; rfl
  have x11 : w6.cell? ⟨w.heap.size, 11, none⟩ = some (.slice none 0 0) := by rw [in_blockR hr6 11]; rfl
  have x12 : w6.cell? ⟨w.heap.size, 12, none⟩ = some (.slice none 0 0) := by rw [in_blockR hr6 12]; rfl
  have x13 : w6.cell? ⟨w.heap.size, 13, none⟩ = some (.slice none 0 0) := by rw [in_blockR hr6 13]; rfl
  have y0 : w6.cell? ⟨w2.heap.size, 0, none⟩ = some (.int .i64 0) := by rw [in_blockR hk6 0]; rfl
  have y1 : w6.cell? ⟨w2.heap.size, 1, none⟩ = some (.slice none 0 0) := by rw [in_blockR hk6 1]; rfl
  have y2 : w6.cell? ⟨w2.heap.size, 2, none⟩ = some (.slice none 0 0) := by rw [in_blockR hk6 2]; rfl
  have l1 : w.heap.size < w6.heap.size := (Array.getElem?_eq_some_iff.1 hr6).1
  have l2 : w2.heap.size < w6.heap.size := (Array.getElem?_eq_some_iff.1 hk6).1
  have l3 : w5.heap.size < w6.heap.size := (Array.getElem?_eq_some_iff.1 HD6.out).1
  have n1 : ¬ w6.heap.size = w.heap.size := by omega
  have n2 : ¬ w.heap.size = w6.heap.size := by omega
  have n3 : ¬ w6.heap.size = w2.heap.size := by omega
  have n4 : ¬ w2.heap.size = w6.heap.size := by omega
  have HLE : Hid (w.heap.size ≤ w5.heap.size) := Nat.le_trans HB3.out.size HB5.out.size
  clear hr6 hk6
  go_wp2_with fail
  obtain ⟨w7, hw7⟩ : ∃ w7, w7 = w6.alloc (.cells #[.int .i64 0, .slice none 0 0, .slice none 0 0] 50) := ⟨_, rfl⟩
  rw [← hw7]
  have hal : Below w6.heap.size w6 w7 := by rw [hw7]; exact (Below.refl _ _).alloc (Nat.le_refl _) _
  refine (sameN w7).mono ?_
  rintro e w8 ⟨rfl, hb⟩
  have h68 := hal.trans (hb.mono hal.size)
  have HC8 := hid (HC6.out.trans (h68.mono HC6.out.size))
  have HD8 := hid (blk_belowR HD6.out h68)
  clear hb hal hw7 h68 l1 l2 l3 n1 n2 n3 n4 x0 x1 x2 x3 x4 x5 x6 x7 x8 x9 x10 x11 x12 x13 y0 y1 y2
  have d0 : w8.cell? ⟨w5.heap.size, 0, none⟩ = some (.int .i64 id) := by rw [in_blockR HD8.out 0]; rfl
  have d1 : w8.cell? ⟨w5.heap.size, 1, none⟩ = some (.int .i64 (n : Int)) := by rw [in_blockR HD8.out 1]; rfl
  have d2 : w8.cell? ⟨w5.heap.size, 2, none⟩ = some (.string ⟨#[]⟩) := by rw [in_blockR HD8.out 2]; rfl
  have d3 : w8.cell? ⟨w5.heap.size, 3, none⟩ = some (.int .i64 0) := by rw [in_blockR HD8.out 3]; rfl
  have d4 : w8.cell? ⟨w5.heap.size, 4, none⟩ = some (.slice none 0 0) := by rw [in_blockR HD8.out 4]; rfl
  have d5 : w8.cell? ⟨w5.heap.size, 5, none⟩ = some (.slice none 0 0) := by rw [in_blockR HD8.out 5]; rfl
  have d6 : w8.cell? ⟨w5.heap.size, 6, none⟩ = some (.int .i64 0) := by rw [in_blockR HD8.out 6]; rfl
  have d7 : w8.cell? ⟨w5.heap.size, 7, none⟩ = some (.slice none 0 0) := by rw [in_blockR HD8.out 7]; rfl
  have d8 : w8.cell? ⟨w5.heap.size, 8, none⟩ = some (.int .i64 0) := by rw [in_blockR HD8.out 8]; rfl
  have d9 : w8.cell? ⟨w5.heap.size, 9, none⟩ = some (.int .i64 0) := by rw [in_blockR HD8.out 9]; rfl
  have d10 : w8.cell? ⟨w5.heap.size, 10, none⟩ = some (.int .i64 0) := by rw [in_blockR HD8.out 10]; rfl
  have d11 : w8.cell? ⟨w5.heap.size, 11, none⟩ = some (.slice none 0 0) := by rw [in_blockR HD8.out 11]; rfl
  have d12 : w8.cell? ⟨w5.heap.size, 12, none⟩ = some (.slice none 0 0) := by rw [in_blockR HD8.out 12]; rfl
  have d13 : w8.cell? ⟨w5.heap.size, 13, none⟩ = some (.slice none 0 0) := by rw [in_blockR HD8.out 13]; rfl
  have d14 : w8.cell? ⟨w5.heap.size, 14, none⟩ = some (.slice none 0 0) := by rw [in_blockR HD8.out 14]; rfl
  go_wp2_with fail
  refine (nothingN w8).mono ?_
  rintro e w9 ⟨rfl, hb⟩
  have HC9 := hid (HC8.out.trans (hb.mono HC8.out.size))
  have HD9 := hid (blk_belowR HD8.out hb)
  clear hb d0 d1 d2 d3 d4 d5 d6 d7 d8 d9 d10 d11 d12 d13 d14
  go_wp2
  go_ret2
  exact ⟨⟨_, rfl, HLE.out, HD9.out⟩, HC9.out⟩

end Go.Proofs.YtplbfllhimcpiaaGreatDoor
