/- DERIVED. The draw of FnRepNew, and the law at every code. -/
import Derived.Test.YtplbfllhimcpiaaGreatDoorRepFin2
import Derived.Test.YtplbfllhimcpiaaGreatDoorDrawHost2
namespace Go.Proofs.YtplbfllhimcpiaaGreatDoor
open Go.RowKit

theorem ints_five (W : World) : IntsAt (W.alloc (.cells #[.int .i64 10, .int .i64 11, .int .i64 12, .int .i64 9, .int .i64 13] 3)) W.heap.size 5 9 13 := by
  refine ints_new W _ _ _ 5 9 13 rfl (by rfl) ?_
  intro v hv
  simp at hv
  rcases hv with rfl | rfl | rfl | rfl | rfl <;> simp [intOk]

set_option maxRecDepth 100000 in
set_option maxHeartbeats 1600000 in
theorem drawRep_any (oa : Option Addr) (len cap : Nat) (w : World) (h : CodeAt w oa len) (hc : len ≤ cap) (hm : cap ≤ maxLen) :
    Calls Tryz.prog 4 #[.slice oa len cap] w fun ee w' => (∃ id many : Int, ee = .returned (.tuple #[.int .i64 id, .int .i64 many]) ∧ 9 ≤ id ∧ id ≤ 13 ∧ 0 ≤ many ∧ many < 5) ∧ Below w.heap.size w w' := by
  have HC := hid h
  clear h
  go_enter Tryz.func4, Tryz.ntmps4
  go_wp2_with fail
  refine (open_any oa len cap _ HC.out hc hm).mono ?_
  rintro e w1 ⟨rfl, ⟨l1, k1, hr1⟩, hb1⟩
  have HB1 := hid hb1
  have HR1 := hid hr1
  have hR1 := hr1.old
  clear hb1 hr1
  go_wp2_with fail
  refine (one_any w.heap.size _ 5 9 13 oa l1 k1 0 _ (HR1.out.keep ((Below.refl _ _).alloc (Nat.le_refl _) _)) (by omega) (by decide) (by decide) ?_ ?_ (ints_five _)).mono ?_
  · simp
  · omega
  rintro e w2 ⟨⟨z, rfl, hz0, hz1⟩, hd⟩
  have HD2 : Hid (Drawn w.heap.size oa l1 k1 1 w1 w2) := ⟨hd.1, (Keeps.of_below ((Below.refl _ _).alloc (Nat.le_refl _) _) hR1).trans hd.2⟩
  clear hd hR1
  go_wp2_with fail
  refine (pick_any w.heap.size oa l1 k1 1 5 _ HD2.out.1 (by omega) (by decide)).mono ?_
  rintro e w3 ⟨⟨x, rfl, hx0, hx1⟩, hd⟩
  have HK3 := hid (HD2.out.2.trans hd.2)
  clear hd
  go_wp2
  go_ret2
  exact ⟨⟨z, x, rfl, hz0, hz1, hx0, hx1⟩, HK3.out.below w.heap.size w (Nat.le_refl _) HB1.out⟩

set_option maxRecDepth 100000 in
set_option maxHeartbeats 12800000 in
theorem law_any (oa : Option Addr) (len cap : Nat) (w : World) (h : CodeAt w oa len) (hc : len ≤ cap) (hm : cap ≤ maxLen) (ht : Tab w) :
    Calls Tryz.prog 3 #[.slice oa len cap] w fun e w' => e = .returned (.bool true) ∧ Below w.heap.size w w' := by
  by_cases hbig : (len : Int) > 1048576
  · clear h ht
    go_enter Tryz.func3, Tryz.ntmps3
    go_wp2
    go_ret
    exact ⟨rfl, Below.refl _ _⟩
  have hlen : len ≤ 1048576 := by omega
  have HC := hid h
  have HT0 := hid ht
  clear h ht
  go_enter Tryz.func3, Tryz.ntmps3
  go_wp2_with fail
  refine (drawRep_any oa len cap _ HC.out hc hm).mono ?_
  rintro e w1 ⟨⟨id, many, rfl, hz0, hz1, hx0, hx1⟩, hb1⟩
  have HB := hid hb1
  have HT := hid (HT0.out.below HB.out)
  have HB1 : Hid (Below w1.heap.size w1 w1) := Below.refl _ _
  clear hb1 HC hlen hbig HT0
  by_cases hf : 10 ≤ id ∧ id ≤ 12 ∧ 1 ≤ many ∧ many ≤ 3
  · obtain ⟨n, rfl⟩ : ∃ n : Nat, many = (n : Int) := ⟨many.toNat, by omega⟩
    have h1 : 1 ≤ n := by have := hf.2.2.1; omega
    have h3 : n ≤ 3 := by have := hf.2.2.2; omega
    have hi1 : 10 ≤ id := hf.1
    have hi2 : id ≤ 12 := hf.2.1
    have hi : inB id 10 12 = true := by simp [inB]; omega
    have HLN : Hid (n = (noneL n).length) := by show _ = _; simp [noneL]
    have g1 : id < 13 := by omega
    have g2 : 1 ≤ (n : Int) := by omega
    have g3 : (n : Int) ≤ 3 := by omega
    clear hf hz0 hz1 hx0 hx1
    go_wp2_with fail
    refine (implNew_yes id n w1 hi h1 h3).mono ?_
    rintro e w2 ⟨v, rfl, hrow, hb⟩
    obtain ⟨g, cp, rfl, hg⟩ : ∃ g cp, v = .slice (some ⟨g, 0, none⟩) n cp ∧ g < w2.heap.size := by
      rcases hrow.2 with ⟨_, h0⟩ | ⟨g, cp, cur, e1, _, hcur, _⟩
      · omega
      · exact ⟨g, cp, e1, (Array.getElem?_eq_some_iff.1 hcur).1⟩
    have HB2 := hid (HB1.out.trans (hb.mono HB1.out.size))
    have HROW2 := hid hrow
    clear hrow hb hg
    go_wp2_with fail
    obtain ⟨w3, hw3⟩ : ∃ x, x = w2.alloc (.cells #[.int .i64 id, .string ⟨#[]⟩, .bool true, .int .i64 0, .slice none 0 0, .slice none 0 0, .int .i64 0, .slice none 0 0, .int .i64 0, .int .i64 0, .int .i64 0, .slice (some ⟨g, 0, none⟩) n cp, .slice none 0 0, .slice none 0 0] 28) := ⟨_, rfl⟩
    rw [← hw3]
    have hal : Below w2.heap.size w2 w3 := by rw [hw3]; exact (Below.refl _ _).alloc (Nat.le_refl _) _
    have HK3 : Hid (w3.heap[w2.heap.size]? = some (.cells #[.int .i64 id, .string ⟨#[]⟩, .bool true, .int .i64 0, .slice none 0 0, .slice none 0 0, .int .i64 0, .slice none 0 0, .int .i64 0, .int .i64 0, .int .i64 0, .slice (some ⟨g, 0, none⟩) n cp, .slice none 0 0, .slice none 0 0] 28 (0, 0))) := by rw [hw3]; exact alloc_newR _ _
    have HB3 := hid (HB2.out.trans (hal.mono HB2.out.size))
    have HN3 := hid (noneRow (row_below HROW2.out hal))
    have HROW3 := hid (row_below HROW2.out hal)
    clear hw3 hal
    have x0 : w3.cell? ⟨w2.heap.size, 0, none⟩ = some (.int .i64 id) := by rw [in_blockR HK3.out 0]; rfl
    have x1 : w3.cell? ⟨w2.heap.size, 1, none⟩ = some (.string ⟨#[]⟩) := by rw [in_blockR HK3.out 1]; rfl
    have x2 : w3.cell? ⟨w2.heap.size, 2, none⟩ = some (.bool true) := by rw [in_blockR HK3.out 2]; rfl
    have x3 : w3.cell? ⟨w2.heap.size, 3, none⟩ = some (.int .i64 0) := by rw [in_blockR HK3.out 3]; rfl
    have x4 : w3.cell? ⟨w2.heap.size, 4, none⟩ = some (.slice none 0 0) := by rw [in_blockR HK3.out 4]; rfl
    have x5 : w3.cell? ⟨w2.heap.size, 5, none⟩ = some (.slice none 0 0) := by rw [in_blockR HK3.out 5]; rfl
    have x6 : w3.cell? ⟨w2.heap.size, 6, none⟩ = some (.int .i64 0) := by rw [in_blockR HK3.out 6]; rfl
    have x7 : w3.cell? ⟨w2.heap.size, 7, none⟩ = some (.slice none 0 0) := by rw [in_blockR HK3.out 7]; rfl
    have x8 : w3.cell? ⟨w2.heap.size, 8, none⟩ = some (.int .i64 0) := by rw [in_blockR HK3.out 8]; rfl
    have x9 : w3.cell? ⟨w2.heap.size, 9, none⟩ = some (.int .i64 0) := by rw [in_blockR HK3.out 9]; rfl
    have x10 : w3.cell? ⟨w2.heap.size, 10, none⟩ = some (.int .i64 0) := by rw [in_blockR HK3.out 10]; rfl
    have x11 : w3.cell? ⟨w2.heap.size, 11, none⟩ = some (.slice (some ⟨g, 0, none⟩) n cp) := by rw [in_blockR HK3.out 11]; rfl
    have x12 : w3.cell? ⟨w2.heap.size, 12, none⟩ = some (.slice none 0 0) := by rw [in_blockR HK3.out 12]; rfl
    have x13 : w3.cell? ⟨w2.heap.size, 13, none⟩ = some (.slice none 0 0) := by rw [in_blockR HK3.out 13]; rfl
    have SAT : Hid (∀ w', Below w3.heap.size w3 w' → w'.cell? ⟨w2.heap.size, 0, none⟩ = some (.int .i64 id) ∧ w'.cell? ⟨w2.heap.size, 1, none⟩ = some (.string ⟨#[]⟩) ∧ w'.cell? ⟨w2.heap.size, 2, none⟩ = some (.bool true) ∧ w'.cell? ⟨w2.heap.size, 3, none⟩ = some (.int .i64 0) ∧ w'.cell? ⟨w2.heap.size, 4, none⟩ = some (.slice none 0 0) ∧ w'.cell? ⟨w2.heap.size, 5, none⟩ = some (.slice none 0 0) ∧ w'.cell? ⟨w2.heap.size, 6, none⟩ = some (.int .i64 0) ∧ w'.cell? ⟨w2.heap.size, 7, none⟩ = some (.slice none 0 0) ∧ w'.cell? ⟨w2.heap.size, 8, none⟩ = some (.int .i64 0) ∧ w'.cell? ⟨w2.heap.size, 9, none⟩ = some (.int .i64 0) ∧ w'.cell? ⟨w2.heap.size, 10, none⟩ = some (.int .i64 0) ∧ w'.cell? ⟨w2.heap.size, 11, none⟩ = some (.slice (some ⟨g, 0, none⟩) n cp) ∧ w'.cell? ⟨w2.heap.size, 12, none⟩ = some (.slice none 0 0) ∧ w'.cell? ⟨w2.heap.size, 13, none⟩ = some (.slice none 0 0)) := fun w' hb => ⟨(hb.cell (p := ⟨w2.heap.size, 0, none⟩) (Array.getElem?_eq_some_iff.1 HK3.out).1).trans x0, (hb.cell (p := ⟨w2.heap.size, 1, none⟩) (Array.getElem?_eq_some_iff.1 HK3.out).1).trans x1, (hb.cell (p := ⟨w2.heap.size, 2, none⟩) (Array.getElem?_eq_some_iff.1 HK3.out).1).trans x2, (hb.cell (p := ⟨w2.heap.size, 3, none⟩) (Array.getElem?_eq_some_iff.1 HK3.out).1).trans x3, (hb.cell (p := ⟨w2.heap.size, 4, none⟩) (Array.getElem?_eq_some_iff.1 HK3.out).1).trans x4, (hb.cell (p := ⟨w2.heap.size, 5, none⟩) (Array.getElem?_eq_some_iff.1 HK3.out).1).trans x5, (hb.cell (p := ⟨w2.heap.size, 6, none⟩) (Array.getElem?_eq_some_iff.1 HK3.out).1).trans x6, (hb.cell (p := ⟨w2.heap.size, 7, none⟩) (Array.getElem?_eq_some_iff.1 HK3.out).1).trans x7, (hb.cell (p := ⟨w2.heap.size, 8, none⟩) (Array.getElem?_eq_some_iff.1 HK3.out).1).trans x8, (hb.cell (p := ⟨w2.heap.size, 9, none⟩) (Array.getElem?_eq_some_iff.1 HK3.out).1).trans x9, (hb.cell (p := ⟨w2.heap.size, 10, none⟩) (Array.getElem?_eq_some_iff.1 HK3.out).1).trans x10, (hb.cell (p := ⟨w2.heap.size, 11, none⟩) (Array.getElem?_eq_some_iff.1 HK3.out).1).trans x11, (hb.cell (p := ⟨w2.heap.size, 12, none⟩) (Array.getElem?_eq_some_iff.1 HK3.out).1).trans x12, (hb.cell (p := ⟨w2.heap.size, 13, none⟩) (Array.getElem?_eq_some_iff.1 HK3.out).1).trans x13⟩
    clear x0 x1 x2 x3 x4 x5 x6 x7 x8 x9 x10 x11 x12 x13
    have HD : Hid (Below w3.heap.size w3 w3.drew) := (Below.refl _ _).drew
    refine wp_region_held_drew (S := (fun w' => w'.cell? ⟨w2.heap.size, 0, none⟩ = some (.int .i64 id) ∧ w'.cell? ⟨w2.heap.size, 1, none⟩ = some (.string ⟨#[]⟩) ∧ w'.cell? ⟨w2.heap.size, 2, none⟩ = some (.bool true) ∧ w'.cell? ⟨w2.heap.size, 3, none⟩ = some (.int .i64 0) ∧ w'.cell? ⟨w2.heap.size, 4, none⟩ = some (.slice none 0 0) ∧ w'.cell? ⟨w2.heap.size, 5, none⟩ = some (.slice none 0 0) ∧ w'.cell? ⟨w2.heap.size, 6, none⟩ = some (.int .i64 0) ∧ w'.cell? ⟨w2.heap.size, 7, none⟩ = some (.slice none 0 0) ∧ w'.cell? ⟨w2.heap.size, 8, none⟩ = some (.int .i64 0) ∧ w'.cell? ⟨w2.heap.size, 9, none⟩ = some (.int .i64 0) ∧ w'.cell? ⟨w2.heap.size, 10, none⟩ = some (.int .i64 0) ∧ w'.cell? ⟨w2.heap.size, 11, none⟩ = some (.slice (some ⟨g, 0, none⟩) n cp) ∧ w'.cell? ⟨w2.heap.size, 12, none⟩ = some (.slice none 0 0) ∧ w'.cell? ⟨w2.heap.size, 13, none⟩ = some (.slice none 0 0))) (by kernel_rfl) ?_ (fun hS => ?_)
    · exact (SAT.out _ HD.out)
    obtain ⟨w3d, hw3d⟩ : ∃ x, x = w3.drew := ⟨_, rfl⟩
    rw [← hw3d] at hS HD ⊢
    clear hw3d
    refine takeH_on 0 (v := ?_) rfl rfl (by kernel_rfl) (by kernel_rfl) (by kernel_rfl) (fun _ _ _ h => h) (by rfl) hS (fun w hSw => ?_) ?_
    rotate_left
    · ((try dsimp only at hSw); go_simp; try with_reducible rfl)
    simp only [List.setIfInBounds_toArray, List.set_cons_zero, List.set_cons_succ]
    refine takeH_on 1 (v := ?_) rfl rfl (by kernel_rfl) (by kernel_rfl) (by kernel_rfl) (fun _ _ _ h => h) (by rfl) hS (fun w hSw => ?_) ?_
    rotate_left
    · ((try dsimp only at hSw); go_simp; try with_reducible rfl)
    simp only [List.setIfInBounds_toArray, List.set_cons_zero, List.set_cons_succ]
    refine takeH_on 2 (v := ?_) rfl rfl (by kernel_rfl) (by kernel_rfl) (by kernel_rfl) (fun _ _ _ h => h) (by rfl) hS (fun w hSw => ?_) ?_
    rotate_left
    · ((try dsimp only at hSw); go_simp; try with_reducible rfl)
    simp only [List.setIfInBounds_toArray, List.set_cons_zero, List.set_cons_succ]
    refine wpAnyH_ready (rs := [3]) (by kernel_rfl) (by simp) (AllReadyH.cons rfl (fun K hK => ?_) AllReadyH.nil)
    clear hS
    go_simp
    go_wp2_with fail
    refine (specNew_yes id n _ hi h1 h3).mono ?_
    rintro e w4 ⟨v4, rfl, hrow, hb⟩
    obtain ⟨ov4, cv4, rfl⟩ := row_shape hrow
    have HB4 := hid (HD.out.trans (hb.mono HD.out.size))
    have HN4 := hid (noneRow hrow)
    clear hrow hb
    refine Shut.out hK _ _ (SAT.out _ HB4.out) (fun hS => ?_)
    clear hK K
    refine wpAnyH_ready (rs := [4]) (by kernel_rfl) (by simp) (AllReadyH.cons rfl (fun K hK => ?_) AllReadyH.nil)
    clear hS
    go_simp
    go_wp2_with fail
    refine (fmRep_same id true (some ⟨g, 0, none⟩) ov4 cp cv4 n (noneL n) w4 HLN.out (by omega) (HN3.out.below HB4.out) HN4.out).mono ?_
    rintro e w5 ⟨rfl, hb⟩
    have HB5 := hid (HB4.out.trans (hb.mono HB4.out.size))
    clear hb
    refine Shut.out hK _ _ (SAT.out _ HB5.out) (fun hS => ?_)
    clear hK K
    refine takeH_on 5 (v := ?_) rfl rfl (by kernel_rfl) (by kernel_rfl) (by kernel_rfl) (fun _ _ _ h => h) (by rfl) hS (fun w hSw => ?_) ?_
    rotate_left
    · ((try dsimp only at hSw); go_simp; try with_reducible rfl)
    simp only [List.setIfInBounds_toArray, List.set_cons_zero, List.set_cons_succ]
    refine wpAnyH_done (by kernel_rfl) ?_ _
    clear hS
    have HC5 := hid HB5.out
    have HK5 := hid (blk_belowR HK3.out HB5.out)
    have HTW : Hid (∀ W, Below w5.heap.size w5 W → Tab W) := fun W hb => ((HT.out.below HB3.out).below HC5.out).below hb
    have HROW : Hid (∀ W, Below w5.heap.size w5 W → W.ownsRow w1.heap.size 3 1 (.slice (some ⟨g, 0, none⟩) n cp) n ((noneL n).map (Value.int .i64))) := fun W hb => row_below (row_below HROW3.out HC5.out) hb
    have x0 : w5.cell? ⟨w2.heap.size, 0, none⟩ = some (.int .i64 id) := by rw [in_blockR HK5.out 0]; rfl
    have x1 : w5.cell? ⟨w2.heap.size, 1, none⟩ = some (.string ⟨#[]⟩) := by rw [in_blockR HK5.out 1]; rfl
    have x2 : w5.cell? ⟨w2.heap.size, 2, none⟩ = some (.bool true) := by rw [in_blockR HK5.out 2]; rfl
    have x3 : w5.cell? ⟨w2.heap.size, 3, none⟩ = some (.int .i64 0) := by rw [in_blockR HK5.out 3]; rfl
    have x4 : w5.cell? ⟨w2.heap.size, 4, none⟩ = some (.slice none 0 0) := by rw [in_blockR HK5.out 4]; rfl
    have x5 : w5.cell? ⟨w2.heap.size, 5, none⟩ = some (.slice none 0 0) := by rw [in_blockR HK5.out 5]; rfl
    have x6 : w5.cell? ⟨w2.heap.size, 6, none⟩ = some (.int .i64 0) := by rw [in_blockR HK5.out 6]; rfl
    have x7 : w5.cell? ⟨w2.heap.size, 7, none⟩ = some (.slice none 0 0) := by rw [in_blockR HK5.out 7]; rfl
    have x8 : w5.cell? ⟨w2.heap.size, 8, none⟩ = some (.int .i64 0) := by rw [in_blockR HK5.out 8]; rfl
    have x9 : w5.cell? ⟨w2.heap.size, 9, none⟩ = some (.int .i64 0) := by rw [in_blockR HK5.out 9]; rfl
    have x10 : w5.cell? ⟨w2.heap.size, 10, none⟩ = some (.int .i64 0) := by rw [in_blockR HK5.out 10]; rfl
    have x11 : w5.cell? ⟨w2.heap.size, 11, none⟩ = some (.slice (some ⟨g, 0, none⟩) n cp) := by rw [in_blockR HK5.out 11]; rfl
    have x12 : w5.cell? ⟨w2.heap.size, 12, none⟩ = some (.slice none 0 0) := by rw [in_blockR HK5.out 12]; rfl
    have x13 : w5.cell? ⟨w2.heap.size, 13, none⟩ = some (.slice none 0 0) := by rw [in_blockR HK5.out 13]; rfl
    have SAT2 : Hid (∀ w', Below w5.heap.size w5 w' → w'.cell? ⟨w2.heap.size, 0, none⟩ = some (.int .i64 id) ∧ w'.cell? ⟨w2.heap.size, 1, none⟩ = some (.string ⟨#[]⟩) ∧ w'.cell? ⟨w2.heap.size, 2, none⟩ = some (.bool true) ∧ w'.cell? ⟨w2.heap.size, 3, none⟩ = some (.int .i64 0) ∧ w'.cell? ⟨w2.heap.size, 4, none⟩ = some (.slice none 0 0) ∧ w'.cell? ⟨w2.heap.size, 5, none⟩ = some (.slice none 0 0) ∧ w'.cell? ⟨w2.heap.size, 6, none⟩ = some (.int .i64 0) ∧ w'.cell? ⟨w2.heap.size, 7, none⟩ = some (.slice none 0 0) ∧ w'.cell? ⟨w2.heap.size, 8, none⟩ = some (.int .i64 0) ∧ w'.cell? ⟨w2.heap.size, 9, none⟩ = some (.int .i64 0) ∧ w'.cell? ⟨w2.heap.size, 10, none⟩ = some (.int .i64 0) ∧ w'.cell? ⟨w2.heap.size, 11, none⟩ = some (.slice (some ⟨g, 0, none⟩) n cp) ∧ w'.cell? ⟨w2.heap.size, 12, none⟩ = some (.slice none 0 0) ∧ w'.cell? ⟨w2.heap.size, 13, none⟩ = some (.slice none 0 0)) := fun w' hb => ⟨(hb.cell (p := ⟨w2.heap.size, 0, none⟩) (Array.getElem?_eq_some_iff.1 HK5.out).1).trans x0, (hb.cell (p := ⟨w2.heap.size, 1, none⟩) (Array.getElem?_eq_some_iff.1 HK5.out).1).trans x1, (hb.cell (p := ⟨w2.heap.size, 2, none⟩) (Array.getElem?_eq_some_iff.1 HK5.out).1).trans x2, (hb.cell (p := ⟨w2.heap.size, 3, none⟩) (Array.getElem?_eq_some_iff.1 HK5.out).1).trans x3, (hb.cell (p := ⟨w2.heap.size, 4, none⟩) (Array.getElem?_eq_some_iff.1 HK5.out).1).trans x4, (hb.cell (p := ⟨w2.heap.size, 5, none⟩) (Array.getElem?_eq_some_iff.1 HK5.out).1).trans x5, (hb.cell (p := ⟨w2.heap.size, 6, none⟩) (Array.getElem?_eq_some_iff.1 HK5.out).1).trans x6, (hb.cell (p := ⟨w2.heap.size, 7, none⟩) (Array.getElem?_eq_some_iff.1 HK5.out).1).trans x7, (hb.cell (p := ⟨w2.heap.size, 8, none⟩) (Array.getElem?_eq_some_iff.1 HK5.out).1).trans x8, (hb.cell (p := ⟨w2.heap.size, 9, none⟩) (Array.getElem?_eq_some_iff.1 HK5.out).1).trans x9, (hb.cell (p := ⟨w2.heap.size, 10, none⟩) (Array.getElem?_eq_some_iff.1 HK5.out).1).trans x10, (hb.cell (p := ⟨w2.heap.size, 11, none⟩) (Array.getElem?_eq_some_iff.1 HK5.out).1).trans x11, (hb.cell (p := ⟨w2.heap.size, 12, none⟩) (Array.getElem?_eq_some_iff.1 HK5.out).1).trans x12, (hb.cell (p := ⟨w2.heap.size, 13, none⟩) (Array.getElem?_eq_some_iff.1 HK5.out).1).trans x13⟩
    clear x0 x1 x2 x3 x4 x5 x6 x7 x8 x9 x10 x11 x12 x13
    have HD6 : Hid (Below w5.heap.size w5 w5.drew) := (Below.refl _ _).drew
    go_wp2_with fail
    refine wp_region_held_drew (S := (fun w' => w'.cell? ⟨w2.heap.size, 0, none⟩ = some (.int .i64 id) ∧ w'.cell? ⟨w2.heap.size, 1, none⟩ = some (.string ⟨#[]⟩) ∧ w'.cell? ⟨w2.heap.size, 2, none⟩ = some (.bool true) ∧ w'.cell? ⟨w2.heap.size, 3, none⟩ = some (.int .i64 0) ∧ w'.cell? ⟨w2.heap.size, 4, none⟩ = some (.slice none 0 0) ∧ w'.cell? ⟨w2.heap.size, 5, none⟩ = some (.slice none 0 0) ∧ w'.cell? ⟨w2.heap.size, 6, none⟩ = some (.int .i64 0) ∧ w'.cell? ⟨w2.heap.size, 7, none⟩ = some (.slice none 0 0) ∧ w'.cell? ⟨w2.heap.size, 8, none⟩ = some (.int .i64 0) ∧ w'.cell? ⟨w2.heap.size, 9, none⟩ = some (.int .i64 0) ∧ w'.cell? ⟨w2.heap.size, 10, none⟩ = some (.int .i64 0) ∧ w'.cell? ⟨w2.heap.size, 11, none⟩ = some (.slice (some ⟨g, 0, none⟩) n cp) ∧ w'.cell? ⟨w2.heap.size, 12, none⟩ = some (.slice none 0 0) ∧ w'.cell? ⟨w2.heap.size, 13, none⟩ = some (.slice none 0 0))) (by kernel_rfl) ?_ (fun hS => ?_)
    · exact (SAT2.out _ HD6.out)
    obtain ⟨w6, hw6⟩ : ∃ x, x = w5.drew := ⟨_, rfl⟩
    rw [← hw6] at hS HD6 ⊢
    clear hw6
    refine takeH_on 0 (v := ?_) rfl rfl (by kernel_rfl) (by kernel_rfl) (by kernel_rfl) (fun _ _ _ h => h) (by rfl) hS (fun w hSw => ?_) ?_
    rotate_left
    · ((try dsimp only at hSw); go_simp; try with_reducible rfl)
    simp only [List.setIfInBounds_toArray, List.set_cons_zero, List.set_cons_succ]
    refine takeH_on 1 (v := ?_) rfl rfl (by kernel_rfl) (by kernel_rfl) (by kernel_rfl) (fun _ _ _ h => h) (by rfl) hS (fun w hSw => ?_) ?_
    rotate_left
    · ((try dsimp only at hSw); go_simp; try with_reducible rfl)
    simp only [List.setIfInBounds_toArray, List.set_cons_zero, List.set_cons_succ]
    refine takeH_on 2 (v := ?_) rfl rfl (by kernel_rfl) (by kernel_rfl) (by kernel_rfl) (fun _ _ _ h => h) (by rfl) hS (fun w hSw => ?_) ?_
    rotate_left
    · ((try dsimp only at hSw); go_simp; try with_reducible rfl)
    simp only [List.setIfInBounds_toArray, List.set_cons_zero, List.set_cons_succ]
    refine takeH_on 3 (v := .bool true) rfl rfl (by kernel_rfl) (by kernel_rfl) (by kernel_rfl) (fun _ _ _ h => h) (by rfl) hS (fun w hSw => ?_) ?_
    · ((try dsimp only at hSw); go_simp; (try simp))
    simp only [List.setIfInBounds_toArray, List.set_cons_zero, List.set_cons_succ]
    refine takeH_on 4 (v := ?_) rfl rfl (by kernel_rfl) (by kernel_rfl) (by kernel_rfl) (fun _ _ _ h => h) (by rfl) hS (fun w hSw => ?_) ?_
    rotate_left
    · ((try dsimp only at hSw); go_simp; try with_reducible rfl)
    simp only [List.setIfInBounds_toArray, List.set_cons_zero, List.set_cons_succ]
    refine takeH_on 5 (v := ?_) rfl rfl (by kernel_rfl) (by kernel_rfl) (by kernel_rfl) (fun _ _ _ h => h) (by rfl) hS (fun w hSw => ?_) ?_
    rotate_left
    · ((try dsimp only at hSw); go_simp; try with_reducible rfl)
    simp only [List.setIfInBounds_toArray, List.set_cons_zero, List.set_cons_succ]
    refine takeH_on 6 (v := ?_) rfl rfl (by kernel_rfl) (by kernel_rfl) (by kernel_rfl) (fun _ _ _ h => h) (by rfl) hS (fun w hSw => ?_) ?_
    rotate_left
    · ((try dsimp only at hSw); go_simp; try with_reducible rfl)
    simp only [List.setIfInBounds_toArray, List.set_cons_zero, List.set_cons_succ]
    refine takeH_on 7 (v := ?_) rfl rfl (by kernel_rfl) (by kernel_rfl) (by kernel_rfl) (fun _ _ _ h => h) (by rfl) hS (fun w hSw => ?_) ?_
    rotate_left
    · ((try dsimp only at hSw); go_simp; try with_reducible rfl)
    simp only [List.setIfInBounds_toArray, List.set_cons_zero, List.set_cons_succ]
    refine takeH_on 8 (v := ?_) rfl rfl (by kernel_rfl) (by kernel_rfl) (by kernel_rfl) (fun _ _ _ h => h) (by rfl) hS (fun w hSw => ?_) ?_
    rotate_left
    · ((try dsimp only at hSw); go_simp; try with_reducible rfl)
    simp only [List.setIfInBounds_toArray, List.set_cons_zero, List.set_cons_succ]
    refine takeH_on 9 (v := ?_) rfl rfl (by kernel_rfl) (by kernel_rfl) (by kernel_rfl) (fun _ _ _ h => h) (by rfl) hS (fun w hSw => ?_) ?_
    rotate_left
    · ((try dsimp only at hSw); go_simp; try with_reducible rfl)
    simp only [List.setIfInBounds_toArray, List.set_cons_zero, List.set_cons_succ]
    refine wpAnyH_ready (rs := [10]) (by kernel_rfl) (by simp) (AllReadyH.cons rfl (fun K hK => ?_) AllReadyH.nil)
    clear hS
    go_simp
    go_wp2_with fail
    refine (repOkN g n cp w1.heap.size id _ (HTW.out _ HD6.out) h1 h3 hi1 hi2 (HROW.out _ HD6.out)).mono ?_
    rintro e w7 ⟨rfl, hb⟩
    have HB7 := hid (HD6.out.trans (hb.mono HD6.out.size))
    clear hb
    refine Shut.out hK _ _ (SAT2.out _ HB7.out) (fun hS => ?_)
    clear hK K
    refine takeH_on 11 (v := ?_) rfl rfl (by kernel_rfl) (by kernel_rfl) (by kernel_rfl) (fun _ _ _ h => h) (by rfl) hS (fun w hSw => ?_) ?_
    rotate_left
    · ((try dsimp only at hSw); go_simp; try with_reducible rfl)
    simp only [List.setIfInBounds_toArray, List.set_cons_zero, List.set_cons_succ]
    refine takeH_on 12 (v := ?_) rfl rfl (by kernel_rfl) (by kernel_rfl) (by kernel_rfl) (fun _ _ _ h => h) (by rfl) hS (fun w hSw => ?_) ?_
    rotate_left
    · ((try dsimp only at hSw); go_simp; try with_reducible rfl)
    simp only [List.setIfInBounds_toArray, List.set_cons_zero, List.set_cons_succ]
    refine takeH_on 13 (v := ?_) rfl rfl (by kernel_rfl) (by kernel_rfl) (by kernel_rfl) (fun _ _ _ h => h) (by rfl) hS (fun w hSw => ?_) ?_
    rotate_left
    · ((try dsimp only at hSw); go_simp; try with_reducible rfl)
    simp only [List.setIfInBounds_toArray, List.set_cons_zero, List.set_cons_succ]
    refine takeH_on 14 (v := .bool true) rfl rfl (by kernel_rfl) (by kernel_rfl) (by kernel_rfl) (fun _ _ _ h => h) (by rfl) hS (fun w hSw => ?_) ?_
    · ((try dsimp only at hSw); go_simp; (try simp))
    simp only [List.setIfInBounds_toArray, List.set_cons_zero, List.set_cons_succ]
    refine takeH_on 15 (v := ?_) rfl rfl (by kernel_rfl) (by kernel_rfl) (by kernel_rfl) (fun _ _ _ h => h) (by rfl) hS (fun w hSw => ?_) ?_
    rotate_left
    · ((try dsimp only at hSw); go_simp; try with_reducible rfl)
    simp only [List.setIfInBounds_toArray, List.set_cons_zero, List.set_cons_succ]
    refine takeH_on 16 (v := ?_) rfl rfl (by kernel_rfl) (by kernel_rfl) (by kernel_rfl) (fun _ _ _ h => h) (by rfl) hS (fun w hSw => ?_) ?_
    rotate_left
    · ((try dsimp only at hSw); go_simp; try with_reducible rfl)
    simp only [List.setIfInBounds_toArray, List.set_cons_zero, List.set_cons_succ]
    refine takeH_on 17 (v := ?_) rfl rfl (by kernel_rfl) (by kernel_rfl) (by kernel_rfl) (fun _ _ _ h => h) (by rfl) hS (fun w hSw => ?_) ?_
    rotate_left
    · ((try dsimp only at hSw); go_simp; try with_reducible rfl)
    simp only [List.setIfInBounds_toArray, List.set_cons_zero, List.set_cons_succ]
    refine takeH_on 18 (v := ?_) rfl rfl (by kernel_rfl) (by kernel_rfl) (by kernel_rfl) (fun _ _ _ h => h) (by rfl) hS (fun w hSw => ?_) ?_
    rotate_left
    · ((try dsimp only at hSw); go_simp; try with_reducible rfl)
    simp only [List.setIfInBounds_toArray, List.set_cons_zero, List.set_cons_succ]
    refine takeH_on 19 (v := ?_) rfl rfl (by kernel_rfl) (by kernel_rfl) (by kernel_rfl) (fun _ _ _ h => h) (by rfl) hS (fun w hSw => ?_) ?_
    rotate_left
    · ((try dsimp only at hSw); go_simp; try with_reducible rfl)
    simp only [List.setIfInBounds_toArray, List.set_cons_zero, List.set_cons_succ]
    refine takeH_on 20 (v := ?_) rfl rfl (by kernel_rfl) (by kernel_rfl) (by kernel_rfl) (fun _ _ _ h => h) (by rfl) hS (fun w hSw => ?_) ?_
    rotate_left
    · ((try dsimp only at hSw); go_simp; try with_reducible rfl)
    simp only [List.setIfInBounds_toArray, List.set_cons_zero, List.set_cons_succ]
    refine takeH_on 21 (v := .bool true) rfl rfl (by kernel_rfl) (by kernel_rfl) (by kernel_rfl) (fun _ _ _ h => h) (by rfl) hS (fun w hSw => ?_) ?_
    · ((try dsimp only at hSw); go_simp; (try simp))
    simp only [List.setIfInBounds_toArray, List.set_cons_zero, List.set_cons_succ]
    refine takeH_on 22 (v := ?_) rfl rfl (by kernel_rfl) (by kernel_rfl) (by kernel_rfl) (fun _ _ _ h => h) (by rfl) hS (fun w hSw => ?_) ?_
    rotate_left
    · ((try dsimp only at hSw); go_simp; try with_reducible rfl)
    simp only [List.setIfInBounds_toArray, List.set_cons_zero, List.set_cons_succ]
    refine takeH_on 23 (v := ?_) rfl rfl (by kernel_rfl) (by kernel_rfl) (by kernel_rfl) (fun _ _ _ h => h) (by rfl) hS (fun w hSw => ?_) ?_
    rotate_left
    · ((try dsimp only at hSw); go_simp; try with_reducible rfl)
    simp only [List.setIfInBounds_toArray, List.set_cons_zero, List.set_cons_succ]
    refine takeH_on 24 (v := ?_) rfl rfl (by kernel_rfl) (by kernel_rfl) (by kernel_rfl) (fun _ _ _ h => h) (by rfl) hS (fun w hSw => ?_) ?_
    rotate_left
    · ((try dsimp only at hSw); go_simp; try with_reducible rfl)
    simp only [List.setIfInBounds_toArray, List.set_cons_zero, List.set_cons_succ]
    refine takeH_on 25 (v := ?_) rfl rfl (by kernel_rfl) (by kernel_rfl) (by kernel_rfl) (fun _ _ _ h => h) (by rfl) hS (fun w hSw => ?_) ?_
    rotate_left
    · ((try dsimp only at hSw); go_simp; try with_reducible rfl)
    simp only [List.setIfInBounds_toArray, List.set_cons_zero, List.set_cons_succ]
    refine takeH_on 26 (v := ?_) rfl rfl (by kernel_rfl) (by kernel_rfl) (by kernel_rfl) (fun _ _ _ h => h) (by rfl) hS (fun w hSw => ?_) ?_
    rotate_left
    · ((try dsimp only at hSw); go_simp; try with_reducible rfl)
    simp only [List.setIfInBounds_toArray, List.set_cons_zero, List.set_cons_succ]
    refine takeH_on 27 (v := ?_) rfl rfl (by kernel_rfl) (by kernel_rfl) (by kernel_rfl) (fun _ _ _ h => h) (by rfl) hS (fun w hSw => ?_) ?_
    rotate_left
    · ((try dsimp only at hSw); go_simp; try with_reducible rfl)
    simp only [List.setIfInBounds_toArray, List.set_cons_zero, List.set_cons_succ]
    refine takeH_on 30 (v := ?_) rfl rfl (by kernel_rfl) (by kernel_rfl) (by kernel_rfl) (fun _ _ _ h => h) (by rfl) hS (fun w hSw => ?_) ?_
    rotate_left
    · ((try dsimp only at hSw); go_simp; try with_reducible rfl)
    simp only [List.setIfInBounds_toArray, List.set_cons_zero, List.set_cons_succ]
    refine wpAnyH_ready (rs := [28]) (by kernel_rfl) (by simp) (AllReadyH.cons rfl (fun K hK => ?_) AllReadyH.nil)
    clear hS
    go_simp
    go_wp2_with fail
    refine (repFallN g n cp w1.heap.size id _ (HTW.out _ HB7.out) h1 h3 hi1 hi2 (HROW.out _ HB7.out)).mono ?_
    rintro e w8 ⟨rfl, hb⟩
    have HB8 := hid (HB7.out.trans (hb.mono HB7.out.size))
    clear hb
    refine Shut.out hK _ _ (SAT2.out _ HB8.out) (fun hS => ?_)
    clear hK K
    refine wpAnyH_ready (rs := [29]) (by kernel_rfl) (by simp) (AllReadyH.cons rfl (fun K hK => ?_) AllReadyH.nil)
    clear hS
    go_simp
    go_wp2_with fail
    refine (repRiseN n id _ (HTW.out _ HB8.out) h1 h3 hi1 hi2).mono ?_
    rintro e w9 ⟨⟨ov9, cv9, rfl, hn9⟩, hb⟩
    have HB9 := hid (HB8.out.trans (hb.mono HB8.out.size))
    have HN9 := hid hn9
    clear hb hn9
    refine Shut.out hK _ _ (SAT2.out _ HB9.out) (fun hS => ?_)
    clear hK K
    refine wpAnyH_ready (rs := [31]) (by kernel_rfl) (by simp) (AllReadyH.cons rfl (fun K hK => ?_) AllReadyH.nil)
    clear hS
    go_simp
    go_wp2_with fail
    refine (fmRep_same id true ov9 (some ⟨g, 0, none⟩) cv9 cp n (noneL n) w9 HLN.out (by omega) HN9.out (HN3.out.below (HC5.out.trans (HB9.out.mono HC5.out.size)))).mono ?_
    rintro e w10 ⟨rfl, hb⟩
    have HB10 := hid (HB9.out.trans (hb.mono HB9.out.size))
    clear hb
    refine Shut.out hK _ _ (SAT2.out _ HB10.out) (fun hS => ?_)
    clear hK K
    refine takeH_on 32 (v := ?_) rfl rfl (by kernel_rfl) (by kernel_rfl) (by kernel_rfl) (fun _ _ _ h => h) (by rfl) hS (fun w hSw => ?_) ?_
    rotate_left
    · ((try dsimp only at hSw); go_simp; try with_reducible rfl)
    simp only [List.setIfInBounds_toArray, List.set_cons_zero, List.set_cons_succ]
    refine takeH_on 33 (v := ?_) rfl rfl (by kernel_rfl) (by kernel_rfl) (by kernel_rfl) (fun _ _ _ h => h) (by rfl) hS (fun w hSw => ?_) ?_
    rotate_left
    · ((try dsimp only at hSw); go_simp; try with_reducible rfl)
    simp only [List.setIfInBounds_toArray, List.set_cons_zero, List.set_cons_succ]
    refine takeH_on 34 (v := ?_) rfl rfl (by kernel_rfl) (by kernel_rfl) (by kernel_rfl) (fun _ _ _ h => h) (by rfl) hS (fun w hSw => ?_) ?_
    rotate_left
    · ((try dsimp only at hSw); go_simp; try with_reducible rfl)
    simp only [List.setIfInBounds_toArray, List.set_cons_zero, List.set_cons_succ]
    refine takeH_on 35 (v := ?_) rfl rfl (by kernel_rfl) (by kernel_rfl) (by kernel_rfl) (fun _ _ _ h => h) (by rfl) hS (fun w hSw => ?_) ?_
    rotate_left
    · ((try dsimp only at hSw); go_simp; try with_reducible rfl)
    simp only [List.setIfInBounds_toArray, List.set_cons_zero, List.set_cons_succ]
    refine wpAnyH_done (by kernel_rfl) ?_ _
    clear hS
    go_wp2
    go_ret
    exact ⟨rfl, (HB.out.trans ((HB3.out.trans ((HC5.out.trans (HB10.out.mono HC5.out.size)).mono HB3.out.size)).mono HB.out.size))⟩
  · have hno : inB id 10 12 = false ∨ inB many 1 3 = false := by
      simp only [inB]
      rcases Decidable.not_and_iff_or_not.1 hf with h | h
      · left; simp; omega
      · rcases Decidable.not_and_iff_or_not.1 h with h | h
        · left; simp; omega
        · right; simp; omega
    go_wp2_with fail
    refine (implNew_no id many w1 hno).mono ?_
    rintro e w2 ⟨rfl, hb⟩
    have HB2 := hid (HB1.out.trans (hb.mono HB1.out.size))
    clear hb
    go_wp2_with fail
    obtain ⟨w3, hw3⟩ : ∃ x, x = w2.alloc (.cells #[.int .i64 0, .string ⟨#[]⟩, .bool false, .int .i64 0, .slice none 0 0, .slice none 0 0, .int .i64 0, .slice none 0 0, .int .i64 0, .int .i64 0, .int .i64 0, .slice none 0 0, .slice none 0 0, .slice none 0 0] 28) := ⟨_, rfl⟩
    rw [← hw3]
    have hal : Below w2.heap.size w2 w3 := by rw [hw3]; exact (Below.refl _ _).alloc (Nat.le_refl _) _
    have HK3 : Hid (w3.heap[w2.heap.size]? = some (.cells #[.int .i64 0, .string ⟨#[]⟩, .bool false, .int .i64 0, .slice none 0 0, .slice none 0 0, .int .i64 0, .slice none 0 0, .int .i64 0, .int .i64 0, .int .i64 0, .slice none 0 0, .slice none 0 0, .slice none 0 0] 28 (0, 0))) := by rw [hw3]; exact alloc_newR _ _
    have HB3 := hid (HB2.out.trans (hal.mono HB2.out.size))
    clear hw3 hal
    have x0 : w3.cell? ⟨w2.heap.size, 0, none⟩ = some (.int .i64 0) := by rw [in_blockR HK3.out 0]; rfl
    have x1 : w3.cell? ⟨w2.heap.size, 1, none⟩ = some (.string ⟨#[]⟩) := by rw [in_blockR HK3.out 1]; rfl
    have x2 : w3.cell? ⟨w2.heap.size, 2, none⟩ = some (.bool false) := by rw [in_blockR HK3.out 2]; rfl
    have x3 : w3.cell? ⟨w2.heap.size, 3, none⟩ = some (.int .i64 0) := by rw [in_blockR HK3.out 3]; rfl
    have x4 : w3.cell? ⟨w2.heap.size, 4, none⟩ = some (.slice none 0 0) := by rw [in_blockR HK3.out 4]; rfl
    have x5 : w3.cell? ⟨w2.heap.size, 5, none⟩ = some (.slice none 0 0) := by rw [in_blockR HK3.out 5]; rfl
    have x6 : w3.cell? ⟨w2.heap.size, 6, none⟩ = some (.int .i64 0) := by rw [in_blockR HK3.out 6]; rfl
    have x7 : w3.cell? ⟨w2.heap.size, 7, none⟩ = some (.slice none 0 0) := by rw [in_blockR HK3.out 7]; rfl
    have x8 : w3.cell? ⟨w2.heap.size, 8, none⟩ = some (.int .i64 0) := by rw [in_blockR HK3.out 8]; rfl
    have x9 : w3.cell? ⟨w2.heap.size, 9, none⟩ = some (.int .i64 0) := by rw [in_blockR HK3.out 9]; rfl
    have x10 : w3.cell? ⟨w2.heap.size, 10, none⟩ = some (.int .i64 0) := by rw [in_blockR HK3.out 10]; rfl
    have x11 : w3.cell? ⟨w2.heap.size, 11, none⟩ = some (.slice none 0 0) := by rw [in_blockR HK3.out 11]; rfl
    have x12 : w3.cell? ⟨w2.heap.size, 12, none⟩ = some (.slice none 0 0) := by rw [in_blockR HK3.out 12]; rfl
    have x13 : w3.cell? ⟨w2.heap.size, 13, none⟩ = some (.slice none 0 0) := by rw [in_blockR HK3.out 13]; rfl
    have SAT : Hid (∀ w', Below w3.heap.size w3 w' → w'.cell? ⟨w2.heap.size, 0, none⟩ = some (.int .i64 0) ∧ w'.cell? ⟨w2.heap.size, 1, none⟩ = some (.string ⟨#[]⟩) ∧ w'.cell? ⟨w2.heap.size, 2, none⟩ = some (.bool false) ∧ w'.cell? ⟨w2.heap.size, 3, none⟩ = some (.int .i64 0) ∧ w'.cell? ⟨w2.heap.size, 4, none⟩ = some (.slice none 0 0) ∧ w'.cell? ⟨w2.heap.size, 5, none⟩ = some (.slice none 0 0) ∧ w'.cell? ⟨w2.heap.size, 6, none⟩ = some (.int .i64 0) ∧ w'.cell? ⟨w2.heap.size, 7, none⟩ = some (.slice none 0 0) ∧ w'.cell? ⟨w2.heap.size, 8, none⟩ = some (.int .i64 0) ∧ w'.cell? ⟨w2.heap.size, 9, none⟩ = some (.int .i64 0) ∧ w'.cell? ⟨w2.heap.size, 10, none⟩ = some (.int .i64 0) ∧ w'.cell? ⟨w2.heap.size, 11, none⟩ = some (.slice none 0 0) ∧ w'.cell? ⟨w2.heap.size, 12, none⟩ = some (.slice none 0 0) ∧ w'.cell? ⟨w2.heap.size, 13, none⟩ = some (.slice none 0 0)) := fun w' hb => ⟨(hb.cell (p := ⟨w2.heap.size, 0, none⟩) (Array.getElem?_eq_some_iff.1 HK3.out).1).trans x0, (hb.cell (p := ⟨w2.heap.size, 1, none⟩) (Array.getElem?_eq_some_iff.1 HK3.out).1).trans x1, (hb.cell (p := ⟨w2.heap.size, 2, none⟩) (Array.getElem?_eq_some_iff.1 HK3.out).1).trans x2, (hb.cell (p := ⟨w2.heap.size, 3, none⟩) (Array.getElem?_eq_some_iff.1 HK3.out).1).trans x3, (hb.cell (p := ⟨w2.heap.size, 4, none⟩) (Array.getElem?_eq_some_iff.1 HK3.out).1).trans x4, (hb.cell (p := ⟨w2.heap.size, 5, none⟩) (Array.getElem?_eq_some_iff.1 HK3.out).1).trans x5, (hb.cell (p := ⟨w2.heap.size, 6, none⟩) (Array.getElem?_eq_some_iff.1 HK3.out).1).trans x6, (hb.cell (p := ⟨w2.heap.size, 7, none⟩) (Array.getElem?_eq_some_iff.1 HK3.out).1).trans x7, (hb.cell (p := ⟨w2.heap.size, 8, none⟩) (Array.getElem?_eq_some_iff.1 HK3.out).1).trans x8, (hb.cell (p := ⟨w2.heap.size, 9, none⟩) (Array.getElem?_eq_some_iff.1 HK3.out).1).trans x9, (hb.cell (p := ⟨w2.heap.size, 10, none⟩) (Array.getElem?_eq_some_iff.1 HK3.out).1).trans x10, (hb.cell (p := ⟨w2.heap.size, 11, none⟩) (Array.getElem?_eq_some_iff.1 HK3.out).1).trans x11, (hb.cell (p := ⟨w2.heap.size, 12, none⟩) (Array.getElem?_eq_some_iff.1 HK3.out).1).trans x12, (hb.cell (p := ⟨w2.heap.size, 13, none⟩) (Array.getElem?_eq_some_iff.1 HK3.out).1).trans x13⟩
    clear x0 x1 x2 x3 x4 x5 x6 x7 x8 x9 x10 x11 x12 x13
    have HD : Hid (Below w3.heap.size w3 w3.drew) := (Below.refl _ _).drew
    refine wp_region_held_drew (S := (fun w' => w'.cell? ⟨w2.heap.size, 0, none⟩ = some (.int .i64 0) ∧ w'.cell? ⟨w2.heap.size, 1, none⟩ = some (.string ⟨#[]⟩) ∧ w'.cell? ⟨w2.heap.size, 2, none⟩ = some (.bool false) ∧ w'.cell? ⟨w2.heap.size, 3, none⟩ = some (.int .i64 0) ∧ w'.cell? ⟨w2.heap.size, 4, none⟩ = some (.slice none 0 0) ∧ w'.cell? ⟨w2.heap.size, 5, none⟩ = some (.slice none 0 0) ∧ w'.cell? ⟨w2.heap.size, 6, none⟩ = some (.int .i64 0) ∧ w'.cell? ⟨w2.heap.size, 7, none⟩ = some (.slice none 0 0) ∧ w'.cell? ⟨w2.heap.size, 8, none⟩ = some (.int .i64 0) ∧ w'.cell? ⟨w2.heap.size, 9, none⟩ = some (.int .i64 0) ∧ w'.cell? ⟨w2.heap.size, 10, none⟩ = some (.int .i64 0) ∧ w'.cell? ⟨w2.heap.size, 11, none⟩ = some (.slice none 0 0) ∧ w'.cell? ⟨w2.heap.size, 12, none⟩ = some (.slice none 0 0) ∧ w'.cell? ⟨w2.heap.size, 13, none⟩ = some (.slice none 0 0))) (by kernel_rfl) ?_ (fun hS => ?_)
    · exact (SAT.out _ HD.out)
    obtain ⟨w3d, hw3d⟩ : ∃ x, x = w3.drew := ⟨_, rfl⟩
    rw [← hw3d] at hS HD ⊢
    clear hw3d
    refine takeH_on 0 (v := ?_) rfl rfl (by kernel_rfl) (by kernel_rfl) (by kernel_rfl) (fun _ _ _ h => h) (by rfl) hS (fun w hSw => ?_) ?_
    rotate_left
    · ((try dsimp only at hSw); go_simp; try with_reducible rfl)
    simp only [List.setIfInBounds_toArray, List.set_cons_zero, List.set_cons_succ]
    refine takeH_on 1 (v := ?_) rfl rfl (by kernel_rfl) (by kernel_rfl) (by kernel_rfl) (fun _ _ _ h => h) (by rfl) hS (fun w hSw => ?_) ?_
    rotate_left
    · ((try dsimp only at hSw); go_simp; try with_reducible rfl)
    simp only [List.setIfInBounds_toArray, List.set_cons_zero, List.set_cons_succ]
    refine takeH_on 2 (v := ?_) rfl rfl (by kernel_rfl) (by kernel_rfl) (by kernel_rfl) (fun _ _ _ h => h) (by rfl) hS (fun w hSw => ?_) ?_
    rotate_left
    · ((try dsimp only at hSw); go_simp; try with_reducible rfl)
    simp only [List.setIfInBounds_toArray, List.set_cons_zero, List.set_cons_succ]
    refine wpAnyH_ready (rs := [3]) (by kernel_rfl) (by simp) (AllReadyH.cons rfl (fun K hK => ?_) AllReadyH.nil)
    clear hS
    go_simp
    go_wp2_with fail
    refine (specNew_no id many _ hno).mono ?_
    rintro e w4 ⟨rfl, hb⟩
    have HB4 := hid (HD.out.trans (hb.mono HD.out.size))
    clear hb
    refine Shut.out hK _ _ (SAT.out _ HB4.out) (fun hS => ?_)
    clear hK K
    refine wpAnyH_ready (rs := [4]) (by kernel_rfl) (by simp) (AllReadyH.cons rfl (fun K hK => ?_) AllReadyH.nil)
    clear hS
    go_simp
    go_wp2_with fail
    refine (fmRep_same 0 false none none 0 0 0 [] w4 rfl (by decide) (fun i hi => absurd hi (Nat.not_lt_zero _)) (fun i hi => absurd hi (Nat.not_lt_zero _))).mono ?_
    rintro e w5 ⟨rfl, hb⟩
    have HB5 := hid (HB4.out.trans (hb.mono HB4.out.size))
    clear hb
    refine Shut.out hK _ _ (SAT.out _ HB5.out) (fun hS => ?_)
    clear hK K
    refine takeH_on 5 (v := ?_) rfl rfl (by kernel_rfl) (by kernel_rfl) (by kernel_rfl) (fun _ _ _ h => h) (by rfl) hS (fun w hSw => ?_) ?_
    rotate_left
    · ((try dsimp only at hSw); go_simp; try with_reducible rfl)
    simp only [List.setIfInBounds_toArray, List.set_cons_zero, List.set_cons_succ]
    refine wpAnyH_done (by kernel_rfl) ?_ _
    clear hS
    have HC5 := hid HB5.out
    have HK5 := hid (blk_belowR HK3.out HB5.out)
    have x0 : w5.cell? ⟨w2.heap.size, 0, none⟩ = some (.int .i64 0) := by rw [in_blockR HK5.out 0]; rfl
    have x1 : w5.cell? ⟨w2.heap.size, 1, none⟩ = some (.string ⟨#[]⟩) := by rw [in_blockR HK5.out 1]; rfl
    have x2 : w5.cell? ⟨w2.heap.size, 2, none⟩ = some (.bool false) := by rw [in_blockR HK5.out 2]; rfl
    have x3 : w5.cell? ⟨w2.heap.size, 3, none⟩ = some (.int .i64 0) := by rw [in_blockR HK5.out 3]; rfl
    have x4 : w5.cell? ⟨w2.heap.size, 4, none⟩ = some (.slice none 0 0) := by rw [in_blockR HK5.out 4]; rfl
    have x5 : w5.cell? ⟨w2.heap.size, 5, none⟩ = some (.slice none 0 0) := by rw [in_blockR HK5.out 5]; rfl
    have x6 : w5.cell? ⟨w2.heap.size, 6, none⟩ = some (.int .i64 0) := by rw [in_blockR HK5.out 6]; rfl
    have x7 : w5.cell? ⟨w2.heap.size, 7, none⟩ = some (.slice none 0 0) := by rw [in_blockR HK5.out 7]; rfl
    have x8 : w5.cell? ⟨w2.heap.size, 8, none⟩ = some (.int .i64 0) := by rw [in_blockR HK5.out 8]; rfl
    have x9 : w5.cell? ⟨w2.heap.size, 9, none⟩ = some (.int .i64 0) := by rw [in_blockR HK5.out 9]; rfl
    have x10 : w5.cell? ⟨w2.heap.size, 10, none⟩ = some (.int .i64 0) := by rw [in_blockR HK5.out 10]; rfl
    have x11 : w5.cell? ⟨w2.heap.size, 11, none⟩ = some (.slice none 0 0) := by rw [in_blockR HK5.out 11]; rfl
    have x12 : w5.cell? ⟨w2.heap.size, 12, none⟩ = some (.slice none 0 0) := by rw [in_blockR HK5.out 12]; rfl
    have x13 : w5.cell? ⟨w2.heap.size, 13, none⟩ = some (.slice none 0 0) := by rw [in_blockR HK5.out 13]; rfl
    have HF := hid hf
    clear SAT HD
    by_cases a1 : 10 ≤ id
    · by_cases a2 : id < 13
      · by_cases a3 : 1 ≤ many
        · have a4 : ¬ many ≤ 3 := fun h => HF.out ⟨a1, by omega, a3, h⟩
          go_wp2_with fail
          go_quiet (fail)
          go_wp2
          go_ret
          exact ⟨rfl, below_drewN (HB.out.trans ((HB3.out.trans (HC5.out.mono HB3.out.size)).mono HB.out.size)) _⟩
        · go_wp2_with fail
          go_quiet (fail)
          go_wp2
          go_ret
          exact ⟨rfl, below_drewN (HB.out.trans ((HB3.out.trans (HC5.out.mono HB3.out.size)).mono HB.out.size)) _⟩
      · go_wp2_with fail
        go_quiet (fail)
        go_wp2
        go_ret
        exact ⟨rfl, below_drewN (HB.out.trans ((HB3.out.trans (HC5.out.mono HB3.out.size)).mono HB.out.size)) _⟩
    · go_wp2_with fail
      go_quiet (fail)
      go_wp2
      go_ret
      exact ⟨rfl, below_drewN (HB.out.trans ((HB3.out.trans (HC5.out.mono HB3.out.size)).mono HB.out.size)) _⟩

end Go.Proofs.YtplbfllhimcpiaaGreatDoor
