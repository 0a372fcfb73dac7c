/- DERIVED. The law FnMsgPut at every code. -/
import Derived.Test.YtijdjplajhcilaaDoorDrawPutR
import Derived.Test.YtijdjplajhcilaaDoorFmMsgM
import Derived.Test.YtijdjplajhcilaaDoorMsgLen
namespace Go.Proofs.YtijdjplajhcilaaDoor
open Go.RowKit

set_option maxRecDepth 100000 in
set_option maxHeartbeats 6400000 in
theorem law_any (oa : Option Addr) (len cap : Nat) (w : World) (h : CodeAt w oa len) (hc : len ≤ cap) (hm : cap ≤ maxLen) (ht : Tab w) (he : EofR w) :
    Calls Tryd.prog 3 #[.slice oa len cap] w fun e w' => e = .returned (.bool true) ∧ Below w.heap.size w w' := by
  by_cases hbig : (len : Int) > 1048576
  · clear h ht he
    go_enter Tryd.func3, Tryd.ntmps3
    go_wp2
    go_ret
    exact ⟨rfl, Below.refl _ _⟩
  have hlen : len ≤ 1048576 := by omega
  have HC := hid h
  have HT := hid ht
  have HE := hid he
  clear h ht he
  go_enter Tryd.func3, Tryd.ntmps3
  go_wp2_with fail
  refine (drawPut_any oa len cap _ HC.out hc hm).mono ?_
  rintro ee w1 ⟨⟨a, b, c, d, e, o1, o2, c1, c2, V, L, rfl, hN, hL, hV6, hL6⟩, hb1⟩
  have HB := hid hb1
  have HN := hid hN
  have HL := hid hL
  have HV6 := hid hV6
  have HL6 := hid hL6
  have HTW : Hid (∀ w', Below w1.heap.size w1 w' → Tab w') := fun w' hb => (HT.out.below HB.out).below hb
  have HEW : Hid (∀ w', Below w1.heap.size w1 w' → EofR w') := fun w' hb => (HE.out.below HB.out).below hb
  obtain ⟨c0, hc0⟩ : ∃ c0, c0 = msgOkP a b c d e V L := ⟨_, rfl⟩
  obtain ⟨t, htx⟩ : ∃ t, t = putText a b c d e V L := ⟨_, rfl⟩
  have hv1 : V.length ≤ 1048576 := by omega
  have hl1 : L.length ≤ 1048576 := by omega
  have CP : Hid (∀ w', Below w1.heap.size w1 w' → Calls Tryd.prog 5 #[.agg #[.int .i64 a, .int .i64 b, .int .i64 c, .int .i64 d, .int .i64 e, .slice o1 V.length c1, .slice o2 L.length c2]] w' fun e w2 => e = .returned (.string t) ∧ Below w'.heap.size w' w2) := fun w' hb => by rw [htx]; exact implMsgPut_any a b c d e o1 o2 V.length c1 L.length c2 V L w' (HTW.out w' hb) rfl hv1 (HN.out.below hb) rfl hl1 (HL.out.below hb)
  have CQ : Hid (∀ w', Below w1.heap.size w1 w' → Calls Tryd.prog 6 #[.agg #[.int .i64 a, .int .i64 b, .int .i64 c, .int .i64 d, .int .i64 e, .slice o1 V.length c1, .slice o2 L.length c2]] w' fun e w2 => e = .returned (.string t) ∧ Below w'.heap.size w' w2) := fun w' hb => by rw [htx]; exact specMsgPut_any a b c d e o1 o2 V.length c1 L.length c2 V L w' rfl hv1 (HN.out.below hb) rfl hl1 (HL.out.below hb)
  have CO : Hid (∀ w', Below w1.heap.size w1 w' → Calls Tryd.prog 7 #[.agg #[.int .i64 a, .int .i64 b, .int .i64 c, .int .i64 d, .int .i64 e, .slice o1 V.length c1, .slice o2 L.length c2]] w' fun e w2 => e = .returned (.bool c0) ∧ Below w'.heap.size w' w2) := fun w' hb => by rw [hc0]; exact implMsgOk_any a b c d e o1 o2 V.length c1 L.length c2 V L w' rfl hv1 (HN.out.below hb) rfl hl1 (HL.out.below hb)
  have CS : Hid (∀ w', Below w1.heap.size w1 w' → Calls Tryd.prog 8 #[.agg #[.int .i64 a, .int .i64 b, .int .i64 c, .int .i64 d, .int .i64 e, .slice o1 V.length c1, .slice o2 L.length c2]] w' fun e w2 => e = .returned (.bool c0) ∧ Below w'.heap.size w' w2) := fun w' hb => by rw [hc0]; exact specMsgOk_any a b c d e o1 o2 V.length c1 L.length c2 V L w' rfl hv1 (HN.out.below hb) rfl hl1 (HL.out.below hb)
  have CG : Hid (c0 = true → ∀ w', Below w1.heap.size w1 w' → Calls Tryd.prog 9 #[.string t] w' fun ee w2 => (∃ (p1 p2 : Option Addr) (d1 d2 : Nat), ee = .returned (.tuple #[.agg #[.int .i64 a, .int .i64 b, .int .i64 c, .int .i64 d, .int .i64 e, .slice p1 V.length d1, .slice p2 L.length d2], .bool true]) ∧ NumsAt w2 p1 V ∧ EntsAt w2 p2 L) ∧ Below w'.heap.size w' w2) := fun hyes w' hb => by
    rw [hc0] at hyes
    have h1 := get_yes (s := t) w' (HTW.out w' hb) (HEW.out w' hb) (by rw [htx]; exact put_okay hyes hL6)
    have e1 := putText_l hyes
    rw [← htx] at e1
    obtain ⟨p0, p1, p2, p3, p4, p5, p6⟩ := read_back hyes (Lib.decDigits (crcP (msgT a b c d e V L)))
    rw [← e1] at p0 p1 p2 p3 p4 p5 p6
    rw [p0, p1, p2, p3, p4, p5, p6] at h1
    exact h1
  have HZ : Hid (c0 = false → t = (⟨#[]⟩ : ByteArray)) := fun h => by rw [htx]; unfold putText; rw [← hc0, h]; rfl
  have HY : Hid (c0 = true → t ≠ (⟨#[]⟩ : ByteArray) ∧ t.size ≤ 400) := fun h => by rw [hc0] at h; rw [htx]; exact ⟨putText_ne h, putText_len h hL6⟩
  clear hb1 hN hL hc0 htx hv1 hl1 hV6 hL6 HT HE HTW HEW HC hlen hbig
  go_wp2_with fail
  obtain ⟨w2, hw2⟩ : ∃ w2, w2 = w1.alloc (.cells #[.int .i64 a, .int .i64 b, .int .i64 c, .int .i64 d, .int .i64 e, .slice o1 V.length c1, .slice o2 L.length c2] 26) := ⟨_, rfl⟩
  rw [← hw2]
  have HB2 : Hid (Below w1.heap.size w1 w2) := by rw [hw2]; exact (Below.refl _ _).alloc (Nat.le_refl _) _
  have HK2 : Hid (w2.heap[w1.heap.size]? = some (.cells #[.int .i64 a, .int .i64 b, .int .i64 c, .int .i64 d, .int .i64 e, .slice o1 V.length c1, .slice o2 L.length c2] 26 (0, 0))) := by rw [hw2]; exact alloc_new _ _
  clear hw2
  refine (CP.out w2 HB2.out).mono ?_
  rintro ee w3 ⟨rfl, hb⟩
  have HB3 := hid (HB2.out.trans (hb.mono HB2.out.size))
  have HK3 : Hid (w3.heap[w1.heap.size]? = some (.cells #[.int .i64 a, .int .i64 b, .int .i64 c, .int .i64 d, .int .i64 e, .slice o1 V.length c1, .slice o2 L.length c2] 26 (0, 0))) := by show _ = _; rw [hb.block _ (Array.getElem?_eq_some_iff.1 HK2.out).1]; exact HK2.out
  clear hb
  cases c0
  · obtain rfl := HZ.out rfl
    go_wp2_with fail
    refine wp_region_held_drew (S := (fun w' => w'.heap[w1.heap.size]? = some (.cells #[.int .i64 a, .int .i64 b, .int .i64 c, .int .i64 d, .int .i64 e, .slice o1 V.length c1, .slice o2 L.length c2] 26 (0, 0)))) (by kernel_rfl) HK3.out (fun hS => ?_)
    obtain ⟨w4, hw4⟩ : ∃ w4, w4 = w3.drew := ⟨_, rfl⟩
    rw [← hw4] at hS ⊢
    have HB4 : Hid (Below w1.heap.size w1 w4) := by rw [hw4]; exact HB3.out.drew
    have HK4 := hid hS
    clear hw4
    refine takeH_on 0 (v := ?_) rfl rfl (by kernel_rfl) (by kernel_rfl) (by kernel_rfl) (fun _ _ _ h => h) (by rfl) hS (fun w hSw => ?_) ?_
    rotate_left
    · ((try dsimp only at hSw); go_simp; try with_reducible rfl)
    simp only [List.setIfInBounds_toArray, List.set_cons_zero, List.set_cons_succ]
    refine takeH_on 1 (v := .agg #[.int .i64 a, .int .i64 b, .int .i64 c, .int .i64 d, .int .i64 e, .slice o1 V.length c1, .slice o2 L.length c2]) rfl rfl (by kernel_rfl) (by kernel_rfl) (by kernel_rfl) (fun _ _ _ h => h) (by rfl) hS (fun w hSw => ?_) ?_
    · (clear hS; (try dsimp only at hSw); have y0 : w.cell? ⟨w1.heap.size, 0, none⟩ = some (.int .i64 a) := (by rw [in_block hSw 0]; rfl); have y1 : w.cell? ⟨w1.heap.size, 1, none⟩ = some (.int .i64 b) := (by rw [in_block hSw 1]; rfl); have y2 : w.cell? ⟨w1.heap.size, 2, none⟩ = some (.int .i64 c) := (by rw [in_block hSw 2]; rfl); have y3 : w.cell? ⟨w1.heap.size, 3, none⟩ = some (.int .i64 d) := (by rw [in_block hSw 3]; rfl); have y4 : w.cell? ⟨w1.heap.size, 4, none⟩ = some (.int .i64 e) := (by rw [in_block hSw 4]; rfl); have y5 : w.cell? ⟨w1.heap.size, 5, none⟩ = some (.slice o1 V.length c1) := (by rw [in_block hSw 5]; rfl); have y6 : w.cell? ⟨w1.heap.size, 6, none⟩ = some (.slice o2 L.length c2) := (by rw [in_block hSw 6]; rfl); go_simp; try with_reducible rfl)
    simp only [List.setIfInBounds_toArray, List.set_cons_zero, List.set_cons_succ]
    refine wpAnyH_ready (rs := [2]) (by kernel_rfl) (by simp) (AllReadyH.cons rfl (fun K hK => ?_) AllReadyH.nil)
    clear hS
    go_simp
    go_wp2_with fail
    refine (CQ.out _ HB4.out).mono ?_
    rintro ee w5 ⟨rfl, hb⟩
    have HB5 := hid (HB4.out.trans (hb.mono HB4.out.size))
    have HK5 : Hid (w5.heap[w1.heap.size]? = some (.cells #[.int .i64 a, .int .i64 b, .int .i64 c, .int .i64 d, .int .i64 e, .slice o1 V.length c1, .slice o2 L.length c2] 26 (0, 0))) := by show _ = _; rw [hb.block _ (Array.getElem?_eq_some_iff.1 HK4.out).1]; exact HK4.out
    clear hb
    refine Shut.out hK _ _ HK5.out (fun hS => ?_)
    clear hK K
    refine takeH_on 3 (v := .bool false) rfl rfl (by kernel_rfl) (by kernel_rfl) (by kernel_rfl) (fun _ _ _ h => h) (by rfl) hS (fun w hSw => ?_) ?_
    · (clear hS hSw; go_simp)
    simp only [List.setIfInBounds_toArray, List.set_cons_zero, List.set_cons_succ]
    refine takeH_on 4 (v := ?_) rfl rfl (by kernel_rfl) (by kernel_rfl) (by kernel_rfl) (fun _ _ _ h => h) (by rfl) hS (fun w hSw => ?_) ?_
    rotate_left
    · ((try dsimp only at hSw); go_simp; try with_reducible rfl)
    simp only [List.setIfInBounds_toArray, List.set_cons_zero, List.set_cons_succ]
    refine takeH_on 5 (v := .agg #[.int .i64 a, .int .i64 b, .int .i64 c, .int .i64 d, .int .i64 e, .slice o1 V.length c1, .slice o2 L.length c2]) rfl rfl (by kernel_rfl) (by kernel_rfl) (by kernel_rfl) (fun _ _ _ h => h) (by rfl) hS (fun w hSw => ?_) ?_
    · (clear hS; (try dsimp only at hSw); have y0 : w.cell? ⟨w1.heap.size, 0, none⟩ = some (.int .i64 a) := (by rw [in_block hSw 0]; rfl); have y1 : w.cell? ⟨w1.heap.size, 1, none⟩ = some (.int .i64 b) := (by rw [in_block hSw 1]; rfl); have y2 : w.cell? ⟨w1.heap.size, 2, none⟩ = some (.int .i64 c) := (by rw [in_block hSw 2]; rfl); have y3 : w.cell? ⟨w1.heap.size, 3, none⟩ = some (.int .i64 d) := (by rw [in_block hSw 3]; rfl); have y4 : w.cell? ⟨w1.heap.size, 4, none⟩ = some (.int .i64 e) := (by rw [in_block hSw 4]; rfl); have y5 : w.cell? ⟨w1.heap.size, 5, none⟩ = some (.slice o1 V.length c1) := (by rw [in_block hSw 5]; rfl); have y6 : w.cell? ⟨w1.heap.size, 6, none⟩ = some (.slice o2 L.length c2) := (by rw [in_block hSw 6]; rfl); go_simp; try with_reducible rfl)
    simp only [List.setIfInBounds_toArray, List.set_cons_zero, List.set_cons_succ]
    refine takeH_on 7 (v := .agg #[.int .i64 a, .int .i64 b, .int .i64 c, .int .i64 d, .int .i64 e, .slice o1 V.length c1, .slice o2 L.length c2]) rfl rfl (by kernel_rfl) (by kernel_rfl) (by kernel_rfl) (fun _ _ _ h => h) (by rfl) hS (fun w hSw => ?_) ?_
    · (clear hS; (try dsimp only at hSw); have y0 : w.cell? ⟨w1.heap.size, 0, none⟩ = some (.int .i64 a) := (by rw [in_block hSw 0]; rfl); have y1 : w.cell? ⟨w1.heap.size, 1, none⟩ = some (.int .i64 b) := (by rw [in_block hSw 1]; rfl); have y2 : w.cell? ⟨w1.heap.size, 2, none⟩ = some (.int .i64 c) := (by rw [in_block hSw 2]; rfl); have y3 : w.cell? ⟨w1.heap.size, 3, none⟩ = some (.int .i64 d) := (by rw [in_block hSw 3]; rfl); have y4 : w.cell? ⟨w1.heap.size, 4, none⟩ = some (.int .i64 e) := (by rw [in_block hSw 4]; rfl); have y5 : w.cell? ⟨w1.heap.size, 5, none⟩ = some (.slice o1 V.length c1) := (by rw [in_block hSw 5]; rfl); have y6 : w.cell? ⟨w1.heap.size, 6, none⟩ = some (.slice o2 L.length c2) := (by rw [in_block hSw 6]; rfl); go_simp; try with_reducible rfl)
    simp only [List.setIfInBounds_toArray, List.set_cons_zero, List.set_cons_succ]
    refine wpAnyH_ready (rs := [6]) (by kernel_rfl) (by simp) (AllReadyH.cons rfl (fun K hK => ?_) AllReadyH.nil)
    clear hS
    go_simp
    go_wp2_with fail
    refine (CO.out _ HB5.out).mono ?_
    rintro ee w6 ⟨rfl, hb⟩
    have HB6 := hid (HB5.out.trans (hb.mono HB5.out.size))
    have HK6 : Hid (w6.heap[w1.heap.size]? = some (.cells #[.int .i64 a, .int .i64 b, .int .i64 c, .int .i64 d, .int .i64 e, .slice o1 V.length c1, .slice o2 L.length c2] 26 (0, 0))) := by show _ = _; rw [hb.block _ (Array.getElem?_eq_some_iff.1 HK5.out).1]; exact HK5.out
    clear hb
    refine Shut.out hK _ _ HK6.out (fun hS => ?_)
    clear hK K
    refine wpAnyH_ready (rs := [8]) (by kernel_rfl) (by simp) (AllReadyH.cons rfl (fun K hK => ?_) AllReadyH.nil)
    clear hS
    go_simp
    go_wp2_with fail
    refine (CS.out _ HB6.out).mono ?_
    rintro ee w7 ⟨rfl, hb⟩
    have HB7 := hid (HB6.out.trans (hb.mono HB6.out.size))
    have HK7 : Hid (w7.heap[w1.heap.size]? = some (.cells #[.int .i64 a, .int .i64 b, .int .i64 c, .int .i64 d, .int .i64 e, .slice o1 V.length c1, .slice o2 L.length c2] 26 (0, 0))) := by show _ = _; rw [hb.block _ (Array.getElem?_eq_some_iff.1 HK6.out).1]; exact HK6.out
    clear hb
    refine Shut.out hK _ _ HK7.out (fun hS => ?_)
    clear hK K
    refine takeH_on 9 (v := .bool false) rfl rfl (by kernel_rfl) (by kernel_rfl) (by kernel_rfl) (fun _ _ _ h => h) (by rfl) hS (fun w hSw => ?_) ?_
    · (clear hS hSw; go_simp)
    simp only [List.setIfInBounds_toArray, List.set_cons_zero, List.set_cons_succ]
    refine takeH_on 10 (v := ?_) rfl rfl (by kernel_rfl) (by kernel_rfl) (by kernel_rfl) (fun _ _ _ h => h) (by rfl) hS (fun w hSw => ?_) ?_
    rotate_left
    · ((try dsimp only at hSw); go_simp; try with_reducible rfl)
    simp only [List.setIfInBounds_toArray, List.set_cons_zero, List.set_cons_succ]
    refine takeH_on 11 (v := ?_) rfl rfl (by kernel_rfl) (by kernel_rfl) (by kernel_rfl) (fun _ _ _ h => h) (by rfl) hS (fun w hSw => ?_) ?_
    rotate_left
    · ((try dsimp only at hSw); go_simp; try with_reducible rfl)
    simp only [List.setIfInBounds_toArray, List.set_cons_zero, List.set_cons_succ]
    refine takeH_on 12 (v := ?_) rfl rfl (by kernel_rfl) (by kernel_rfl) (by kernel_rfl) (fun _ _ _ h => h) (by rfl) hS (fun w hSw => ?_) ?_
    rotate_left
    · ((try dsimp only at hSw); go_simp; try with_reducible rfl)
    simp only [List.setIfInBounds_toArray, List.set_cons_zero, List.set_cons_succ]
    refine takeH_on 13 (v := .bool true) rfl rfl (by kernel_rfl) (by kernel_rfl) (by kernel_rfl) (fun _ _ _ h => h) (by rfl) hS (fun w hSw => ?_) ?_
    · (clear hS hSw; go_simp)
    simp only [List.setIfInBounds_toArray, List.set_cons_zero, List.set_cons_succ]
    refine takeH_on 14 (v := ?_) rfl rfl (by kernel_rfl) (by kernel_rfl) (by kernel_rfl) (fun _ _ _ h => h) (by rfl) hS (fun w hSw => ?_) ?_
    rotate_left
    · ((try dsimp only at hSw); go_simp; try with_reducible rfl)
    simp only [List.setIfInBounds_toArray, List.set_cons_zero, List.set_cons_succ]
    refine wpAnyH_done (by kernel_rfl) ?_ _
    clear hS
    go_wp2_with fail
    go_wp2_with fail
    refine wp_region_held_drew (S := (fun w' => w'.heap[w1.heap.size]? = some (.cells #[.int .i64 a, .int .i64 b, .int .i64 c, .int .i64 d, .int .i64 e, .slice o1 V.length c1, .slice o2 L.length c2] 26 (0, 0)))) (by kernel_rfl) HK7.out (fun hS => ?_)
    obtain ⟨w8, hw8⟩ : ∃ w8, w8 = w7.drew := ⟨_, rfl⟩
    rw [← hw8] at hS ⊢
    have HB8 : Hid (Below w1.heap.size w1 w8) := by rw [hw8]; exact HB7.out.drew
    have HK8 := hid hS
    clear hw8
    refine takeH_on 0 (v := ?_) rfl rfl (by kernel_rfl) (by kernel_rfl) (by kernel_rfl) (fun _ _ _ h => h) (by rfl) hS (fun w hSw => ?_) ?_
    rotate_left
    · ((try dsimp only at hSw); go_simp; try with_reducible rfl)
    simp only [List.setIfInBounds_toArray, List.set_cons_zero, List.set_cons_succ]
    refine takeH_on 1 (v := .agg #[.int .i64 a, .int .i64 b, .int .i64 c, .int .i64 d, .int .i64 e, .slice o1 V.length c1, .slice o2 L.length c2]) rfl rfl (by kernel_rfl) (by kernel_rfl) (by kernel_rfl) (fun _ _ _ h => h) (by rfl) hS (fun w hSw => ?_) ?_
    · (clear hS; (try dsimp only at hSw); have y0 : w.cell? ⟨w1.heap.size, 0, none⟩ = some (.int .i64 a) := (by rw [in_block hSw 0]; rfl); have y1 : w.cell? ⟨w1.heap.size, 1, none⟩ = some (.int .i64 b) := (by rw [in_block hSw 1]; rfl); have y2 : w.cell? ⟨w1.heap.size, 2, none⟩ = some (.int .i64 c) := (by rw [in_block hSw 2]; rfl); have y3 : w.cell? ⟨w1.heap.size, 3, none⟩ = some (.int .i64 d) := (by rw [in_block hSw 3]; rfl); have y4 : w.cell? ⟨w1.heap.size, 4, none⟩ = some (.int .i64 e) := (by rw [in_block hSw 4]; rfl); have y5 : w.cell? ⟨w1.heap.size, 5, none⟩ = some (.slice o1 V.length c1) := (by rw [in_block hSw 5]; rfl); have y6 : w.cell? ⟨w1.heap.size, 6, none⟩ = some (.slice o2 L.length c2) := (by rw [in_block hSw 6]; rfl); go_simp; try with_reducible rfl)
    simp only [List.setIfInBounds_toArray, List.set_cons_zero, List.set_cons_succ]
    refine wpAnyH_ready (rs := [2]) (by kernel_rfl) (by simp) (AllReadyH.cons rfl (fun K hK => ?_) AllReadyH.nil)
    clear hS
    go_simp
    go_wp2_with fail
    refine (CQ.out _ HB8.out).mono ?_
    rintro ee w9 ⟨rfl, hb⟩
    have HB9 := hid (HB8.out.trans (hb.mono HB8.out.size))
    have HK9 : Hid (w9.heap[w1.heap.size]? = some (.cells #[.int .i64 a, .int .i64 b, .int .i64 c, .int .i64 d, .int .i64 e, .slice o1 V.length c1, .slice o2 L.length c2] 26 (0, 0))) := by show _ = _; rw [hb.block _ (Array.getElem?_eq_some_iff.1 HK8.out).1]; exact HK8.out
    clear hb
    refine Shut.out hK _ _ HK9.out (fun hS => ?_)
    clear hK K
    refine takeH_on 3 (v := .bool true) rfl rfl (by kernel_rfl) (by kernel_rfl) (by kernel_rfl) (fun _ _ _ h => h) (by rfl) hS (fun w hSw => ?_) ?_
    · (clear hS hSw; go_simp)
    simp only [List.setIfInBounds_toArray, List.set_cons_zero, List.set_cons_succ]
    refine takeH_on 4 (v := ?_) rfl rfl (by kernel_rfl) (by kernel_rfl) (by kernel_rfl) (fun _ _ _ h => h) (by rfl) hS (fun w hSw => ?_) ?_
    rotate_left
    · ((try dsimp only at hSw); go_simp; try with_reducible rfl)
    simp only [List.setIfInBounds_toArray, List.set_cons_zero, List.set_cons_succ]
    refine takeH_on 5 (v := .agg #[.int .i64 a, .int .i64 b, .int .i64 c, .int .i64 d, .int .i64 e, .slice o1 V.length c1, .slice o2 L.length c2]) rfl rfl (by kernel_rfl) (by kernel_rfl) (by kernel_rfl) (fun _ _ _ h => h) (by rfl) hS (fun w hSw => ?_) ?_
    · (clear hS; (try dsimp only at hSw); have y0 : w.cell? ⟨w1.heap.size, 0, none⟩ = some (.int .i64 a) := (by rw [in_block hSw 0]; rfl); have y1 : w.cell? ⟨w1.heap.size, 1, none⟩ = some (.int .i64 b) := (by rw [in_block hSw 1]; rfl); have y2 : w.cell? ⟨w1.heap.size, 2, none⟩ = some (.int .i64 c) := (by rw [in_block hSw 2]; rfl); have y3 : w.cell? ⟨w1.heap.size, 3, none⟩ = some (.int .i64 d) := (by rw [in_block hSw 3]; rfl); have y4 : w.cell? ⟨w1.heap.size, 4, none⟩ = some (.int .i64 e) := (by rw [in_block hSw 4]; rfl); have y5 : w.cell? ⟨w1.heap.size, 5, none⟩ = some (.slice o1 V.length c1) := (by rw [in_block hSw 5]; rfl); have y6 : w.cell? ⟨w1.heap.size, 6, none⟩ = some (.slice o2 L.length c2) := (by rw [in_block hSw 6]; rfl); go_simp; try with_reducible rfl)
    simp only [List.setIfInBounds_toArray, List.set_cons_zero, List.set_cons_succ]
    refine takeH_on 7 (v := .agg #[.int .i64 a, .int .i64 b, .int .i64 c, .int .i64 d, .int .i64 e, .slice o1 V.length c1, .slice o2 L.length c2]) rfl rfl (by kernel_rfl) (by kernel_rfl) (by kernel_rfl) (fun _ _ _ h => h) (by rfl) hS (fun w hSw => ?_) ?_
    · (clear hS; (try dsimp only at hSw); have y0 : w.cell? ⟨w1.heap.size, 0, none⟩ = some (.int .i64 a) := (by rw [in_block hSw 0]; rfl); have y1 : w.cell? ⟨w1.heap.size, 1, none⟩ = some (.int .i64 b) := (by rw [in_block hSw 1]; rfl); have y2 : w.cell? ⟨w1.heap.size, 2, none⟩ = some (.int .i64 c) := (by rw [in_block hSw 2]; rfl); have y3 : w.cell? ⟨w1.heap.size, 3, none⟩ = some (.int .i64 d) := (by rw [in_block hSw 3]; rfl); have y4 : w.cell? ⟨w1.heap.size, 4, none⟩ = some (.int .i64 e) := (by rw [in_block hSw 4]; rfl); have y5 : w.cell? ⟨w1.heap.size, 5, none⟩ = some (.slice o1 V.length c1) := (by rw [in_block hSw 5]; rfl); have y6 : w.cell? ⟨w1.heap.size, 6, none⟩ = some (.slice o2 L.length c2) := (by rw [in_block hSw 6]; rfl); go_simp; try with_reducible rfl)
    simp only [List.setIfInBounds_toArray, List.set_cons_zero, List.set_cons_succ]
    refine wpAnyH_ready (rs := [6]) (by kernel_rfl) (by simp) (AllReadyH.cons rfl (fun K hK => ?_) AllReadyH.nil)
    clear hS
    go_simp
    go_wp2_with fail
    refine (CO.out _ HB9.out).mono ?_
    rintro ee w10 ⟨rfl, hb⟩
    have HB10 := hid (HB9.out.trans (hb.mono HB9.out.size))
    have HK10 : Hid (w10.heap[w1.heap.size]? = some (.cells #[.int .i64 a, .int .i64 b, .int .i64 c, .int .i64 d, .int .i64 e, .slice o1 V.length c1, .slice o2 L.length c2] 26 (0, 0))) := by show _ = _; rw [hb.block _ (Array.getElem?_eq_some_iff.1 HK9.out).1]; exact HK9.out
    clear hb
    refine Shut.out hK _ _ HK10.out (fun hS => ?_)
    clear hK K
    refine wpAnyH_ready (rs := [8]) (by kernel_rfl) (by simp) (AllReadyH.cons rfl (fun K hK => ?_) AllReadyH.nil)
    clear hS
    go_simp
    go_wp2_with fail
    refine (CS.out _ HB10.out).mono ?_
    rintro ee w11 ⟨rfl, hb⟩
    have HB11 := hid (HB10.out.trans (hb.mono HB10.out.size))
    have HK11 : Hid (w11.heap[w1.heap.size]? = some (.cells #[.int .i64 a, .int .i64 b, .int .i64 c, .int .i64 d, .int .i64 e, .slice o1 V.length c1, .slice o2 L.length c2] 26 (0, 0))) := by show _ = _; rw [hb.block _ (Array.getElem?_eq_some_iff.1 HK10.out).1]; exact HK10.out
    clear hb
    refine Shut.out hK _ _ HK11.out (fun hS => ?_)
    clear hK K
    refine takeH_on 9 (v := .bool true) rfl rfl (by kernel_rfl) (by kernel_rfl) (by kernel_rfl) (fun _ _ _ h => h) (by rfl) hS (fun w hSw => ?_) ?_
    · (clear hS hSw; go_simp)
    simp only [List.setIfInBounds_toArray, List.set_cons_zero, List.set_cons_succ]
    refine takeH_on 10 (v := ?_) rfl rfl (by kernel_rfl) (by kernel_rfl) (by kernel_rfl) (fun _ _ _ h => h) (by rfl) hS (fun w hSw => ?_) ?_
    rotate_left
    · ((try dsimp only at hSw); go_simp; try with_reducible rfl)
    simp only [List.setIfInBounds_toArray, List.set_cons_zero, List.set_cons_succ]
    refine takeH_on 11 (v := ?_) rfl rfl (by kernel_rfl) (by kernel_rfl) (by kernel_rfl) (fun _ _ _ h => h) (by rfl) hS (fun w hSw => ?_) ?_
    rotate_left
    · ((try dsimp only at hSw); go_simp; try with_reducible rfl)
    simp only [List.setIfInBounds_toArray, List.set_cons_zero, List.set_cons_succ]
    refine wpAnyH_done (by kernel_rfl) ?_ _
    clear hS
    go_wp2
    go_ret
    exact ⟨rfl, HB.out.trans (HB11.out.mono HB.out.size)⟩
  · obtain ⟨hne, h400⟩ := HY.out rfl
    have hnl : ¬ t.toList = [] := by
      rw [ByteArray.toList_eq]
      intro h0
      apply hne
      apply ByteArray.ext
      apply Array.ext'
      exact h0
    have h4I : (t.size : Int) ≤ 400 := by omega
    go_wp2_with fail
    refine wp_region_held_drew (S := (fun w' => w'.heap[w1.heap.size]? = some (.cells #[.int .i64 a, .int .i64 b, .int .i64 c, .int .i64 d, .int .i64 e, .slice o1 V.length c1, .slice o2 L.length c2] 26 (0, 0)))) (by kernel_rfl) HK3.out (fun hS => ?_)
    obtain ⟨w4, hw4⟩ : ∃ w4, w4 = w3.drew := ⟨_, rfl⟩
    rw [← hw4] at hS ⊢
    have HB4 : Hid (Below w1.heap.size w1 w4) := by rw [hw4]; exact HB3.out.drew
    have HK4 := hid hS
    clear hw4
    refine takeH_on 0 (v := ?_) rfl rfl (by kernel_rfl) (by kernel_rfl) (by kernel_rfl) (fun _ _ _ h => h) (by rfl) hS (fun w hSw => ?_) ?_
    rotate_left
    · ((try dsimp only at hSw); go_simp; try with_reducible rfl)
    simp only [List.setIfInBounds_toArray, List.set_cons_zero, List.set_cons_succ]
    refine takeH_on 1 (v := .agg #[.int .i64 a, .int .i64 b, .int .i64 c, .int .i64 d, .int .i64 e, .slice o1 V.length c1, .slice o2 L.length c2]) rfl rfl (by kernel_rfl) (by kernel_rfl) (by kernel_rfl) (fun _ _ _ h => h) (by rfl) hS (fun w hSw => ?_) ?_
    · (clear hS; (try dsimp only at hSw); have y0 : w.cell? ⟨w1.heap.size, 0, none⟩ = some (.int .i64 a) := (by rw [in_block hSw 0]; rfl); have y1 : w.cell? ⟨w1.heap.size, 1, none⟩ = some (.int .i64 b) := (by rw [in_block hSw 1]; rfl); have y2 : w.cell? ⟨w1.heap.size, 2, none⟩ = some (.int .i64 c) := (by rw [in_block hSw 2]; rfl); have y3 : w.cell? ⟨w1.heap.size, 3, none⟩ = some (.int .i64 d) := (by rw [in_block hSw 3]; rfl); have y4 : w.cell? ⟨w1.heap.size, 4, none⟩ = some (.int .i64 e) := (by rw [in_block hSw 4]; rfl); have y5 : w.cell? ⟨w1.heap.size, 5, none⟩ = some (.slice o1 V.length c1) := (by rw [in_block hSw 5]; rfl); have y6 : w.cell? ⟨w1.heap.size, 6, none⟩ = some (.slice o2 L.length c2) := (by rw [in_block hSw 6]; rfl); go_simp; try with_reducible rfl)
    simp only [List.setIfInBounds_toArray, List.set_cons_zero, List.set_cons_succ]
    refine wpAnyH_ready (rs := [2]) (by kernel_rfl) (by simp) (AllReadyH.cons rfl (fun K hK => ?_) AllReadyH.nil)
    clear hS
    go_simp
    go_wp2_with fail
    refine (CQ.out _ HB4.out).mono ?_
    rintro ee w5 ⟨rfl, hb⟩
    have HB5 := hid (HB4.out.trans (hb.mono HB4.out.size))
    have HK5 : Hid (w5.heap[w1.heap.size]? = some (.cells #[.int .i64 a, .int .i64 b, .int .i64 c, .int .i64 d, .int .i64 e, .slice o1 V.length c1, .slice o2 L.length c2] 26 (0, 0))) := by show _ = _; rw [hb.block _ (Array.getElem?_eq_some_iff.1 HK4.out).1]; exact HK4.out
    clear hb
    refine Shut.out hK _ _ HK5.out (fun hS => ?_)
    clear hK K
    refine takeH_on 3 (v := .bool false) rfl rfl (by kernel_rfl) (by kernel_rfl) (by kernel_rfl) (fun _ _ _ h => h) (by rfl) hS (fun w hSw => ?_) ?_
    · (clear hS hSw; go_simp)
    simp only [List.setIfInBounds_toArray, List.set_cons_zero, List.set_cons_succ]
    refine takeH_on 4 (v := ?_) rfl rfl (by kernel_rfl) (by kernel_rfl) (by kernel_rfl) (fun _ _ _ h => h) (by rfl) hS (fun w hSw => ?_) ?_
    rotate_left
    · ((try dsimp only at hSw); go_simp; try with_reducible rfl)
    simp only [List.setIfInBounds_toArray, List.set_cons_zero, List.set_cons_succ]
    refine takeH_on 5 (v := .agg #[.int .i64 a, .int .i64 b, .int .i64 c, .int .i64 d, .int .i64 e, .slice o1 V.length c1, .slice o2 L.length c2]) rfl rfl (by kernel_rfl) (by kernel_rfl) (by kernel_rfl) (fun _ _ _ h => h) (by rfl) hS (fun w hSw => ?_) ?_
    · (clear hS; (try dsimp only at hSw); have y0 : w.cell? ⟨w1.heap.size, 0, none⟩ = some (.int .i64 a) := (by rw [in_block hSw 0]; rfl); have y1 : w.cell? ⟨w1.heap.size, 1, none⟩ = some (.int .i64 b) := (by rw [in_block hSw 1]; rfl); have y2 : w.cell? ⟨w1.heap.size, 2, none⟩ = some (.int .i64 c) := (by rw [in_block hSw 2]; rfl); have y3 : w.cell? ⟨w1.heap.size, 3, none⟩ = some (.int .i64 d) := (by rw [in_block hSw 3]; rfl); have y4 : w.cell? ⟨w1.heap.size, 4, none⟩ = some (.int .i64 e) := (by rw [in_block hSw 4]; rfl); have y5 : w.cell? ⟨w1.heap.size, 5, none⟩ = some (.slice o1 V.length c1) := (by rw [in_block hSw 5]; rfl); have y6 : w.cell? ⟨w1.heap.size, 6, none⟩ = some (.slice o2 L.length c2) := (by rw [in_block hSw 6]; rfl); go_simp; try with_reducible rfl)
    simp only [List.setIfInBounds_toArray, List.set_cons_zero, List.set_cons_succ]
    refine takeH_on 7 (v := .agg #[.int .i64 a, .int .i64 b, .int .i64 c, .int .i64 d, .int .i64 e, .slice o1 V.length c1, .slice o2 L.length c2]) rfl rfl (by kernel_rfl) (by kernel_rfl) (by kernel_rfl) (fun _ _ _ h => h) (by rfl) hS (fun w hSw => ?_) ?_
    · (clear hS; (try dsimp only at hSw); have y0 : w.cell? ⟨w1.heap.size, 0, none⟩ = some (.int .i64 a) := (by rw [in_block hSw 0]; rfl); have y1 : w.cell? ⟨w1.heap.size, 1, none⟩ = some (.int .i64 b) := (by rw [in_block hSw 1]; rfl); have y2 : w.cell? ⟨w1.heap.size, 2, none⟩ = some (.int .i64 c) := (by rw [in_block hSw 2]; rfl); have y3 : w.cell? ⟨w1.heap.size, 3, none⟩ = some (.int .i64 d) := (by rw [in_block hSw 3]; rfl); have y4 : w.cell? ⟨w1.heap.size, 4, none⟩ = some (.int .i64 e) := (by rw [in_block hSw 4]; rfl); have y5 : w.cell? ⟨w1.heap.size, 5, none⟩ = some (.slice o1 V.length c1) := (by rw [in_block hSw 5]; rfl); have y6 : w.cell? ⟨w1.heap.size, 6, none⟩ = some (.slice o2 L.length c2) := (by rw [in_block hSw 6]; rfl); go_simp; try with_reducible rfl)
    simp only [List.setIfInBounds_toArray, List.set_cons_zero, List.set_cons_succ]
    refine wpAnyH_ready (rs := [6]) (by kernel_rfl) (by simp) (AllReadyH.cons rfl (fun K hK => ?_) AllReadyH.nil)
    clear hS
    go_simp
    go_wp2_with fail
    refine (CO.out _ HB5.out).mono ?_
    rintro ee w6 ⟨rfl, hb⟩
    have HB6 := hid (HB5.out.trans (hb.mono HB5.out.size))
    have HK6 : Hid (w6.heap[w1.heap.size]? = some (.cells #[.int .i64 a, .int .i64 b, .int .i64 c, .int .i64 d, .int .i64 e, .slice o1 V.length c1, .slice o2 L.length c2] 26 (0, 0))) := by show _ = _; rw [hb.block _ (Array.getElem?_eq_some_iff.1 HK5.out).1]; exact HK5.out
    clear hb
    refine Shut.out hK _ _ HK6.out (fun hS => ?_)
    clear hK K
    refine wpAnyH_ready (rs := [8]) (by kernel_rfl) (by simp) (AllReadyH.cons rfl (fun K hK => ?_) AllReadyH.nil)
    clear hS
    go_simp
    go_wp2_with fail
    refine (CS.out _ HB6.out).mono ?_
    rintro ee w7 ⟨rfl, hb⟩
    have HB7 := hid (HB6.out.trans (hb.mono HB6.out.size))
    have HK7 : Hid (w7.heap[w1.heap.size]? = some (.cells #[.int .i64 a, .int .i64 b, .int .i64 c, .int .i64 d, .int .i64 e, .slice o1 V.length c1, .slice o2 L.length c2] 26 (0, 0))) := by show _ = _; rw [hb.block _ (Array.getElem?_eq_some_iff.1 HK6.out).1]; exact HK6.out
    clear hb
    refine Shut.out hK _ _ HK7.out (fun hS => ?_)
    clear hK K
    refine takeH_on 9 (v := .bool false) rfl rfl (by kernel_rfl) (by kernel_rfl) (by kernel_rfl) (fun _ _ _ h => h) (by rfl) hS (fun w hSw => ?_) ?_
    · (clear hS hSw; go_simp)
    simp only [List.setIfInBounds_toArray, List.set_cons_zero, List.set_cons_succ]
    refine takeH_on 10 (v := ?_) rfl rfl (by kernel_rfl) (by kernel_rfl) (by kernel_rfl) (fun _ _ _ h => h) (by rfl) hS (fun w hSw => ?_) ?_
    rotate_left
    · ((try dsimp only at hSw); go_simp; try with_reducible rfl)
    simp only [List.setIfInBounds_toArray, List.set_cons_zero, List.set_cons_succ]
    refine takeH_on 11 (v := ?_) rfl rfl (by kernel_rfl) (by kernel_rfl) (by kernel_rfl) (fun _ _ _ h => h) (by rfl) hS (fun w hSw => ?_) ?_
    rotate_left
    · ((try dsimp only at hSw); go_simp; try with_reducible rfl)
    simp only [List.setIfInBounds_toArray, List.set_cons_zero, List.set_cons_succ]
    refine takeH_on 12 (v := ?_) rfl rfl (by kernel_rfl) (by kernel_rfl) (by kernel_rfl) (fun _ _ _ h => h) (by rfl) hS (fun w hSw => ?_) ?_
    rotate_left
    · ((try dsimp only at hSw); go_simp; try with_reducible rfl)
    simp only [List.setIfInBounds_toArray, List.set_cons_zero, List.set_cons_succ]
    refine takeH_on 13 (v := .bool false) rfl rfl (by kernel_rfl) (by kernel_rfl) (by kernel_rfl) (fun _ _ _ h => h) (by rfl) hS (fun w hSw => ?_) ?_
    · (clear hS hSw; go_simp)
    simp only [List.setIfInBounds_toArray, List.set_cons_zero, List.set_cons_succ]
    refine takeH_on 14 (v := ?_) rfl rfl (by kernel_rfl) (by kernel_rfl) (by kernel_rfl) (fun _ _ _ h => h) (by rfl) hS (fun w hSw => ?_) ?_
    rotate_left
    · ((try dsimp only at hSw); go_simp; try with_reducible rfl)
    simp only [List.setIfInBounds_toArray, List.set_cons_zero, List.set_cons_succ]
    refine wpAnyH_done (by kernel_rfl) ?_ _
    clear hS
    go_wp2_with fail
    refine (CG.out (by trivial) _ HB7.out).mono ?_
    rintro ee w8 ⟨⟨p1, p2, d1, d2, rfl, hn8, he8⟩, hb⟩
    have HB8 := hid (HB7.out.trans (hb.mono HB7.out.size))
    have HK8 : Hid (w8.heap[w1.heap.size]? = some (.cells #[.int .i64 a, .int .i64 b, .int .i64 c, .int .i64 d, .int .i64 e, .slice o1 V.length c1, .slice o2 L.length c2] 26 (0, 0))) := by show _ = _; rw [hb.block _ (Array.getElem?_eq_some_iff.1 HK7.out).1]; exact HK7.out
    have HN8 := hid hn8
    have HE8 := hid he8
    have y0 : w8.cell? ⟨w1.heap.size, 0, none⟩ = some (.int .i64 a) := (by rw [in_block HK8.out 0]; rfl)
    have y1 : w8.cell? ⟨w1.heap.size, 1, none⟩ = some (.int .i64 b) := (by rw [in_block HK8.out 1]; rfl)
    have y2 : w8.cell? ⟨w1.heap.size, 2, none⟩ = some (.int .i64 c) := (by rw [in_block HK8.out 2]; rfl)
    have y3 : w8.cell? ⟨w1.heap.size, 3, none⟩ = some (.int .i64 d) := (by rw [in_block HK8.out 3]; rfl)
    have y4 : w8.cell? ⟨w1.heap.size, 4, none⟩ = some (.int .i64 e) := (by rw [in_block HK8.out 4]; rfl)
    have y5 : w8.cell? ⟨w1.heap.size, 5, none⟩ = some (.slice o1 V.length c1) := (by rw [in_block HK8.out 5]; rfl)
    have y6 : w8.cell? ⟨w1.heap.size, 6, none⟩ = some (.slice o2 L.length c2) := (by rw [in_block HK8.out 6]; rfl)
    have hlt8 : w1.heap.size < w8.heap.size := (Array.getElem?_eq_some_iff.1 HK8.out).1
    have hne8 : ¬ w8.heap.size = w1.heap.size := by omega
    have hne9 : ¬ w1.heap.size = w8.heap.size := by omega
    clear hb hn8 he8
    go_wp2_with fail
    obtain ⟨w9, hw9⟩ : ∃ w9, w9 = w8.alloc (.cells #[.int .i64 a, .int .i64 b, .int .i64 c, .int .i64 d, .int .i64 e, .slice p1 V.length d1, .slice p2 L.length d2] 26) := ⟨_, rfl⟩
    rw [← hw9]
    have hal : Below w8.heap.size w8 w9 := by rw [hw9]; exact (Below.refl _ _).alloc (Nat.le_refl _) _
    have HB9 := hid (HB8.out.trans (hal.mono HB8.out.size))
    have HK9 : Hid (w9.heap[w1.heap.size]? = some (.cells #[.int .i64 a, .int .i64 b, .int .i64 c, .int .i64 d, .int .i64 e, .slice o1 V.length c1, .slice o2 L.length c2] 26 (0, 0))) := by show _ = _; rw [hal.block _ hlt8]; exact HK8.out
    have HF := hid (fmMsg_same a b c d e p1 p2 o1 o2 d1 d2 c1 c2 V.length L.length V L w9 rfl (by have := HV6.out; omega) rfl (by have := HL6.out; omega) (HN8.out.below hal) (HN.out.below HB9.out) (HE8.out.below hal) (HL.out.below HB9.out))
    clear hw9 hal y0 y1 y2 y3 y4 y5 y6 hlt8 hne8 hne9
    refine HF.out.mono ?_
    rintro ee w10 ⟨rfl, hb⟩
    have HB10 := hid (HB9.out.trans (hb.mono HB9.out.size))
    have HK10 : Hid (w10.heap[w1.heap.size]? = some (.cells #[.int .i64 a, .int .i64 b, .int .i64 c, .int .i64 d, .int .i64 e, .slice o1 V.length c1, .slice o2 L.length c2] 26 (0, 0))) := by show _ = _; rw [hb.block _ (Array.getElem?_eq_some_iff.1 HK9.out).1]; exact HK9.out
    have y0 : w10.cell? ⟨w1.heap.size, 0, none⟩ = some (.int .i64 a) := (by rw [in_block HK10.out 0]; rfl)
    have y1 : w10.cell? ⟨w1.heap.size, 1, none⟩ = some (.int .i64 b) := (by rw [in_block HK10.out 1]; rfl)
    have y2 : w10.cell? ⟨w1.heap.size, 2, none⟩ = some (.int .i64 c) := (by rw [in_block HK10.out 2]; rfl)
    have y3 : w10.cell? ⟨w1.heap.size, 3, none⟩ = some (.int .i64 d) := (by rw [in_block HK10.out 3]; rfl)
    have y4 : w10.cell? ⟨w1.heap.size, 4, none⟩ = some (.int .i64 e) := (by rw [in_block HK10.out 4]; rfl)
    have y5 : w10.cell? ⟨w1.heap.size, 5, none⟩ = some (.slice o1 V.length c1) := (by rw [in_block HK10.out 5]; rfl)
    have y6 : w10.cell? ⟨w1.heap.size, 6, none⟩ = some (.slice o2 L.length c2) := (by rw [in_block HK10.out 6]; rfl)
    clear hb
    go_wp2_with fail
    refine (CO.out _ HB10.out).mono ?_
    rintro ee w11 ⟨rfl, hb⟩
    have HB11 := hid (HB10.out.trans (hb.mono HB10.out.size))
    clear hb
    go_wp2
    go_ret
    exact ⟨rfl, HB.out.trans (HB11.out.mono HB.out.size)⟩

end Go.Proofs.YtijdjplajhcilaaDoor

