/- DERIVED. The model's reader of messages at a text of eight words: l9Get. -/
import Derived.Test.YtcielnlhopjijabDoorSpecGet
import Derived.Test.YtcielnlhopjijabDoorReadPlain
namespace Go.Proofs.YtcielnlhopjijabDoor
open Go.RowKit

theorem toList_inj3 {a b : ByteArray} (h : a.toList = b.toList) : a = b := by
  rw [ByteArray.toList_eq, ByteArray.toList_eq] at h
  apply ByteArray.ext
  apply Array.ext'
  exact h

theorem blk_below {w w' : World} {k : Nat} {x : Obj} (h : w.heap[k]? = some x) (hb : Below w.heap.size w w') : w'.heap[k]? = some x := by
  rw [hb.block k (Array.getElem?_eq_some_iff.1 h).1]
  exact h

theorem neIntMsg' : (3 : TypeId) ≠ 25 := by decide
theorem neEntMsg' : (71 : TypeId) ≠ 25 := by decide

/-- A message is put into a block that holds none. -/
theorem seven {w0 w : World} {n g b1 b2 : Nat} {ov ol : Option Addr} {cv cl : Nat} {V : List Int} {L : List Ent} {xs : List Value} {P0 P1 P2 P3 P4 : Int} (hm : w.heap[g]? = some (.cells #[.int .i64 0, .int .i64 0, .int .i64 0, .int .i64 0, .int .i64 0, .slice none 0 0, .slice none 0 0] 25 (0, 0))) (hb : Below n w0 w) (hg : n ≤ g) (hv : w.ownsRow b1 3 1 (.slice ov V.length cv) V.length (V.map (Value.int .i64))) (hl : w.ownsRow b2 71 3 (.slice ol L.length cl) L.length xs) (hx : ECells b2 w L xs) :
    (((((((w.setCell ⟨g, 0, none⟩ (.int .i64 P0)).setCell ⟨g, 1, none⟩ (.int .i64 P1)).setCell ⟨g, 2, none⟩ (.int .i64 P2)).setCell ⟨g, 3, none⟩ (.int .i64 P3)).setCell ⟨g, 4, none⟩ (.int .i64 P4)).setCell ⟨g, 5, none⟩ (.slice ov V.length cv)).setCell ⟨g, 6, none⟩ (.slice ol L.length cl)).heap[g]? = some (.cells #[.int .i64 P0, .int .i64 P1, .int .i64 P2, .int .i64 P3, .int .i64 P4, .slice ov V.length cv, .slice ol L.length cl] 25 (0, 0)) ∧ Below n w0 (((((((w.setCell ⟨g, 0, none⟩ (.int .i64 P0)).setCell ⟨g, 1, none⟩ (.int .i64 P1)).setCell ⟨g, 2, none⟩ (.int .i64 P2)).setCell ⟨g, 3, none⟩ (.int .i64 P3)).setCell ⟨g, 4, none⟩ (.int .i64 P4)).setCell ⟨g, 5, none⟩ (.slice ov V.length cv)).setCell ⟨g, 6, none⟩ (.slice ol L.length cl)) ∧ ((((((((w.setCell ⟨g, 0, none⟩ (.int .i64 P0)).setCell ⟨g, 1, none⟩ (.int .i64 P1)).setCell ⟨g, 2, none⟩ (.int .i64 P2)).setCell ⟨g, 3, none⟩ (.int .i64 P3)).setCell ⟨g, 4, none⟩ (.int .i64 P4)).setCell ⟨g, 5, none⟩ (.slice ov V.length cv)).setCell ⟨g, 6, none⟩ (.slice ol L.length cl)).ownsRow b1 3 1 (.slice ov V.length cv) V.length (V.map (Value.int .i64))) ∧ ((((((((w.setCell ⟨g, 0, none⟩ (.int .i64 P0)).setCell ⟨g, 1, none⟩ (.int .i64 P1)).setCell ⟨g, 2, none⟩ (.int .i64 P2)).setCell ⟨g, 3, none⟩ (.int .i64 P3)).setCell ⟨g, 4, none⟩ (.int .i64 P4)).setCell ⟨g, 5, none⟩ (.slice ov V.length cv)).setCell ⟨g, 6, none⟩ (.slice ol L.length cl)).ownsRow b2 71 3 (.slice ol L.length cl) L.length xs) ∧ ECells b2 (((((((w.setCell ⟨g, 0, none⟩ (.int .i64 P0)).setCell ⟨g, 1, none⟩ (.int .i64 P1)).setCell ⟨g, 2, none⟩ (.int .i64 P2)).setCell ⟨g, 3, none⟩ (.int .i64 P3)).setCell ⟨g, 4, none⟩ (.int .i64 P4)).setCell ⟨g, 5, none⟩ (.slice ov V.length cv)).setCell ⟨g, 6, none⟩ (.slice ol L.length cl)) L xs := by
  have hb0 := hm
  have hb1 := set_block _ g 0 _ _ (.int .i64 P0) hb0
  have hb2 := set_block _ g 1 _ _ (.int .i64 P1) hb1
  have hb3 := set_block _ g 2 _ _ (.int .i64 P2) hb2
  have hb4 := set_block _ g 3 _ _ (.int .i64 P3) hb3
  have hb5 := set_block _ g 4 _ _ (.int .i64 P4) hb4
  have hb6 := set_block _ g 5 _ _ (.slice ov V.length cv) hb5
  have hb7 := set_block _ g 6 _ _ (.slice ol L.length cl) hb6
  exact ⟨hb7, (((((((hb.setCell (p := ⟨g, 0, none⟩) hg (.int .i64 P0)).setCell (p := ⟨g, 1, none⟩) hg (.int .i64 P1)).setCell (p := ⟨g, 2, none⟩) hg (.int .i64 P2)).setCell (p := ⟨g, 3, none⟩) hg (.int .i64 P3)).setCell (p := ⟨g, 4, none⟩) hg (.int .i64 P4)).setCell (p := ⟨g, 5, none⟩) hg (.slice ov V.length cv)).setCell (p := ⟨g, 6, none⟩) hg (.slice ol L.length cl)), (rowT (rowT (rowT (rowT (rowT (rowT (rowT hv hb0 neIntMsg' 0 (.int .i64 P0)) hb1 neIntMsg' 1 (.int .i64 P1)) hb2 neIntMsg' 2 (.int .i64 P2)) hb3 neIntMsg' 3 (.int .i64 P3)) hb4 neIntMsg' 4 (.int .i64 P4)) hb5 neIntMsg' 5 (.slice ov V.length cv)) hb6 neIntMsg' 6 (.slice ol L.length cl)), (rowT (rowT (rowT (rowT (rowT (rowT (rowT hl hb0 neEntMsg' 0 (.int .i64 P0)) hb1 neEntMsg' 1 (.int .i64 P1)) hb2 neEntMsg' 2 (.int .i64 P2)) hb3 neEntMsg' 3 (.int .i64 P3)) hb4 neEntMsg' 4 (.int .i64 P4)) hb5 neEntMsg' 5 (.slice ov V.length cv)) hb6 neEntMsg' 6 (.slice ol L.length cl)), (ecT (ecT (ecT (ecT (ecT (ecT (ecT hx hb0 neIntMsg' 0 (.int .i64 P0)) hb1 neIntMsg' 1 (.int .i64 P1)) hb2 neIntMsg' 2 (.int .i64 P2)) hb3 neIntMsg' 3 (.int .i64 P3)) hb4 neIntMsg' 4 (.int .i64 P4)) hb5 neIntMsg' 5 (.slice ov V.length cv)) hb6 neIntMsg' 6 (.slice ol L.length cl))⟩

set_option maxRecDepth 100000 in
set_option maxHeartbeats 6400000 in
theorem l9Get_eight (s : ByteArray) (w : World) (hs : s.size ≤ 400) (h8 : (hW s).length = 8) :
    Calls Tryd.prog 9 #[.string s] w fun e w' => ((hOkay s = true ∧ ∃ (o1 o2 : Option Addr) (c1 c2 b1 b2 : Nat) (xs : List Value), e = .returned (.tuple #[.agg #[.int .i64 (hP s 0), .int .i64 (hP s 1), .int .i64 (hP s 2), .int .i64 (hP s 3), .int .i64 (hP s 4), .slice o1 (hV s).length c1, .slice o2 (hL s).length c2], .bool true]) ∧ w.heap.size ≤ b1 ∧ w'.ownsRow b1 3 1 (.slice o1 (hV s).length c1) (hV s).length ((hV s).map (Value.int .i64)) ∧ w.heap.size ≤ b2 ∧ w'.ownsRow b2 71 3 (.slice o2 (hL s).length c2) (hL s).length xs ∧ ECells b2 w' (hL s) xs) ∨ (hOkay s = false ∧ e = .returned (.tuple #[.agg #[.int .i64 0, .int .i64 0, .int .i64 0, .int .i64 0, .int .i64 0, .slice none 0 0, .slice none 0 0], .bool false]))) ∧ Below w.heap.size w w' := by
  have hsI : ¬ (400 : Int) < (s.size : Int) := by omega
  obtain ⟨R, hR⟩ : ∃ R, R = hW s := ⟨_, rfl⟩
  rw [← hR] at h8
  have HYS : Hid (∀ j, j < 7 → (mkB (R.getD j [])).size ≤ 400) := fun j hj => by
    rw [mkB_size]
    have hj8 : j < R.length := by omega
    rw [List.getD_eq_getElem?_getD, List.getElem?_eq_getElem hj8]
    have h1 : R[j] ∈ cutL 32 8 [] s.data.toList := by show R[j] ∈ hW s; rw [← hR]; exact List.getElem_mem hj8
    have := cutL_small 32 8 [] s.data.toList _ h1
    simp at this ⊢
    omega
  have hPR : ∀ k, hP s k = numOf (R.getD k []) := fun k => by rw [hR]; rfl
  obtain ⟨P0, hP0⟩ : ∃ x, x = hP s 0 := ⟨_, rfl⟩
  obtain ⟨P1, hP1⟩ : ∃ x, x = hP s 1 := ⟨_, rfl⟩
  obtain ⟨P2, hP2⟩ : ∃ x, x = hP s 2 := ⟨_, rfl⟩
  obtain ⟨P3, hP3⟩ : ∃ x, x = hP s 3 := ⟨_, rfl⟩
  obtain ⟨P4, hP4⟩ : ∃ x, x = hP s 4 := ⟨_, rfl⟩
  obtain ⟨V, hVV⟩ : ∃ x, x = hV s := ⟨_, rfl⟩
  obtain ⟨L, hLL⟩ : ∃ x, x = hL s := ⟨_, rfl⟩
  obtain ⟨y0, hy0⟩ : ∃ y, y = mkB (R.getD 0 []) := ⟨_, rfl⟩
  obtain ⟨y1, hy1⟩ : ∃ y, y = mkB (R.getD 1 []) := ⟨_, rfl⟩
  obtain ⟨y2, hy2⟩ : ∃ y, y = mkB (R.getD 2 []) := ⟨_, rfl⟩
  obtain ⟨y3, hy3⟩ : ∃ y, y = mkB (R.getD 3 []) := ⟨_, rfl⟩
  obtain ⟨y4, hy4⟩ : ∃ y, y = mkB (R.getD 4 []) := ⟨_, rfl⟩
  obtain ⟨y5, hy5⟩ : ∃ y, y = mkB (R.getD 5 []) := ⟨_, rfl⟩
  obtain ⟨y6, hy6⟩ : ∃ y, y = mkB (R.getD 6 []) := ⟨_, rfl⟩
  have CN0 : Hid (∀ W, Calls Tryd.prog 21 #[.string y0] W fun e w' => e = .returned (.int .i64 P0) ∧ w' = W) := fun W => by
    have := l1Num_any y0 W (by have := HYS.out 0 (by omega); rw [hy0]; unfold maxLen; omega)
    rw [hy0, mkB_list] at this
    rw [hy0, hP0, hPR 0]
    exact this
  have CN1 : Hid (∀ W, Calls Tryd.prog 21 #[.string y1] W fun e w' => e = .returned (.int .i64 P1) ∧ w' = W) := fun W => by
    have := l1Num_any y1 W (by have := HYS.out 1 (by omega); rw [hy1]; unfold maxLen; omega)
    rw [hy1, mkB_list] at this
    rw [hy1, hP1, hPR 1]
    exact this
  have CN2 : Hid (∀ W, Calls Tryd.prog 21 #[.string y2] W fun e w' => e = .returned (.int .i64 P2) ∧ w' = W) := fun W => by
    have := l1Num_any y2 W (by have := HYS.out 2 (by omega); rw [hy2]; unfold maxLen; omega)
    rw [hy2, mkB_list] at this
    rw [hy2, hP2, hPR 2]
    exact this
  have CN3 : Hid (∀ W, Calls Tryd.prog 21 #[.string y3] W fun e w' => e = .returned (.int .i64 P3) ∧ w' = W) := fun W => by
    have := l1Num_any y3 W (by have := HYS.out 3 (by omega); rw [hy3]; unfold maxLen; omega)
    rw [hy3, mkB_list] at this
    rw [hy3, hP3, hPR 3]
    exact this
  have CN4 : Hid (∀ W, Calls Tryd.prog 21 #[.string y4] W fun e w' => e = .returned (.int .i64 P4) ∧ w' = W) := fun W => by
    have := l1Num_any y4 W (by have := HYS.out 4 (by omega); rw [hy4]; unfold maxLen; omega)
    rw [hy4, mkB_list] at this
    rw [hy4, hP4, hPR 4]
    exact this
  have CV : Hid (∀ W, Calls Tryd.prog 22 #[.string y5] W fun e w' => (∃ v : Value, e = .returned v ∧ w'.ownsRow W.heap.size 3 1 v V.length (V.map (Value.int .i64))) ∧ Below W.heap.size W w') := fun W => by
    have := votesGet_any y5 W (by have := HYS.out 5 (by omega); rw [hy5]; omega)
    rw [hy5, mkB_list] at this
    rw [hy5, hVV, show hV s = mVotes (R.getD 5 []) by rw [hR]; rfl]
    exact this
  have CL : Hid (∀ W, Calls Tryd.prog 23 #[.string y6] W fun e w' => (∃ v : Value, e = .returned v ∧ ∃ xs : List Value, w'.ownsRow W.heap.size 71 3 v L.length xs ∧ ECells W.heap.size w' L xs) ∧ Below W.heap.size W w') := fun W => by
    have := listGet_any y6 W (by have := HYS.out 6 (by omega); rw [hy6]; omega)
    rw [hy6, mkB_list] at this
    rw [hy6, hLL, show hL s = mList (R.getD 6 []) by rw [hR]; rfl]
    exact this
  have CC : Hid (∀ W, Calls Tryd.prog 20 #[.string s, .int .u8 32, .int .i64 8] W fun e w' => ∃ v, e = .returned v ∧ w'.ownsRow W.heap.size 9 1 v 8 (R.map strV) ∧ Below W.heap.size W w') := fun W => by
    have h := cut_spec s 32 32 8 W (by unfold maxLen; omega) rfl (by decide)
    have e : cutL 32 8 [] s.data.toList = R := hR.symm
    rw [e, h8] at h
    exact h
  have HRC : Hid (∀ j, j < 7 → (R.map strV)[j]? = some (.string (mkB (R.getD j [])))) := fun j hj => by
    rw [List.getElem?_map, List.getElem?_eq_getElem (by omega), List.getD_eq_getElem?_getD, List.getElem?_eq_getElem (by omega)]
    rfl
  have HVL : Hid (V.length ≤ 4) := by
    show V.length ≤ 4
    rw [hVV]; unfold hV mVotes; split
    · simp
    · have := cutL_most 44 3 [] ((hW s).getD 5 []); rw [List.length_map]; omega
  have HLL : Hid (L.length ≤ 13) := by
    show L.length ≤ 13
    rw [hLL]; unfold hL mList; split
    · simp
    · have := cutL_most 59 12 [] ((hW s).getD 6 []); rw [List.length_map]; omega
  obtain ⟨c0, hc0⟩ : ∃ c, c = msgOkP P0 P1 P2 P3 P4 V L := ⟨_, rfl⟩
  obtain ⟨t, ht⟩ : ∃ t, t = putMsg P0 P1 P2 P3 P4 V L := ⟨_, rfl⟩
  have hoe : hOkay s = (c0 && decide (t = s)) := by rw [hc0, ht, hP0, hP1, hP2, hP3, hP4, hVV, hLL]; rfl
  have HF0 : Hid (c0 = false → hOkay s = false) := fun h => by rw [hoe, h]; rfl
  have HF1 : Hid (c0 = true → t = s → hOkay s = true) := fun h h2 => by rw [hoe, h, h2]; simp
  have HF2 : Hid (c0 = true → ¬ t = s → hOkay s = false) := fun h h2 => by rw [hoe, h]; simp [h2]
  have CO : Hid (∀ W (o1 o2 : Option Addr) (c1 c2 : Nat), NumsAt W o1 V → EntsAt W o2 L → Calls Tryd.prog 24 #[.agg #[.int .i64 P0, .int .i64 P1, .int .i64 P2, .int .i64 P3, .int .i64 P4, .slice o1 V.length c1, .slice o2 L.length c2]] W fun e w' => e = .returned (.bool c0) ∧ Below W.heap.size W w') := fun W o1 o2 c1 c2 h1 h2 => by rw [hc0]; exact l9Ok_any P0 P1 P2 P3 P4 o1 o2 V.length c1 L.length c2 V L W rfl (by have := HVL.out; omega) h1 rfl (by have := HLL.out; omega) h2
  have CP : Hid (c0 = true → ∀ W (o1 o2 : Option Addr) (c1 c2 : Nat), NumsAt W o1 V → EntsAt W o2 L → Calls Tryd.prog 25 #[.agg #[.int .i64 P0, .int .i64 P1, .int .i64 P2, .int .i64 P3, .int .i64 P4, .slice o1 V.length c1, .slice o2 L.length c2]] W fun e w' => e = .returned (.string t) ∧ Below W.heap.size W w') := fun h W o1 o2 c1 c2 h1 h2 => by rw [ht]; exact l9Put_any P0 P1 P2 P3 P4 o1 o2 V.length c1 L.length c2 V L W rfl h1 rfl h2 (by rw [← hc0]; exact h)
  rw [← hP0, ← hP1, ← hP2, ← hP3, ← hP4, ← hVV, ← hLL]
  clear hoe hc0 ht
  have HZ0 : Hid ((w.alloc (.cells #[.int .i64 0, .int .i64 0, .int .i64 0, .int .i64 0, .int .i64 0, .slice none 0 0, .slice none 0 0] 25)).heap[w.heap.size]? = some (.cells #[.int .i64 0, .int .i64 0, .int .i64 0, .int .i64 0, .int .i64 0, .slice none 0 0, .slice none 0 0] 25 (0, 0))) := alloc_new _ _
  have HB0 : Hid (Below w.heap.size w (w.alloc (.cells #[.int .i64 0, .int .i64 0, .int .i64 0, .int .i64 0, .int .i64 0, .slice none 0 0, .slice none 0 0] 25))) := (Below.refl _ _).alloc (Nat.le_refl _) _
  clear hR hPR h8 hs hP0 hP1 hP2 hP3 hP4 hVV hLL HYS
  go_enter Tryd.func9, Tryd.ntmps9
  go_wp2_with fail
  obtain ⟨w0, hw0⟩ : ∃ w0, w0 = w.alloc (.cells #[.int .i64 0, .int .i64 0, .int .i64 0, .int .i64 0, .int .i64 0, .slice none 0 0, .slice none 0 0] 25) := ⟨_, rfl⟩
  rw [← hw0] at HZ0 HB0 ⊢
  clear hw0
  refine (CC.out w0).mono ?_
  rintro e w1 ⟨v1, rfl, hrow, hb⟩
  obtain ⟨g, cp, rfl, hbg, hgw, _, _, hcell⟩ := srow_cells hrow (by omega)
  have x0 : w1.cell? ⟨g, 0, none⟩ = some (.string y0) := by rw [hy0]; exact hcell 0 _ (HRC.out 0 (by omega))
  have x1 : w1.cell? ⟨g, 1, none⟩ = some (.string y1) := by rw [hy1]; exact hcell 1 _ (HRC.out 1 (by omega))
  have x2 : w1.cell? ⟨g, 2, none⟩ = some (.string y2) := by rw [hy2]; exact hcell 2 _ (HRC.out 2 (by omega))
  have x3 : w1.cell? ⟨g, 3, none⟩ = some (.string y3) := by rw [hy3]; exact hcell 3 _ (HRC.out 3 (by omega))
  have x4 : w1.cell? ⟨g, 4, none⟩ = some (.string y4) := by rw [hy4]; exact hcell 4 _ (HRC.out 4 (by omega))
  have x5 : w1.cell? ⟨g, 5, none⟩ = some (.string y5) := by rw [hy5]; exact hcell 5 _ (HRC.out 5 (by omega))
  have x6 : w1.cell? ⟨g, 6, none⟩ = some (.string y6) := by rw [hy6]; exact hcell 6 _ (HRC.out 6 (by omega))
  have HZ1 : Hid (w1.heap[w.heap.size]? = some (.cells #[.int .i64 0, .int .i64 0, .int .i64 0, .int .i64 0, .int .i64 0, .slice none 0 0, .slice none 0 0] 25 (0, 0))) := by show _ = _; rw [hb.block _ (Array.getElem?_eq_some_iff.1 HZ0.out).1]; exact HZ0.out
  have HB1 := hid (HB0.out.trans (hb.mono HB0.out.size))
  have SAT : Hid (∀ w', Below w1.heap.size w1 w' → w'.cell? ⟨g, 0, none⟩ = some (.string y0) ∧ w'.cell? ⟨g, 1, none⟩ = some (.string y1) ∧ w'.cell? ⟨g, 2, none⟩ = some (.string y2) ∧ w'.cell? ⟨g, 3, none⟩ = some (.string y3) ∧ w'.cell? ⟨g, 4, none⟩ = some (.string y4) ∧ w'.cell? ⟨g, 5, none⟩ = some (.string y5) ∧ w'.cell? ⟨g, 6, none⟩ = some (.string y6)) := fun w' hb => ⟨(hb.cell (p := ⟨g, 0, none⟩) hgw).trans x0, (hb.cell (p := ⟨g, 1, none⟩) hgw).trans x1, (hb.cell (p := ⟨g, 2, none⟩) hgw).trans x2, (hb.cell (p := ⟨g, 3, none⟩) hgw).trans x3, (hb.cell (p := ⟨g, 4, none⟩) hgw).trans x4, (hb.cell (p := ⟨g, 5, none⟩) hgw).trans x5, (hb.cell (p := ⟨g, 6, none⟩) hgw).trans x6⟩
  have HD : Hid (Below w1.heap.size w1 w1.drew) := (Below.refl _ _).drew
  clear hrow hb hcell hbg hgw x0 x1 x2 x3 x4 x5 x6 hy0 hy1 hy2 hy3 hy4 hy5 hy6 HRC
  go_wp2_with fail
  refine wp_mono (Q := (fun (e : Exit) (a' : Act) (w' : World) => e = .normal ∧ ∃ (A b1 b2 : Nat) (ov ol : Option Addr) (cv cl : Nat) (xs : List Value), a' = ⟨#[.string s, undef, .pointer (some ⟨w.heap.size, 0, none⟩), .bool false, .slice (some ⟨g, 0, none⟩) 8 cp, .pointer (some ⟨A, 0, none⟩), .string s, .int .i64 (s.size : Int), .bool false, undef, .string s, .slice (some ⟨g, 0, none⟩) 8 cp, .slice (some ⟨g, 0, none⟩) 8 cp, .int .i64 8, .bool false, undef, .slice (some ⟨g, 0, none⟩) 8 cp, .pointer (some ⟨g, 0, none⟩), .string y0, .int .i64 P0, .slice (some ⟨g, 0, none⟩) 8 cp, .pointer (some ⟨g, 1, none⟩), .string y1, .int .i64 P1, .slice (some ⟨g, 0, none⟩) 8 cp, .pointer (some ⟨g, 2, none⟩), .string y2, .int .i64 P2, .slice (some ⟨g, 0, none⟩) 8 cp, .pointer (some ⟨g, 3, none⟩), .string y3, .int .i64 P3, .slice (some ⟨g, 0, none⟩) 8 cp, .pointer (some ⟨g, 4, none⟩), .string y4, .int .i64 P4, .slice (some ⟨g, 0, none⟩) 8 cp, .pointer (some ⟨g, 5, none⟩), .string y5, .slice ov V.length cv, .slice (some ⟨g, 0, none⟩) 8 cp, .pointer (some ⟨g, 6, none⟩), .string y6, .slice ol L.length cl, .agg #[.int .i64 P0, .int .i64 P1, .int .i64 P2, .int .i64 P3, .int .i64 P4, .slice ov V.length cv, .slice ol L.length cl], undef, undef, undef, undef, undef, undef, undef, undef, undef, undef, undef], []⟩ ∧ w'.heap[A]? = some (.cells #[.int .i64 P0, .int .i64 P1, .int .i64 P2, .int .i64 P3, .int .i64 P4, .slice ov V.length cv, .slice ol L.length cl] 25 (0, 0)) ∧ w1.heap.size ≤ A ∧ Below w1.heap.size w1 w' ∧ w1.heap.size ≤ b1 ∧ w1.heap.size ≤ b2 ∧ (w'.ownsRow b1 3 1 (.slice ov V.length cv) V.length (V.map (Value.int .i64))) ∧ (w'.ownsRow b2 71 3 (.slice ol L.length cl) L.length xs) ∧ ECells b2 w' L xs)) ?_ ?_
  · refine wp_region_held_drew (S := (fun w' => w'.cell? ⟨g, 0, none⟩ = some (.string y0) ∧ w'.cell? ⟨g, 1, none⟩ = some (.string y1) ∧ w'.cell? ⟨g, 2, none⟩ = some (.string y2) ∧ w'.cell? ⟨g, 3, none⟩ = some (.string y3) ∧ w'.cell? ⟨g, 4, none⟩ = some (.string y4) ∧ w'.cell? ⟨g, 5, none⟩ = some (.string y5) ∧ w'.cell? ⟨g, 6, none⟩ = some (.string y6))) (by kernel_rfl) (SAT.out _ HD.out) (fun hS => ?_)
    obtain ⟨w2, hw2⟩ : ∃ w2, w2 = w1.drew := ⟨_, rfl⟩
    rw [← hw2] at hS HD ⊢
    clear hw2
    refine takeH_on 0 (v := ?_) rfl rfl (by kernel_rfl) (by kernel_rfl) (by kernel_rfl) (fun _ _ _ h => by cases h.1) (by rfl) hS (fun w hSw => ?_) ?_
    rotate_left
    · ((try dsimp only at hSw); go_simp; try with_reducible rfl)
    simp only [List.setIfInBounds_toArray, List.set_cons_zero, List.set_cons_succ]
    refine takeH_on 1 (v := .pointer (some ⟨g, 0, none⟩)) rfl rfl (by kernel_rfl) (by kernel_rfl) (by kernel_rfl) (fun _ _ _ h => by cases h.1) (by rfl) hS (fun w hSw => ?_) ?_
    · ((try dsimp only at hSw); go_simp; (try rfl))
    simp only [List.setIfInBounds_toArray, List.set_cons_zero, List.set_cons_succ]
    refine takeH_on 2 (v := ?_) rfl rfl (by kernel_rfl) (by kernel_rfl) (by kernel_rfl) (fun _ _ _ h => by cases h.1) (by rfl) hS (fun w hSw => ?_) ?_
    rotate_left
    · ((try dsimp only at hSw); go_simp; try with_reducible rfl)
    simp only [List.setIfInBounds_toArray, List.set_cons_zero, List.set_cons_succ]
    refine takeH_on 4 (v := ?_) rfl rfl (by kernel_rfl) (by kernel_rfl) (by kernel_rfl) (fun _ _ _ h => by cases h.1) (by rfl) hS (fun w hSw => ?_) ?_
    rotate_left
    · ((try dsimp only at hSw); go_simp; try with_reducible rfl)
    simp only [List.setIfInBounds_toArray, List.set_cons_zero, List.set_cons_succ]
    refine takeH_on 5 (v := .pointer (some ⟨g, 1, none⟩)) rfl rfl (by kernel_rfl) (by kernel_rfl) (by kernel_rfl) (fun _ _ _ h => by cases h.1) (by rfl) hS (fun w hSw => ?_) ?_
    · ((try dsimp only at hSw); go_simp; (try rfl))
    simp only [List.setIfInBounds_toArray, List.set_cons_zero, List.set_cons_succ]
    refine takeH_on 6 (v := ?_) rfl rfl (by kernel_rfl) (by kernel_rfl) (by kernel_rfl) (fun _ _ _ h => by cases h.1) (by rfl) hS (fun w hSw => ?_) ?_
    rotate_left
    · ((try dsimp only at hSw); go_simp; try with_reducible rfl)
    simp only [List.setIfInBounds_toArray, List.set_cons_zero, List.set_cons_succ]
    refine takeH_on 8 (v := ?_) rfl rfl (by kernel_rfl) (by kernel_rfl) (by kernel_rfl) (fun _ _ _ h => by cases h.1) (by rfl) hS (fun w hSw => ?_) ?_
    rotate_left
    · ((try dsimp only at hSw); go_simp; try with_reducible rfl)
    simp only [List.setIfInBounds_toArray, List.set_cons_zero, List.set_cons_succ]
    refine takeH_on 9 (v := .pointer (some ⟨g, 2, none⟩)) rfl rfl (by kernel_rfl) (by kernel_rfl) (by kernel_rfl) (fun _ _ _ h => by cases h.1) (by rfl) hS (fun w hSw => ?_) ?_
    · ((try dsimp only at hSw); go_simp; (try rfl))
    simp only [List.setIfInBounds_toArray, List.set_cons_zero, List.set_cons_succ]
    refine takeH_on 10 (v := ?_) rfl rfl (by kernel_rfl) (by kernel_rfl) (by kernel_rfl) (fun _ _ _ h => by cases h.1) (by rfl) hS (fun w hSw => ?_) ?_
    rotate_left
    · ((try dsimp only at hSw); go_simp; try with_reducible rfl)
    simp only [List.setIfInBounds_toArray, List.set_cons_zero, List.set_cons_succ]
    refine takeH_on 12 (v := ?_) rfl rfl (by kernel_rfl) (by kernel_rfl) (by kernel_rfl) (fun _ _ _ h => by cases h.1) (by rfl) hS (fun w hSw => ?_) ?_
    rotate_left
    · ((try dsimp only at hSw); go_simp; try with_reducible rfl)
    simp only [List.setIfInBounds_toArray, List.set_cons_zero, List.set_cons_succ]
    refine takeH_on 13 (v := .pointer (some ⟨g, 3, none⟩)) rfl rfl (by kernel_rfl) (by kernel_rfl) (by kernel_rfl) (fun _ _ _ h => by cases h.1) (by rfl) hS (fun w hSw => ?_) ?_
    · ((try dsimp only at hSw); go_simp; (try rfl))
    simp only [List.setIfInBounds_toArray, List.set_cons_zero, List.set_cons_succ]
    refine takeH_on 14 (v := ?_) rfl rfl (by kernel_rfl) (by kernel_rfl) (by kernel_rfl) (fun _ _ _ h => by cases h.1) (by rfl) hS (fun w hSw => ?_) ?_
    rotate_left
    · ((try dsimp only at hSw); go_simp; try with_reducible rfl)
    simp only [List.setIfInBounds_toArray, List.set_cons_zero, List.set_cons_succ]
    refine takeH_on 16 (v := ?_) rfl rfl (by kernel_rfl) (by kernel_rfl) (by kernel_rfl) (fun _ _ _ h => by cases h.1) (by rfl) hS (fun w hSw => ?_) ?_
    rotate_left
    · ((try dsimp only at hSw); go_simp; try with_reducible rfl)
    simp only [List.setIfInBounds_toArray, List.set_cons_zero, List.set_cons_succ]
    refine takeH_on 17 (v := .pointer (some ⟨g, 4, none⟩)) rfl rfl (by kernel_rfl) (by kernel_rfl) (by kernel_rfl) (fun _ _ _ h => by cases h.1) (by rfl) hS (fun w hSw => ?_) ?_
    · ((try dsimp only at hSw); go_simp; (try rfl))
    simp only [List.setIfInBounds_toArray, List.set_cons_zero, List.set_cons_succ]
    refine takeH_on 18 (v := ?_) rfl rfl (by kernel_rfl) (by kernel_rfl) (by kernel_rfl) (fun _ _ _ h => by cases h.1) (by rfl) hS (fun w hSw => ?_) ?_
    rotate_left
    · ((try dsimp only at hSw); go_simp; try with_reducible rfl)
    simp only [List.setIfInBounds_toArray, List.set_cons_zero, List.set_cons_succ]
    refine takeH_on 20 (v := ?_) rfl rfl (by kernel_rfl) (by kernel_rfl) (by kernel_rfl) (fun _ _ _ h => by cases h.1) (by rfl) hS (fun w hSw => ?_) ?_
    rotate_left
    · ((try dsimp only at hSw); go_simp; try with_reducible rfl)
    simp only [List.setIfInBounds_toArray, List.set_cons_zero, List.set_cons_succ]
    refine takeH_on 21 (v := .pointer (some ⟨g, 5, none⟩)) rfl rfl (by kernel_rfl) (by kernel_rfl) (by kernel_rfl) (fun _ _ _ h => by cases h.1) (by rfl) hS (fun w hSw => ?_) ?_
    · ((try dsimp only at hSw); go_simp; (try rfl))
    simp only [List.setIfInBounds_toArray, List.set_cons_zero, List.set_cons_succ]
    refine takeH_on 22 (v := ?_) rfl rfl (by kernel_rfl) (by kernel_rfl) (by kernel_rfl) (fun _ _ _ h => by cases h.1) (by rfl) hS (fun w hSw => ?_) ?_
    rotate_left
    · ((try dsimp only at hSw); go_simp; try with_reducible rfl)
    simp only [List.setIfInBounds_toArray, List.set_cons_zero, List.set_cons_succ]
    refine takeH_on 24 (v := ?_) rfl rfl (by kernel_rfl) (by kernel_rfl) (by kernel_rfl) (fun _ _ _ h => by cases h.1) (by rfl) hS (fun w hSw => ?_) ?_
    rotate_left
    · ((try dsimp only at hSw); go_simp; try with_reducible rfl)
    simp only [List.setIfInBounds_toArray, List.set_cons_zero, List.set_cons_succ]
    refine takeH_on 25 (v := .pointer (some ⟨g, 6, none⟩)) rfl rfl (by kernel_rfl) (by kernel_rfl) (by kernel_rfl) (fun _ _ _ h => by cases h.1) (by rfl) hS (fun w hSw => ?_) ?_
    · ((try dsimp only at hSw); go_simp; (try rfl))
    simp only [List.setIfInBounds_toArray, List.set_cons_zero, List.set_cons_succ]
    refine takeH_on 26 (v := ?_) rfl rfl (by kernel_rfl) (by kernel_rfl) (by kernel_rfl) (fun _ _ _ h => by cases h.1) (by rfl) hS (fun w hSw => ?_) ?_
    rotate_left
    · ((try dsimp only at hSw); go_simp; try with_reducible rfl)
    simp only [List.setIfInBounds_toArray, List.set_cons_zero, List.set_cons_succ]
    refine wpAnyH_ready (rs := [3, 29]) (by kernel_rfl) (by simp) (AllReadyH.cons rfl (fun K hK => ?_) (AllReadyH.cons rfl (fun K hK => ?_) AllReadyH.nil))
    · clear hS
      go_simp
      go_wp2_with fail
      refine (CN0.out _).mono ?_
      rintro e v ⟨rfl, hv⟩
      rw [hv]
      clear hv v
      refine Shut.out hK _ _ (SAT.out _ HD.out) (fun hS => ?_)
      clear hK K
      refine wpAnyH_ready (rs := [7, 29]) (by kernel_rfl) (by simp) (AllReadyH.cons rfl (fun K hK => ?_) (AllReadyH.cons rfl (fun K hK => ?_) AllReadyH.nil))
      · clear hS
        go_simp
        go_wp2_with fail
        refine (CN1.out _).mono ?_
        rintro e v ⟨rfl, hv⟩
        rw [hv]
        clear hv v
        refine Shut.out hK _ _ (SAT.out _ HD.out) (fun hS => ?_)
        clear hK K
        refine wpAnyH_ready (rs := [11, 29]) (by kernel_rfl) (by simp) (AllReadyH.cons rfl (fun K hK => ?_) (AllReadyH.cons rfl (fun K hK => ?_) AllReadyH.nil))
        · clear hS
          go_simp
          go_wp2_with fail
          refine (CN2.out _).mono ?_
          rintro e v ⟨rfl, hv⟩
          rw [hv]
          clear hv v
          refine Shut.out hK _ _ (SAT.out _ HD.out) (fun hS => ?_)
          clear hK K
          refine wpAnyH_ready (rs := [15, 29]) (by kernel_rfl) (by simp) (AllReadyH.cons rfl (fun K hK => ?_) (AllReadyH.cons rfl (fun K hK => ?_) AllReadyH.nil))
          · clear hS
            go_simp
            go_wp2_with fail
            refine (CN3.out _).mono ?_
            rintro e v ⟨rfl, hv⟩
            rw [hv]
            clear hv v
            refine Shut.out hK _ _ (SAT.out _ HD.out) (fun hS => ?_)
            clear hK K
            refine wpAnyH_ready (rs := [19, 29]) (by kernel_rfl) (by simp) (AllReadyH.cons rfl (fun K hK => ?_) (AllReadyH.cons rfl (fun K hK => ?_) AllReadyH.nil))
            · clear hS
              go_simp
              go_wp2_with fail
              refine (CN4.out _).mono ?_
              rintro e v ⟨rfl, hv⟩
              rw [hv]
              clear hv v
              refine Shut.out hK _ _ (SAT.out _ HD.out) (fun hS => ?_)
              clear hK K
              refine wpAnyH_ready (rs := [23, 29]) (by kernel_rfl) (by simp) (AllReadyH.cons rfl (fun K hK => ?_) (AllReadyH.cons rfl (fun K hK => ?_) AllReadyH.nil))
              · clear hS
                go_simp
                go_wp2_with fail
                refine (CV.out _).mono ?_
                rintro e v8 ⟨⟨vv, rfl, hrv⟩, hb⟩
                obtain ⟨ov, cv, rfl⟩ := rv_shape hrv
                have HBv8 := hid (HD.out.trans (hb.mono HD.out.size))
                have HVv8 := hid hrv
                have hq1 : w1.heap.size ≤ w2.heap.size := HD.out.size
                clear hrv hb
                refine Shut.out hK _ _ (SAT.out _ HBv8.out) (fun hS => ?_)
                clear hK K
                refine wpAnyH_ready (rs := [27, 29]) (by kernel_rfl) (by simp) (AllReadyH.cons rfl (fun K hK => ?_) (AllReadyH.cons rfl (fun K hK => ?_) AllReadyH.nil))
                · clear hS
                  go_simp
                  go_wp2_with fail
                  refine (CL.out _).mono ?_
                  rintro e v9 ⟨⟨vl, rfl, xs, hrl, hx⟩, hb⟩
                  obtain ⟨ol, cl, rfl⟩ := rv_shape hrl
                  have HBv9 := hid (HBv8.out.trans (hb.mono HBv8.out.size))
                  have HVv9 := hid (row_below HVv8.out hb)
                  have HLv9 := hid hrl
                  have HXv9 := hid hx
                  have hq2 : w1.heap.size ≤ v8.heap.size := HBv8.out.size
                  clear hrl hx hb
                  refine Shut.out hK _ _ (SAT.out _ HBv9.out) (fun hS => ?_)
                  clear hK K
                  refine takeH_on 28 (v := ?_) rfl rfl (by kernel_rfl) (by kernel_rfl) (by kernel_rfl) (fun _ _ _ h => by cases h.1) (by rfl) hS (fun w hSw => ?_) ?_
                  rotate_left
                  · ((try dsimp only at hSw); go_simp; try with_reducible rfl)
                  simp only [List.setIfInBounds_toArray, List.set_cons_zero, List.set_cons_succ]
                  refine wpAnyH_ready (rs := [29]) (by kernel_rfl) (by simp) (AllReadyH.cons rfl (fun K hK => ?_) AllReadyH.nil)
                  clear hS
                  go_simp
                  obtain ⟨wA, hwA⟩ : ∃ wA, wA = v9.alloc (.cells #[.int .i64 0, .int .i64 0, .int .i64 0, .int .i64 0, .int .i64 0, .slice none 0 0, .slice none 0 0] 25) := ⟨_, rfl⟩
                  rw [← hwA]
                  have hal : Below v9.heap.size v9 wA := by rw [hwA]; exact (Below.refl _ _).alloc (Nat.le_refl _) _
                  have HMA : Hid (wA.heap[v9.heap.size]? = some (.cells #[.int .i64 0, .int .i64 0, .int .i64 0, .int .i64 0, .int .i64 0, .slice none 0 0, .slice none 0 0] 25 (0, 0))) := by rw [hwA]; exact alloc_new _ _
                  have HBA := hid (HBv9.out.trans (hal.mono HBv9.out.size))
                  have hqA : w1.heap.size ≤ v9.heap.size := HBv9.out.size
                  have HVA := hid (row_below HVv9.out hal)
                  have HLA := hid (row_below HLv9.out hal)
                  have HXA := hid (HXv9.out.kept (fun b cur fz hbb hh => kept_below hal b cur fz hbb hh))
                  clear hwA hal
                  refine Shut.out hK _ _ (SAT.out _ HBA.out) (fun hS => ?_)
                  clear hK K
                  refine wpAnyH_ready (rs := [30]) (by kernel_rfl) (by simp) (AllReadyH.cons rfl (fun K hK => ?_) AllReadyH.nil)
                  clear hS
                  have m0 : wA.cell? ⟨v9.heap.size, 0, none⟩ = some (.int .i64 0) := by rw [in_block HMA.out 0]; rfl
                  have m1 : wA.cell? ⟨v9.heap.size, 1, none⟩ = some (.int .i64 0) := by rw [in_block HMA.out 1]; rfl
                  have m2 : wA.cell? ⟨v9.heap.size, 2, none⟩ = some (.int .i64 0) := by rw [in_block HMA.out 2]; rfl
                  have m3 : wA.cell? ⟨v9.heap.size, 3, none⟩ = some (.int .i64 0) := by rw [in_block HMA.out 3]; rfl
                  have m4 : wA.cell? ⟨v9.heap.size, 4, none⟩ = some (.int .i64 0) := by rw [in_block HMA.out 4]; rfl
                  have m5 : wA.cell? ⟨v9.heap.size, 5, none⟩ = some (.slice none 0 0) := by rw [in_block HMA.out 5]; rfl
                  have m6 : wA.cell? ⟨v9.heap.size, 6, none⟩ = some (.slice none 0 0) := by rw [in_block HMA.out 6]; rfl
                  have fm0 : wA.frozen? ⟨v9.heap.size, 0, none⟩ = false := free_block HMA.out 0
                  have fm1 : wA.frozen? ⟨v9.heap.size, 1, none⟩ = false := free_block HMA.out 1
                  have fm2 : wA.frozen? ⟨v9.heap.size, 2, none⟩ = false := free_block HMA.out 2
                  have fm3 : wA.frozen? ⟨v9.heap.size, 3, none⟩ = false := free_block HMA.out 3
                  have fm4 : wA.frozen? ⟨v9.heap.size, 4, none⟩ = false := free_block HMA.out 4
                  have fm5 : wA.frozen? ⟨v9.heap.size, 5, none⟩ = false := free_block HMA.out 5
                  have fm6 : wA.frozen? ⟨v9.heap.size, 6, none⟩ = false := free_block HMA.out 6
                  go_simp
                  have h7 := seven (P0 := P0) (P1 := P1) (P2 := P2) (P3 := P3) (P4 := P4) HMA.out HBA.out hqA HVA.out HLA.out HXA.out
                  clear m0 fm0 m1 fm1 m2 fm2 m3 fm3 m4 fm4 m5 fm5 m6 fm6
                  refine Shut.out hK _ _ (SAT.out _ h7.2.1) (fun hS => ?_)
                  clear hK K
                  refine wpAnyH_done (by kernel_rfl) ?_ _
                  exact ⟨rfl, v9.heap.size, w2.heap.size, v8.heap.size, ov, ol, cv, cl, xs, rfl, h7.1, hqA, h7.2.1, hq1, hq2, h7.2.2.1, h7.2.2.2.1, h7.2.2.2.2⟩
                · clear hS
                  go_simp
                  obtain ⟨wA, hwA⟩ : ∃ wA, wA = v8.alloc (.cells #[.int .i64 0, .int .i64 0, .int .i64 0, .int .i64 0, .int .i64 0, .slice none 0 0, .slice none 0 0] 25) := ⟨_, rfl⟩
                  rw [← hwA]
                  have hal : Below v8.heap.size v8 wA := by rw [hwA]; exact (Below.refl _ _).alloc (Nat.le_refl _) _
                  have HMA : Hid (wA.heap[v8.heap.size]? = some (.cells #[.int .i64 0, .int .i64 0, .int .i64 0, .int .i64 0, .int .i64 0, .slice none 0 0, .slice none 0 0] 25 (0, 0))) := by rw [hwA]; exact alloc_new _ _
                  have HBA := hid (HBv8.out.trans (hal.mono HBv8.out.size))
                  have hqA : w1.heap.size ≤ v8.heap.size := HBv8.out.size
                  have HVA := hid (row_below HVv8.out hal)
                  clear hwA hal
                  refine Shut.out hK _ _ (SAT.out _ HBA.out) (fun hS => ?_)
                  clear hK K
                  refine wpAnyH_ready (rs := [27]) (by kernel_rfl) (by simp) (AllReadyH.cons rfl (fun K hK => ?_) AllReadyH.nil)
                  clear hS
                  go_simp
                  go_wp2_with fail
                  refine (CL.out _).mono ?_
                  rintro e v10 ⟨⟨vl, rfl, xs, hrl, hx⟩, hb⟩
                  obtain ⟨ol, cl, rfl⟩ := rv_shape hrl
                  have HBv10 := hid (HBA.out.trans (hb.mono HBA.out.size))
                  have HVv10 := hid (row_below HVA.out hb)
                  have HLv10 := hid hrl
                  have HXv10 := hid hx
                  have hq2 : w1.heap.size ≤ wA.heap.size := HBA.out.size
                  have HMv10 := hid (blk_below HMA.out hb)
                  clear hrl hx hb
                  refine Shut.out hK _ _ (SAT.out _ HBv10.out) (fun hS => ?_)
                  clear hK K
                  refine takeH_on 28 (v := ?_) rfl rfl (by kernel_rfl) (by kernel_rfl) (by kernel_rfl) (fun _ _ _ h => by cases h.1) (by rfl) hS (fun w hSw => ?_) ?_
                  rotate_left
                  · ((try dsimp only at hSw); go_simp; try with_reducible rfl)
                  simp only [List.setIfInBounds_toArray, List.set_cons_zero, List.set_cons_succ]
                  refine wpAnyH_ready (rs := [30]) (by kernel_rfl) (by simp) (AllReadyH.cons rfl (fun K hK => ?_) AllReadyH.nil)
                  clear hS
                  have m0 : v10.cell? ⟨v8.heap.size, 0, none⟩ = some (.int .i64 0) := by rw [in_block HMv10.out 0]; rfl
                  have m1 : v10.cell? ⟨v8.heap.size, 1, none⟩ = some (.int .i64 0) := by rw [in_block HMv10.out 1]; rfl
                  have m2 : v10.cell? ⟨v8.heap.size, 2, none⟩ = some (.int .i64 0) := by rw [in_block HMv10.out 2]; rfl
                  have m3 : v10.cell? ⟨v8.heap.size, 3, none⟩ = some (.int .i64 0) := by rw [in_block HMv10.out 3]; rfl
                  have m4 : v10.cell? ⟨v8.heap.size, 4, none⟩ = some (.int .i64 0) := by rw [in_block HMv10.out 4]; rfl
                  have m5 : v10.cell? ⟨v8.heap.size, 5, none⟩ = some (.slice none 0 0) := by rw [in_block HMv10.out 5]; rfl
                  have m6 : v10.cell? ⟨v8.heap.size, 6, none⟩ = some (.slice none 0 0) := by rw [in_block HMv10.out 6]; rfl
                  have fm0 : v10.frozen? ⟨v8.heap.size, 0, none⟩ = false := free_block HMv10.out 0
                  have fm1 : v10.frozen? ⟨v8.heap.size, 1, none⟩ = false := free_block HMv10.out 1
                  have fm2 : v10.frozen? ⟨v8.heap.size, 2, none⟩ = false := free_block HMv10.out 2
                  have fm3 : v10.frozen? ⟨v8.heap.size, 3, none⟩ = false := free_block HMv10.out 3
                  have fm4 : v10.frozen? ⟨v8.heap.size, 4, none⟩ = false := free_block HMv10.out 4
                  have fm5 : v10.frozen? ⟨v8.heap.size, 5, none⟩ = false := free_block HMv10.out 5
                  have fm6 : v10.frozen? ⟨v8.heap.size, 6, none⟩ = false := free_block HMv10.out 6
                  go_simp
                  have h7 := seven (P0 := P0) (P1 := P1) (P2 := P2) (P3 := P3) (P4 := P4) HMv10.out HBv10.out hqA HVv10.out HLv10.out HXv10.out
                  clear m0 fm0 m1 fm1 m2 fm2 m3 fm3 m4 fm4 m5 fm5 m6 fm6
                  refine Shut.out hK _ _ (SAT.out _ h7.2.1) (fun hS => ?_)
                  clear hK K
                  refine wpAnyH_done (by kernel_rfl) ?_ _
                  exact ⟨rfl, v8.heap.size, w2.heap.size, wA.heap.size, ov, ol, cv, cl, xs, rfl, h7.1, hqA, h7.2.1, hq1, hq2, h7.2.2.1, h7.2.2.2.1, h7.2.2.2.2⟩
              · clear hS
                go_simp
                obtain ⟨wA, hwA⟩ : ∃ wA, wA = w2.alloc (.cells #[.int .i64 0, .int .i64 0, .int .i64 0, .int .i64 0, .int .i64 0, .slice none 0 0, .slice none 0 0] 25) := ⟨_, rfl⟩
                rw [← hwA]
                have hal : Below w2.heap.size w2 wA := by rw [hwA]; exact (Below.refl _ _).alloc (Nat.le_refl _) _
                have HMA : Hid (wA.heap[w2.heap.size]? = some (.cells #[.int .i64 0, .int .i64 0, .int .i64 0, .int .i64 0, .int .i64 0, .slice none 0 0, .slice none 0 0] 25 (0, 0))) := by rw [hwA]; exact alloc_new _ _
                have HBA := hid (HD.out.trans (hal.mono HD.out.size))
                have hqA : w1.heap.size ≤ w2.heap.size := HD.out.size
                clear hwA hal
                refine Shut.out hK _ _ (SAT.out _ HBA.out) (fun hS => ?_)
                clear hK K
                refine wpAnyH_ready (rs := [23]) (by kernel_rfl) (by simp) (AllReadyH.cons rfl (fun K hK => ?_) AllReadyH.nil)
                clear hS
                go_simp
                go_wp2_with fail
                refine (CV.out _).mono ?_
                rintro e v9 ⟨⟨vv, rfl, hrv⟩, hb⟩
                obtain ⟨ov, cv, rfl⟩ := rv_shape hrv
                have HBv9 := hid (HBA.out.trans (hb.mono HBA.out.size))
                have HVv9 := hid hrv
                have hq1 : w1.heap.size ≤ wA.heap.size := HBA.out.size
                have HMv9 := hid (blk_below HMA.out hb)
                clear hrv hb
                refine Shut.out hK _ _ (SAT.out _ HBv9.out) (fun hS => ?_)
                clear hK K
                refine wpAnyH_ready (rs := [27]) (by kernel_rfl) (by simp) (AllReadyH.cons rfl (fun K hK => ?_) AllReadyH.nil)
                clear hS
                go_simp
                go_wp2_with fail
                refine (CL.out _).mono ?_
                rintro e v10 ⟨⟨vl, rfl, xs, hrl, hx⟩, hb⟩
                obtain ⟨ol, cl, rfl⟩ := rv_shape hrl
                have HBv10 := hid (HBv9.out.trans (hb.mono HBv9.out.size))
                have HVv10 := hid (row_below HVv9.out hb)
                have HLv10 := hid hrl
                have HXv10 := hid hx
                have hq2 : w1.heap.size ≤ v9.heap.size := HBv9.out.size
                have HMv10 := hid (blk_below HMv9.out hb)
                clear hrl hx hb
                refine Shut.out hK _ _ (SAT.out _ HBv10.out) (fun hS => ?_)
                clear hK K
                refine takeH_on 28 (v := ?_) rfl rfl (by kernel_rfl) (by kernel_rfl) (by kernel_rfl) (fun _ _ _ h => by cases h.1) (by rfl) hS (fun w hSw => ?_) ?_
                rotate_left
                · ((try dsimp only at hSw); go_simp; try with_reducible rfl)
                simp only [List.setIfInBounds_toArray, List.set_cons_zero, List.set_cons_succ]
                refine wpAnyH_ready (rs := [30]) (by kernel_rfl) (by simp) (AllReadyH.cons rfl (fun K hK => ?_) AllReadyH.nil)
                clear hS
                have m0 : v10.cell? ⟨w2.heap.size, 0, none⟩ = some (.int .i64 0) := by rw [in_block HMv10.out 0]; rfl
                have m1 : v10.cell? ⟨w2.heap.size, 1, none⟩ = some (.int .i64 0) := by rw [in_block HMv10.out 1]; rfl
                have m2 : v10.cell? ⟨w2.heap.size, 2, none⟩ = some (.int .i64 0) := by rw [in_block HMv10.out 2]; rfl
                have m3 : v10.cell? ⟨w2.heap.size, 3, none⟩ = some (.int .i64 0) := by rw [in_block HMv10.out 3]; rfl
                have m4 : v10.cell? ⟨w2.heap.size, 4, none⟩ = some (.int .i64 0) := by rw [in_block HMv10.out 4]; rfl
                have m5 : v10.cell? ⟨w2.heap.size, 5, none⟩ = some (.slice none 0 0) := by rw [in_block HMv10.out 5]; rfl
                have m6 : v10.cell? ⟨w2.heap.size, 6, none⟩ = some (.slice none 0 0) := by rw [in_block HMv10.out 6]; rfl
                have fm0 : v10.frozen? ⟨w2.heap.size, 0, none⟩ = false := free_block HMv10.out 0
                have fm1 : v10.frozen? ⟨w2.heap.size, 1, none⟩ = false := free_block HMv10.out 1
                have fm2 : v10.frozen? ⟨w2.heap.size, 2, none⟩ = false := free_block HMv10.out 2
                have fm3 : v10.frozen? ⟨w2.heap.size, 3, none⟩ = false := free_block HMv10.out 3
                have fm4 : v10.frozen? ⟨w2.heap.size, 4, none⟩ = false := free_block HMv10.out 4
                have fm5 : v10.frozen? ⟨w2.heap.size, 5, none⟩ = false := free_block HMv10.out 5
                have fm6 : v10.frozen? ⟨w2.heap.size, 6, none⟩ = false := free_block HMv10.out 6
                go_simp
                have h7 := seven (P0 := P0) (P1 := P1) (P2 := P2) (P3 := P3) (P4 := P4) HMv10.out HBv10.out hqA HVv10.out HLv10.out HXv10.out
                clear m0 fm0 m1 fm1 m2 fm2 m3 fm3 m4 fm4 m5 fm5 m6 fm6
                refine Shut.out hK _ _ (SAT.out _ h7.2.1) (fun hS => ?_)
                clear hK K
                refine wpAnyH_done (by kernel_rfl) ?_ _
                exact ⟨rfl, w2.heap.size, wA.heap.size, v9.heap.size, ov, ol, cv, cl, xs, rfl, h7.1, hqA, h7.2.1, hq1, hq2, h7.2.2.1, h7.2.2.2.1, h7.2.2.2.2⟩
            · clear hS
              go_simp
              obtain ⟨wA, hwA⟩ : ∃ wA, wA = w2.alloc (.cells #[.int .i64 0, .int .i64 0, .int .i64 0, .int .i64 0, .int .i64 0, .slice none 0 0, .slice none 0 0] 25) := ⟨_, rfl⟩
              rw [← hwA]
              have hal : Below w2.heap.size w2 wA := by rw [hwA]; exact (Below.refl _ _).alloc (Nat.le_refl _) _
              have HMA : Hid (wA.heap[w2.heap.size]? = some (.cells #[.int .i64 0, .int .i64 0, .int .i64 0, .int .i64 0, .int .i64 0, .slice none 0 0, .slice none 0 0] 25 (0, 0))) := by rw [hwA]; exact alloc_new _ _
              have HBA := hid (HD.out.trans (hal.mono HD.out.size))
              have hqA : w1.heap.size ≤ w2.heap.size := HD.out.size
              clear hwA hal
              refine Shut.out hK _ _ (SAT.out _ HBA.out) (fun hS => ?_)
              clear hK K
              refine wpAnyH_ready (rs := [19]) (by kernel_rfl) (by simp) (AllReadyH.cons rfl (fun K hK => ?_) AllReadyH.nil)
              clear hS
              go_simp
              go_wp2_with fail
              refine (CN4.out _).mono ?_
              rintro e v ⟨rfl, hv⟩
              rw [hv]
              clear hv v
              refine Shut.out hK _ _ (SAT.out _ HBA.out) (fun hS => ?_)
              clear hK K
              refine wpAnyH_ready (rs := [23]) (by kernel_rfl) (by simp) (AllReadyH.cons rfl (fun K hK => ?_) AllReadyH.nil)
              clear hS
              go_simp
              go_wp2_with fail
              refine (CV.out _).mono ?_
              rintro e v9 ⟨⟨vv, rfl, hrv⟩, hb⟩
              obtain ⟨ov, cv, rfl⟩ := rv_shape hrv
              have HBv9 := hid (HBA.out.trans (hb.mono HBA.out.size))
              have HVv9 := hid hrv
              have hq1 : w1.heap.size ≤ wA.heap.size := HBA.out.size
              have HMv9 := hid (blk_below HMA.out hb)
              clear hrv hb
              refine Shut.out hK _ _ (SAT.out _ HBv9.out) (fun hS => ?_)
              clear hK K
              refine wpAnyH_ready (rs := [27]) (by kernel_rfl) (by simp) (AllReadyH.cons rfl (fun K hK => ?_) AllReadyH.nil)
              clear hS
              go_simp
              go_wp2_with fail
              refine (CL.out _).mono ?_
              rintro e v10 ⟨⟨vl, rfl, xs, hrl, hx⟩, hb⟩
              obtain ⟨ol, cl, rfl⟩ := rv_shape hrl
              have HBv10 := hid (HBv9.out.trans (hb.mono HBv9.out.size))
              have HVv10 := hid (row_below HVv9.out hb)
              have HLv10 := hid hrl
              have HXv10 := hid hx
              have hq2 : w1.heap.size ≤ v9.heap.size := HBv9.out.size
              have HMv10 := hid (blk_below HMv9.out hb)
              clear hrl hx hb
              refine Shut.out hK _ _ (SAT.out _ HBv10.out) (fun hS => ?_)
              clear hK K
              refine takeH_on 28 (v := ?_) rfl rfl (by kernel_rfl) (by kernel_rfl) (by kernel_rfl) (fun _ _ _ h => by cases h.1) (by rfl) hS (fun w hSw => ?_) ?_
              rotate_left
              · ((try dsimp only at hSw); go_simp; try with_reducible rfl)
              simp only [List.setIfInBounds_toArray, List.set_cons_zero, List.set_cons_succ]
              refine wpAnyH_ready (rs := [30]) (by kernel_rfl) (by simp) (AllReadyH.cons rfl (fun K hK => ?_) AllReadyH.nil)
              clear hS
              have m0 : v10.cell? ⟨w2.heap.size, 0, none⟩ = some (.int .i64 0) := by rw [in_block HMv10.out 0]; rfl
              have m1 : v10.cell? ⟨w2.heap.size, 1, none⟩ = some (.int .i64 0) := by rw [in_block HMv10.out 1]; rfl
              have m2 : v10.cell? ⟨w2.heap.size, 2, none⟩ = some (.int .i64 0) := by rw [in_block HMv10.out 2]; rfl
              have m3 : v10.cell? ⟨w2.heap.size, 3, none⟩ = some (.int .i64 0) := by rw [in_block HMv10.out 3]; rfl
              have m4 : v10.cell? ⟨w2.heap.size, 4, none⟩ = some (.int .i64 0) := by rw [in_block HMv10.out 4]; rfl
              have m5 : v10.cell? ⟨w2.heap.size, 5, none⟩ = some (.slice none 0 0) := by rw [in_block HMv10.out 5]; rfl
              have m6 : v10.cell? ⟨w2.heap.size, 6, none⟩ = some (.slice none 0 0) := by rw [in_block HMv10.out 6]; rfl
              have fm0 : v10.frozen? ⟨w2.heap.size, 0, none⟩ = false := free_block HMv10.out 0
              have fm1 : v10.frozen? ⟨w2.heap.size, 1, none⟩ = false := free_block HMv10.out 1
              have fm2 : v10.frozen? ⟨w2.heap.size, 2, none⟩ = false := free_block HMv10.out 2
              have fm3 : v10.frozen? ⟨w2.heap.size, 3, none⟩ = false := free_block HMv10.out 3
              have fm4 : v10.frozen? ⟨w2.heap.size, 4, none⟩ = false := free_block HMv10.out 4
              have fm5 : v10.frozen? ⟨w2.heap.size, 5, none⟩ = false := free_block HMv10.out 5
              have fm6 : v10.frozen? ⟨w2.heap.size, 6, none⟩ = false := free_block HMv10.out 6
              go_simp
              have h7 := seven (P0 := P0) (P1 := P1) (P2 := P2) (P3 := P3) (P4 := P4) HMv10.out HBv10.out hqA HVv10.out HLv10.out HXv10.out
              clear m0 fm0 m1 fm1 m2 fm2 m3 fm3 m4 fm4 m5 fm5 m6 fm6
              refine Shut.out hK _ _ (SAT.out _ h7.2.1) (fun hS => ?_)
              clear hK K
              refine wpAnyH_done (by kernel_rfl) ?_ _
              exact ⟨rfl, w2.heap.size, wA.heap.size, v9.heap.size, ov, ol, cv, cl, xs, rfl, h7.1, hqA, h7.2.1, hq1, hq2, h7.2.2.1, h7.2.2.2.1, h7.2.2.2.2⟩
          · clear hS
            go_simp
            obtain ⟨wA, hwA⟩ : ∃ wA, wA = w2.alloc (.cells #[.int .i64 0, .int .i64 0, .int .i64 0, .int .i64 0, .int .i64 0, .slice none 0 0, .slice none 0 0] 25) := ⟨_, rfl⟩
            rw [← hwA]
            have hal : Below w2.heap.size w2 wA := by rw [hwA]; exact (Below.refl _ _).alloc (Nat.le_refl _) _
            have HMA : Hid (wA.heap[w2.heap.size]? = some (.cells #[.int .i64 0, .int .i64 0, .int .i64 0, .int .i64 0, .int .i64 0, .slice none 0 0, .slice none 0 0] 25 (0, 0))) := by rw [hwA]; exact alloc_new _ _
            have HBA := hid (HD.out.trans (hal.mono HD.out.size))
            have hqA : w1.heap.size ≤ w2.heap.size := HD.out.size
            clear hwA hal
            refine Shut.out hK _ _ (SAT.out _ HBA.out) (fun hS => ?_)
            clear hK K
            refine wpAnyH_ready (rs := [15]) (by kernel_rfl) (by simp) (AllReadyH.cons rfl (fun K hK => ?_) AllReadyH.nil)
            clear hS
            go_simp
            go_wp2_with fail
            refine (CN3.out _).mono ?_
            rintro e v ⟨rfl, hv⟩
            rw [hv]
            clear hv v
            refine Shut.out hK _ _ (SAT.out _ HBA.out) (fun hS => ?_)
            clear hK K
            refine wpAnyH_ready (rs := [19]) (by kernel_rfl) (by simp) (AllReadyH.cons rfl (fun K hK => ?_) AllReadyH.nil)
            clear hS
            go_simp
            go_wp2_with fail
            refine (CN4.out _).mono ?_
            rintro e v ⟨rfl, hv⟩
            rw [hv]
            clear hv v
            refine Shut.out hK _ _ (SAT.out _ HBA.out) (fun hS => ?_)
            clear hK K
            refine wpAnyH_ready (rs := [23]) (by kernel_rfl) (by simp) (AllReadyH.cons rfl (fun K hK => ?_) AllReadyH.nil)
            clear hS
            go_simp
            go_wp2_with fail
            refine (CV.out _).mono ?_
            rintro e v9 ⟨⟨vv, rfl, hrv⟩, hb⟩
            obtain ⟨ov, cv, rfl⟩ := rv_shape hrv
            have HBv9 := hid (HBA.out.trans (hb.mono HBA.out.size))
            have HVv9 := hid hrv
            have hq1 : w1.heap.size ≤ wA.heap.size := HBA.out.size
            have HMv9 := hid (blk_below HMA.out hb)
            clear hrv hb
            refine Shut.out hK _ _ (SAT.out _ HBv9.out) (fun hS => ?_)
            clear hK K
            refine wpAnyH_ready (rs := [27]) (by kernel_rfl) (by simp) (AllReadyH.cons rfl (fun K hK => ?_) AllReadyH.nil)
            clear hS
            go_simp
            go_wp2_with fail
            refine (CL.out _).mono ?_
            rintro e v10 ⟨⟨vl, rfl, xs, hrl, hx⟩, hb⟩
            obtain ⟨ol, cl, rfl⟩ := rv_shape hrl
            have HBv10 := hid (HBv9.out.trans (hb.mono HBv9.out.size))
            have HVv10 := hid (row_below HVv9.out hb)
            have HLv10 := hid hrl
            have HXv10 := hid hx
            have hq2 : w1.heap.size ≤ v9.heap.size := HBv9.out.size
            have HMv10 := hid (blk_below HMv9.out hb)
            clear hrl hx hb
            refine Shut.out hK _ _ (SAT.out _ HBv10.out) (fun hS => ?_)
            clear hK K
            refine takeH_on 28 (v := ?_) rfl rfl (by kernel_rfl) (by kernel_rfl) (by kernel_rfl) (fun _ _ _ h => by cases h.1) (by rfl) hS (fun w hSw => ?_) ?_
            rotate_left
            · ((try dsimp only at hSw); go_simp; try with_reducible rfl)
            simp only [List.setIfInBounds_toArray, List.set_cons_zero, List.set_cons_succ]
            refine wpAnyH_ready (rs := [30]) (by kernel_rfl) (by simp) (AllReadyH.cons rfl (fun K hK => ?_) AllReadyH.nil)
            clear hS
            have m0 : v10.cell? ⟨w2.heap.size, 0, none⟩ = some (.int .i64 0) := by rw [in_block HMv10.out 0]; rfl
            have m1 : v10.cell? ⟨w2.heap.size, 1, none⟩ = some (.int .i64 0) := by rw [in_block HMv10.out 1]; rfl
            have m2 : v10.cell? ⟨w2.heap.size, 2, none⟩ = some (.int .i64 0) := by rw [in_block HMv10.out 2]; rfl
            have m3 : v10.cell? ⟨w2.heap.size, 3, none⟩ = some (.int .i64 0) := by rw [in_block HMv10.out 3]; rfl
            have m4 : v10.cell? ⟨w2.heap.size, 4, none⟩ = some (.int .i64 0) := by rw [in_block HMv10.out 4]; rfl
            have m5 : v10.cell? ⟨w2.heap.size, 5, none⟩ = some (.slice none 0 0) := by rw [in_block HMv10.out 5]; rfl
            have m6 : v10.cell? ⟨w2.heap.size, 6, none⟩ = some (.slice none 0 0) := by rw [in_block HMv10.out 6]; rfl
            have fm0 : v10.frozen? ⟨w2.heap.size, 0, none⟩ = false := free_block HMv10.out 0
            have fm1 : v10.frozen? ⟨w2.heap.size, 1, none⟩ = false := free_block HMv10.out 1
            have fm2 : v10.frozen? ⟨w2.heap.size, 2, none⟩ = false := free_block HMv10.out 2
            have fm3 : v10.frozen? ⟨w2.heap.size, 3, none⟩ = false := free_block HMv10.out 3
            have fm4 : v10.frozen? ⟨w2.heap.size, 4, none⟩ = false := free_block HMv10.out 4
            have fm5 : v10.frozen? ⟨w2.heap.size, 5, none⟩ = false := free_block HMv10.out 5
            have fm6 : v10.frozen? ⟨w2.heap.size, 6, none⟩ = false := free_block HMv10.out 6
            go_simp
            have h7 := seven (P0 := P0) (P1 := P1) (P2 := P2) (P3 := P3) (P4 := P4) HMv10.out HBv10.out hqA HVv10.out HLv10.out HXv10.out
            clear m0 fm0 m1 fm1 m2 fm2 m3 fm3 m4 fm4 m5 fm5 m6 fm6
            refine Shut.out hK _ _ (SAT.out _ h7.2.1) (fun hS => ?_)
            clear hK K
            refine wpAnyH_done (by kernel_rfl) ?_ _
            exact ⟨rfl, w2.heap.size, wA.heap.size, v9.heap.size, ov, ol, cv, cl, xs, rfl, h7.1, hqA, h7.2.1, hq1, hq2, h7.2.2.1, h7.2.2.2.1, h7.2.2.2.2⟩
        · clear hS
          go_simp
          obtain ⟨wA, hwA⟩ : ∃ wA, wA = w2.alloc (.cells #[.int .i64 0, .int .i64 0, .int .i64 0, .int .i64 0, .int .i64 0, .slice none 0 0, .slice none 0 0] 25) := ⟨_, rfl⟩
          rw [← hwA]
          have hal : Below w2.heap.size w2 wA := by rw [hwA]; exact (Below.refl _ _).alloc (Nat.le_refl _) _
          have HMA : Hid (wA.heap[w2.heap.size]? = some (.cells #[.int .i64 0, .int .i64 0, .int .i64 0, .int .i64 0, .int .i64 0, .slice none 0 0, .slice none 0 0] 25 (0, 0))) := by rw [hwA]; exact alloc_new _ _
          have HBA := hid (HD.out.trans (hal.mono HD.out.size))
          have hqA : w1.heap.size ≤ w2.heap.size := HD.out.size
          clear hwA hal
          refine Shut.out hK _ _ (SAT.out _ HBA.out) (fun hS => ?_)
          clear hK K
          refine wpAnyH_ready (rs := [11]) (by kernel_rfl) (by simp) (AllReadyH.cons rfl (fun K hK => ?_) AllReadyH.nil)
          clear hS
          go_simp
          go_wp2_with fail
          refine (CN2.out _).mono ?_
          rintro e v ⟨rfl, hv⟩
          rw [hv]
          clear hv v
          refine Shut.out hK _ _ (SAT.out _ HBA.out) (fun hS => ?_)
          clear hK K
          refine wpAnyH_ready (rs := [15]) (by kernel_rfl) (by simp) (AllReadyH.cons rfl (fun K hK => ?_) AllReadyH.nil)
          clear hS
          go_simp
          go_wp2_with fail
          refine (CN3.out _).mono ?_
          rintro e v ⟨rfl, hv⟩
          rw [hv]
          clear hv v
          refine Shut.out hK _ _ (SAT.out _ HBA.out) (fun hS => ?_)
          clear hK K
          refine wpAnyH_ready (rs := [19]) (by kernel_rfl) (by simp) (AllReadyH.cons rfl (fun K hK => ?_) AllReadyH.nil)
          clear hS
          go_simp
          go_wp2_with fail
          refine (CN4.out _).mono ?_
          rintro e v ⟨rfl, hv⟩
          rw [hv]
          clear hv v
          refine Shut.out hK _ _ (SAT.out _ HBA.out) (fun hS => ?_)
          clear hK K
          refine wpAnyH_ready (rs := [23]) (by kernel_rfl) (by simp) (AllReadyH.cons rfl (fun K hK => ?_) AllReadyH.nil)
          clear hS
          go_simp
          go_wp2_with fail
          refine (CV.out _).mono ?_
          rintro e v9 ⟨⟨vv, rfl, hrv⟩, hb⟩
          obtain ⟨ov, cv, rfl⟩ := rv_shape hrv
          have HBv9 := hid (HBA.out.trans (hb.mono HBA.out.size))
          have HVv9 := hid hrv
          have hq1 : w1.heap.size ≤ wA.heap.size := HBA.out.size
          have HMv9 := hid (blk_below HMA.out hb)
          clear hrv hb
          refine Shut.out hK _ _ (SAT.out _ HBv9.out) (fun hS => ?_)
          clear hK K
          refine wpAnyH_ready (rs := [27]) (by kernel_rfl) (by simp) (AllReadyH.cons rfl (fun K hK => ?_) AllReadyH.nil)
          clear hS
          go_simp
          go_wp2_with fail
          refine (CL.out _).mono ?_
          rintro e v10 ⟨⟨vl, rfl, xs, hrl, hx⟩, hb⟩
          obtain ⟨ol, cl, rfl⟩ := rv_shape hrl
          have HBv10 := hid (HBv9.out.trans (hb.mono HBv9.out.size))
          have HVv10 := hid (row_below HVv9.out hb)
          have HLv10 := hid hrl
          have HXv10 := hid hx
          have hq2 : w1.heap.size ≤ v9.heap.size := HBv9.out.size
          have HMv10 := hid (blk_below HMv9.out hb)
          clear hrl hx hb
          refine Shut.out hK _ _ (SAT.out _ HBv10.out) (fun hS => ?_)
          clear hK K
          refine takeH_on 28 (v := ?_) rfl rfl (by kernel_rfl) (by kernel_rfl) (by kernel_rfl) (fun _ _ _ h => by cases h.1) (by rfl) hS (fun w hSw => ?_) ?_
          rotate_left
          · ((try dsimp only at hSw); go_simp; try with_reducible rfl)
          simp only [List.setIfInBounds_toArray, List.set_cons_zero, List.set_cons_succ]
          refine wpAnyH_ready (rs := [30]) (by kernel_rfl) (by simp) (AllReadyH.cons rfl (fun K hK => ?_) AllReadyH.nil)
          clear hS
          have m0 : v10.cell? ⟨w2.heap.size, 0, none⟩ = some (.int .i64 0) := by rw [in_block HMv10.out 0]; rfl
          have m1 : v10.cell? ⟨w2.heap.size, 1, none⟩ = some (.int .i64 0) := by rw [in_block HMv10.out 1]; rfl
          have m2 : v10.cell? ⟨w2.heap.size, 2, none⟩ = some (.int .i64 0) := by rw [in_block HMv10.out 2]; rfl
          have m3 : v10.cell? ⟨w2.heap.size, 3, none⟩ = some (.int .i64 0) := by rw [in_block HMv10.out 3]; rfl
          have m4 : v10.cell? ⟨w2.heap.size, 4, none⟩ = some (.int .i64 0) := by rw [in_block HMv10.out 4]; rfl
          have m5 : v10.cell? ⟨w2.heap.size, 5, none⟩ = some (.slice none 0 0) := by rw [in_block HMv10.out 5]; rfl
          have m6 : v10.cell? ⟨w2.heap.size, 6, none⟩ = some (.slice none 0 0) := by rw [in_block HMv10.out 6]; rfl
          have fm0 : v10.frozen? ⟨w2.heap.size, 0, none⟩ = false := free_block HMv10.out 0
          have fm1 : v10.frozen? ⟨w2.heap.size, 1, none⟩ = false := free_block HMv10.out 1
          have fm2 : v10.frozen? ⟨w2.heap.size, 2, none⟩ = false := free_block HMv10.out 2
          have fm3 : v10.frozen? ⟨w2.heap.size, 3, none⟩ = false := free_block HMv10.out 3
          have fm4 : v10.frozen? ⟨w2.heap.size, 4, none⟩ = false := free_block HMv10.out 4
          have fm5 : v10.frozen? ⟨w2.heap.size, 5, none⟩ = false := free_block HMv10.out 5
          have fm6 : v10.frozen? ⟨w2.heap.size, 6, none⟩ = false := free_block HMv10.out 6
          go_simp
          have h7 := seven (P0 := P0) (P1 := P1) (P2 := P2) (P3 := P3) (P4 := P4) HMv10.out HBv10.out hqA HVv10.out HLv10.out HXv10.out
          clear m0 fm0 m1 fm1 m2 fm2 m3 fm3 m4 fm4 m5 fm5 m6 fm6
          refine Shut.out hK _ _ (SAT.out _ h7.2.1) (fun hS => ?_)
          clear hK K
          refine wpAnyH_done (by kernel_rfl) ?_ _
          exact ⟨rfl, w2.heap.size, wA.heap.size, v9.heap.size, ov, ol, cv, cl, xs, rfl, h7.1, hqA, h7.2.1, hq1, hq2, h7.2.2.1, h7.2.2.2.1, h7.2.2.2.2⟩
      · clear hS
        go_simp
        obtain ⟨wA, hwA⟩ : ∃ wA, wA = w2.alloc (.cells #[.int .i64 0, .int .i64 0, .int .i64 0, .int .i64 0, .int .i64 0, .slice none 0 0, .slice none 0 0] 25) := ⟨_, rfl⟩
        rw [← hwA]
        have hal : Below w2.heap.size w2 wA := by rw [hwA]; exact (Below.refl _ _).alloc (Nat.le_refl _) _
        have HMA : Hid (wA.heap[w2.heap.size]? = some (.cells #[.int .i64 0, .int .i64 0, .int .i64 0, .int .i64 0, .int .i64 0, .slice none 0 0, .slice none 0 0] 25 (0, 0))) := by rw [hwA]; exact alloc_new _ _
        have HBA := hid (HD.out.trans (hal.mono HD.out.size))
        have hqA : w1.heap.size ≤ w2.heap.size := HD.out.size
        clear hwA hal
        refine Shut.out hK _ _ (SAT.out _ HBA.out) (fun hS => ?_)
        clear hK K
        refine wpAnyH_ready (rs := [7]) (by kernel_rfl) (by simp) (AllReadyH.cons rfl (fun K hK => ?_) AllReadyH.nil)
        clear hS
        go_simp
        go_wp2_with fail
        refine (CN1.out _).mono ?_
        rintro e v ⟨rfl, hv⟩
        rw [hv]
        clear hv v
        refine Shut.out hK _ _ (SAT.out _ HBA.out) (fun hS => ?_)
        clear hK K
        refine wpAnyH_ready (rs := [11]) (by kernel_rfl) (by simp) (AllReadyH.cons rfl (fun K hK => ?_) AllReadyH.nil)
        clear hS
        go_simp
        go_wp2_with fail
        refine (CN2.out _).mono ?_
        rintro e v ⟨rfl, hv⟩
        rw [hv]
        clear hv v
        refine Shut.out hK _ _ (SAT.out _ HBA.out) (fun hS => ?_)
        clear hK K
        refine wpAnyH_ready (rs := [15]) (by kernel_rfl) (by simp) (AllReadyH.cons rfl (fun K hK => ?_) AllReadyH.nil)
        clear hS
        go_simp
        go_wp2_with fail
        refine (CN3.out _).mono ?_
        rintro e v ⟨rfl, hv⟩
        rw [hv]
        clear hv v
        refine Shut.out hK _ _ (SAT.out _ HBA.out) (fun hS => ?_)
        clear hK K
        refine wpAnyH_ready (rs := [19]) (by kernel_rfl) (by simp) (AllReadyH.cons rfl (fun K hK => ?_) AllReadyH.nil)
        clear hS
        go_simp
        go_wp2_with fail
        refine (CN4.out _).mono ?_
        rintro e v ⟨rfl, hv⟩
        rw [hv]
        clear hv v
        refine Shut.out hK _ _ (SAT.out _ HBA.out) (fun hS => ?_)
        clear hK K
        refine wpAnyH_ready (rs := [23]) (by kernel_rfl) (by simp) (AllReadyH.cons rfl (fun K hK => ?_) AllReadyH.nil)
        clear hS
        go_simp
        go_wp2_with fail
        refine (CV.out _).mono ?_
        rintro e v9 ⟨⟨vv, rfl, hrv⟩, hb⟩
        obtain ⟨ov, cv, rfl⟩ := rv_shape hrv
        have HBv9 := hid (HBA.out.trans (hb.mono HBA.out.size))
        have HVv9 := hid hrv
        have hq1 : w1.heap.size ≤ wA.heap.size := HBA.out.size
        have HMv9 := hid (blk_below HMA.out hb)
        clear hrv hb
        refine Shut.out hK _ _ (SAT.out _ HBv9.out) (fun hS => ?_)
        clear hK K
        refine wpAnyH_ready (rs := [27]) (by kernel_rfl) (by simp) (AllReadyH.cons rfl (fun K hK => ?_) AllReadyH.nil)
        clear hS
        go_simp
        go_wp2_with fail
        refine (CL.out _).mono ?_
        rintro e v10 ⟨⟨vl, rfl, xs, hrl, hx⟩, hb⟩
        obtain ⟨ol, cl, rfl⟩ := rv_shape hrl
        have HBv10 := hid (HBv9.out.trans (hb.mono HBv9.out.size))
        have HVv10 := hid (row_below HVv9.out hb)
        have HLv10 := hid hrl
        have HXv10 := hid hx
        have hq2 : w1.heap.size ≤ v9.heap.size := HBv9.out.size
        have HMv10 := hid (blk_below HMv9.out hb)
        clear hrl hx hb
        refine Shut.out hK _ _ (SAT.out _ HBv10.out) (fun hS => ?_)
        clear hK K
        refine takeH_on 28 (v := ?_) rfl rfl (by kernel_rfl) (by kernel_rfl) (by kernel_rfl) (fun _ _ _ h => by cases h.1) (by rfl) hS (fun w hSw => ?_) ?_
        rotate_left
        · ((try dsimp only at hSw); go_simp; try with_reducible rfl)
        simp only [List.setIfInBounds_toArray, List.set_cons_zero, List.set_cons_succ]
        refine wpAnyH_ready (rs := [30]) (by kernel_rfl) (by simp) (AllReadyH.cons rfl (fun K hK => ?_) AllReadyH.nil)
        clear hS
        have m0 : v10.cell? ⟨w2.heap.size, 0, none⟩ = some (.int .i64 0) := by rw [in_block HMv10.out 0]; rfl
        have m1 : v10.cell? ⟨w2.heap.size, 1, none⟩ = some (.int .i64 0) := by rw [in_block HMv10.out 1]; rfl
        have m2 : v10.cell? ⟨w2.heap.size, 2, none⟩ = some (.int .i64 0) := by rw [in_block HMv10.out 2]; rfl
        have m3 : v10.cell? ⟨w2.heap.size, 3, none⟩ = some (.int .i64 0) := by rw [in_block HMv10.out 3]; rfl
        have m4 : v10.cell? ⟨w2.heap.size, 4, none⟩ = some (.int .i64 0) := by rw [in_block HMv10.out 4]; rfl
        have m5 : v10.cell? ⟨w2.heap.size, 5, none⟩ = some (.slice none 0 0) := by rw [in_block HMv10.out 5]; rfl
        have m6 : v10.cell? ⟨w2.heap.size, 6, none⟩ = some (.slice none 0 0) := by rw [in_block HMv10.out 6]; rfl
        have fm0 : v10.frozen? ⟨w2.heap.size, 0, none⟩ = false := free_block HMv10.out 0
        have fm1 : v10.frozen? ⟨w2.heap.size, 1, none⟩ = false := free_block HMv10.out 1
        have fm2 : v10.frozen? ⟨w2.heap.size, 2, none⟩ = false := free_block HMv10.out 2
        have fm3 : v10.frozen? ⟨w2.heap.size, 3, none⟩ = false := free_block HMv10.out 3
        have fm4 : v10.frozen? ⟨w2.heap.size, 4, none⟩ = false := free_block HMv10.out 4
        have fm5 : v10.frozen? ⟨w2.heap.size, 5, none⟩ = false := free_block HMv10.out 5
        have fm6 : v10.frozen? ⟨w2.heap.size, 6, none⟩ = false := free_block HMv10.out 6
        go_simp
        have h7 := seven (P0 := P0) (P1 := P1) (P2 := P2) (P3 := P3) (P4 := P4) HMv10.out HBv10.out hqA HVv10.out HLv10.out HXv10.out
        clear m0 fm0 m1 fm1 m2 fm2 m3 fm3 m4 fm4 m5 fm5 m6 fm6
        refine Shut.out hK _ _ (SAT.out _ h7.2.1) (fun hS => ?_)
        clear hK K
        refine wpAnyH_done (by kernel_rfl) ?_ _
        exact ⟨rfl, w2.heap.size, wA.heap.size, v9.heap.size, ov, ol, cv, cl, xs, rfl, h7.1, hqA, h7.2.1, hq1, hq2, h7.2.2.1, h7.2.2.2.1, h7.2.2.2.2⟩
    · clear hS
      go_simp
      obtain ⟨wA, hwA⟩ : ∃ wA, wA = w2.alloc (.cells #[.int .i64 0, .int .i64 0, .int .i64 0, .int .i64 0, .int .i64 0, .slice none 0 0, .slice none 0 0] 25) := ⟨_, rfl⟩
      rw [← hwA]
      have hal : Below w2.heap.size w2 wA := by rw [hwA]; exact (Below.refl _ _).alloc (Nat.le_refl _) _
      have HMA : Hid (wA.heap[w2.heap.size]? = some (.cells #[.int .i64 0, .int .i64 0, .int .i64 0, .int .i64 0, .int .i64 0, .slice none 0 0, .slice none 0 0] 25 (0, 0))) := by rw [hwA]; exact alloc_new _ _
      have HBA := hid (HD.out.trans (hal.mono HD.out.size))
      have hqA : w1.heap.size ≤ w2.heap.size := HD.out.size
      clear hwA hal
      refine Shut.out hK _ _ (SAT.out _ HBA.out) (fun hS => ?_)
      clear hK K
      refine wpAnyH_ready (rs := [3]) (by kernel_rfl) (by simp) (AllReadyH.cons rfl (fun K hK => ?_) AllReadyH.nil)
      clear hS
      go_simp
      go_wp2_with fail
      refine (CN0.out _).mono ?_
      rintro e v ⟨rfl, hv⟩
      rw [hv]
      clear hv v
      refine Shut.out hK _ _ (SAT.out _ HBA.out) (fun hS => ?_)
      clear hK K
      refine wpAnyH_ready (rs := [7]) (by kernel_rfl) (by simp) (AllReadyH.cons rfl (fun K hK => ?_) AllReadyH.nil)
      clear hS
      go_simp
      go_wp2_with fail
      refine (CN1.out _).mono ?_
      rintro e v ⟨rfl, hv⟩
      rw [hv]
      clear hv v
      refine Shut.out hK _ _ (SAT.out _ HBA.out) (fun hS => ?_)
      clear hK K
      refine wpAnyH_ready (rs := [11]) (by kernel_rfl) (by simp) (AllReadyH.cons rfl (fun K hK => ?_) AllReadyH.nil)
      clear hS
      go_simp
      go_wp2_with fail
      refine (CN2.out _).mono ?_
      rintro e v ⟨rfl, hv⟩
      rw [hv]
      clear hv v
      refine Shut.out hK _ _ (SAT.out _ HBA.out) (fun hS => ?_)
      clear hK K
      refine wpAnyH_ready (rs := [15]) (by kernel_rfl) (by simp) (AllReadyH.cons rfl (fun K hK => ?_) AllReadyH.nil)
      clear hS
      go_simp
      go_wp2_with fail
      refine (CN3.out _).mono ?_
      rintro e v ⟨rfl, hv⟩
      rw [hv]
      clear hv v
      refine Shut.out hK _ _ (SAT.out _ HBA.out) (fun hS => ?_)
      clear hK K
      refine wpAnyH_ready (rs := [19]) (by kernel_rfl) (by simp) (AllReadyH.cons rfl (fun K hK => ?_) AllReadyH.nil)
      clear hS
      go_simp
      go_wp2_with fail
      refine (CN4.out _).mono ?_
      rintro e v ⟨rfl, hv⟩
      rw [hv]
      clear hv v
      refine Shut.out hK _ _ (SAT.out _ HBA.out) (fun hS => ?_)
      clear hK K
      refine wpAnyH_ready (rs := [23]) (by kernel_rfl) (by simp) (AllReadyH.cons rfl (fun K hK => ?_) AllReadyH.nil)
      clear hS
      go_simp
      go_wp2_with fail
      refine (CV.out _).mono ?_
      rintro e v9 ⟨⟨vv, rfl, hrv⟩, hb⟩
      obtain ⟨ov, cv, rfl⟩ := rv_shape hrv
      have HBv9 := hid (HBA.out.trans (hb.mono HBA.out.size))
      have HVv9 := hid hrv
      have hq1 : w1.heap.size ≤ wA.heap.size := HBA.out.size
      have HMv9 := hid (blk_below HMA.out hb)
      clear hrv hb
      refine Shut.out hK _ _ (SAT.out _ HBv9.out) (fun hS => ?_)
      clear hK K
      refine wpAnyH_ready (rs := [27]) (by kernel_rfl) (by simp) (AllReadyH.cons rfl (fun K hK => ?_) AllReadyH.nil)
      clear hS
      go_simp
      go_wp2_with fail
      refine (CL.out _).mono ?_
      rintro e v10 ⟨⟨vl, rfl, xs, hrl, hx⟩, hb⟩
      obtain ⟨ol, cl, rfl⟩ := rv_shape hrl
      have HBv10 := hid (HBv9.out.trans (hb.mono HBv9.out.size))
      have HVv10 := hid (row_below HVv9.out hb)
      have HLv10 := hid hrl
      have HXv10 := hid hx
      have hq2 : w1.heap.size ≤ v9.heap.size := HBv9.out.size
      have HMv10 := hid (blk_below HMv9.out hb)
      clear hrl hx hb
      refine Shut.out hK _ _ (SAT.out _ HBv10.out) (fun hS => ?_)
      clear hK K
      refine takeH_on 28 (v := ?_) rfl rfl (by kernel_rfl) (by kernel_rfl) (by kernel_rfl) (fun _ _ _ h => by cases h.1) (by rfl) hS (fun w hSw => ?_) ?_
      rotate_left
      · ((try dsimp only at hSw); go_simp; try with_reducible rfl)
      simp only [List.setIfInBounds_toArray, List.set_cons_zero, List.set_cons_succ]
      refine wpAnyH_ready (rs := [30]) (by kernel_rfl) (by simp) (AllReadyH.cons rfl (fun K hK => ?_) AllReadyH.nil)
      clear hS
      have m0 : v10.cell? ⟨w2.heap.size, 0, none⟩ = some (.int .i64 0) := by rw [in_block HMv10.out 0]; rfl
      have m1 : v10.cell? ⟨w2.heap.size, 1, none⟩ = some (.int .i64 0) := by rw [in_block HMv10.out 1]; rfl
      have m2 : v10.cell? ⟨w2.heap.size, 2, none⟩ = some (.int .i64 0) := by rw [in_block HMv10.out 2]; rfl
      have m3 : v10.cell? ⟨w2.heap.size, 3, none⟩ = some (.int .i64 0) := by rw [in_block HMv10.out 3]; rfl
      have m4 : v10.cell? ⟨w2.heap.size, 4, none⟩ = some (.int .i64 0) := by rw [in_block HMv10.out 4]; rfl
      have m5 : v10.cell? ⟨w2.heap.size, 5, none⟩ = some (.slice none 0 0) := by rw [in_block HMv10.out 5]; rfl
      have m6 : v10.cell? ⟨w2.heap.size, 6, none⟩ = some (.slice none 0 0) := by rw [in_block HMv10.out 6]; rfl
      have fm0 : v10.frozen? ⟨w2.heap.size, 0, none⟩ = false := free_block HMv10.out 0
      have fm1 : v10.frozen? ⟨w2.heap.size, 1, none⟩ = false := free_block HMv10.out 1
      have fm2 : v10.frozen? ⟨w2.heap.size, 2, none⟩ = false := free_block HMv10.out 2
      have fm3 : v10.frozen? ⟨w2.heap.size, 3, none⟩ = false := free_block HMv10.out 3
      have fm4 : v10.frozen? ⟨w2.heap.size, 4, none⟩ = false := free_block HMv10.out 4
      have fm5 : v10.frozen? ⟨w2.heap.size, 5, none⟩ = false := free_block HMv10.out 5
      have fm6 : v10.frozen? ⟨w2.heap.size, 6, none⟩ = false := free_block HMv10.out 6
      go_simp
      have h7 := seven (P0 := P0) (P1 := P1) (P2 := P2) (P3 := P3) (P4 := P4) HMv10.out HBv10.out hqA HVv10.out HLv10.out HXv10.out
      clear m0 fm0 m1 fm1 m2 fm2 m3 fm3 m4 fm4 m5 fm5 m6 fm6
      refine Shut.out hK _ _ (SAT.out _ h7.2.1) (fun hS => ?_)
      clear hK K
      refine wpAnyH_done (by kernel_rfl) ?_ _
      exact ⟨rfl, w2.heap.size, wA.heap.size, v9.heap.size, ov, ol, cv, cl, xs, rfl, h7.1, hqA, h7.2.1, hq1, hq2, h7.2.2.1, h7.2.2.2.1, h7.2.2.2.2⟩
  · rintro e a' w3 ⟨rfl, A, b1, b2, ov, ol, cv, cl, xs, rfl, hm, hA, hb, h1, h2, hv, hl, hx⟩
    have HBw3 := hid (HB1.out.trans (hb.mono HB1.out.size))
    have HZw3 := hid (blk_below HZ1.out hb)
    have HMw3 := hid hm
    have HVw3 := hid hv
    have HLw3 := hid hl
    have HXw3 := hid hx
    have HW1 : Hid (w.heap.size < b1 ∧ w.heap.size < b2) := by have := (Array.getElem?_eq_some_iff.1 HZ1.out).1; exact ⟨by omega, by omega⟩
    have HWA : Hid (w.heap.size < A) := by have := (Array.getElem?_eq_some_iff.1 HZ1.out).1; show _ < _; omega
    clear hm hA hb h1 h2 hv hl hx
    have m0 : w3.cell? ⟨A, 0, none⟩ = some (.int .i64 P0) := by rw [in_block HMw3.out 0]; rfl
    have m1 : w3.cell? ⟨A, 1, none⟩ = some (.int .i64 P1) := by rw [in_block HMw3.out 1]; rfl
    have m2 : w3.cell? ⟨A, 2, none⟩ = some (.int .i64 P2) := by rw [in_block HMw3.out 2]; rfl
    have m3 : w3.cell? ⟨A, 3, none⟩ = some (.int .i64 P3) := by rw [in_block HMw3.out 3]; rfl
    have m4 : w3.cell? ⟨A, 4, none⟩ = some (.int .i64 P4) := by rw [in_block HMw3.out 4]; rfl
    have m5 : w3.cell? ⟨A, 5, none⟩ = some (.slice ov V.length cv) := by rw [in_block HMw3.out 5]; rfl
    have m6 : w3.cell? ⟨A, 6, none⟩ = some (.slice ol L.length cl) := by rw [in_block HMw3.out 6]; rfl
    go_wp2_with fail
    refine (CO.out w3 ov ol cv cl (NumsIn.of_row HVw3.out).at (ents_of HLw3.out HXw3.out)).mono ?_
    clear m0 m1 m2 m3 m4 m5 m6
    rintro e w4 ⟨rfl, hb⟩
    have HBw4 := hid (HBw3.out.trans (hb.mono HBw3.out.size))
    have HZw4 := hid (blk_below HZw3.out hb)
    have HMw4 := hid (blk_below HMw3.out hb)
    have HVw4 := hid (row_below HVw3.out hb)
    have HLw4 := hid (row_below HLw3.out hb)
    have HXw4 := hid (HXw3.out.kept (fun b cur fz hbb hh => kept_below (base := b2) hb b cur fz hbb hh))
    clear hb
    cases c0
    · have HNO : Hid (hOkay s = false) := HF0.out (by trivial)
      have z0 : w4.cell? ⟨w.heap.size, 0, none⟩ = some (.int .i64 0) := by rw [in_block HZw4.out 0]; rfl
      have fz0 : w4.frozen? ⟨w.heap.size, 0, none⟩ = false := free_block HZw4.out 0
      have z1 : w4.cell? ⟨w.heap.size, 1, none⟩ = some (.int .i64 0) := by rw [in_block HZw4.out 1]; rfl
      have fz1 : w4.frozen? ⟨w.heap.size, 1, none⟩ = false := free_block HZw4.out 1
      have z2 : w4.cell? ⟨w.heap.size, 2, none⟩ = some (.int .i64 0) := by rw [in_block HZw4.out 2]; rfl
      have fz2 : w4.frozen? ⟨w.heap.size, 2, none⟩ = false := free_block HZw4.out 2
      have z3 : w4.cell? ⟨w.heap.size, 3, none⟩ = some (.int .i64 0) := by rw [in_block HZw4.out 3]; rfl
      have fz3 : w4.frozen? ⟨w.heap.size, 3, none⟩ = false := free_block HZw4.out 3
      have z4 : w4.cell? ⟨w.heap.size, 4, none⟩ = some (.int .i64 0) := by rw [in_block HZw4.out 4]; rfl
      have fz4 : w4.frozen? ⟨w.heap.size, 4, none⟩ = false := free_block HZw4.out 4
      have z5 : w4.cell? ⟨w.heap.size, 5, none⟩ = some (.slice none 0 0) := by rw [in_block HZw4.out 5]; rfl
      have fz5 : w4.frozen? ⟨w.heap.size, 5, none⟩ = false := free_block HZw4.out 5
      have z6 : w4.cell? ⟨w.heap.size, 6, none⟩ = some (.slice none 0 0) := by rw [in_block HZw4.out 6]; rfl
      have fz6 : w4.frozen? ⟨w.heap.size, 6, none⟩ = false := free_block HZw4.out 6
      go_wp2
      refine bodyPost_ret (v := .tuple #[.agg #[.int .i64 0, .int .i64 0, .int .i64 0, .int .i64 0, .int .i64 0, .slice none 0 0, .slice none 0 0], .bool false]) (by simp [results, Tryd.results9, go_sem, z0, z1, z2, z3, z4, z5, z6]) rfl ⟨Or.inr ⟨HNO.out, rfl⟩, (((((((HBw4.out.setCell (p := ⟨w.heap.size, 0, none⟩) (Nat.le_refl _) (.int .i64 0)).setCell (p := ⟨w.heap.size, 1, none⟩) (Nat.le_refl _) (.int .i64 0)).setCell (p := ⟨w.heap.size, 2, none⟩) (Nat.le_refl _) (.int .i64 0)).setCell (p := ⟨w.heap.size, 3, none⟩) (Nat.le_refl _) (.int .i64 0)).setCell (p := ⟨w.heap.size, 4, none⟩) (Nat.le_refl _) (.int .i64 0)).setCell (p := ⟨w.heap.size, 5, none⟩) (Nat.le_refl _) (.slice none 0 0)).setCell (p := ⟨w.heap.size, 6, none⟩) (Nat.le_refl _) (.slice none 0 0))⟩
    · have m0 : w4.cell? ⟨A, 0, none⟩ = some (.int .i64 P0) := by rw [in_block HMw4.out 0]; rfl
      have m1 : w4.cell? ⟨A, 1, none⟩ = some (.int .i64 P1) := by rw [in_block HMw4.out 1]; rfl
      have m2 : w4.cell? ⟨A, 2, none⟩ = some (.int .i64 P2) := by rw [in_block HMw4.out 2]; rfl
      have m3 : w4.cell? ⟨A, 3, none⟩ = some (.int .i64 P3) := by rw [in_block HMw4.out 3]; rfl
      have m4 : w4.cell? ⟨A, 4, none⟩ = some (.int .i64 P4) := by rw [in_block HMw4.out 4]; rfl
      have m5 : w4.cell? ⟨A, 5, none⟩ = some (.slice ov V.length cv) := by rw [in_block HMw4.out 5]; rfl
      have m6 : w4.cell? ⟨A, 6, none⟩ = some (.slice ol L.length cl) := by rw [in_block HMw4.out 6]; rfl
      go_wp2_with fail
      refine (CP.out (by trivial) w4 ov ol cv cl (NumsIn.of_row HVw4.out).at (ents_of HLw4.out HXw4.out)).mono ?_
      clear m0 m1 m2 m3 m4 m5 m6
      rintro e w5 ⟨rfl, hb⟩
      have HBw5 := hid (HBw4.out.trans (hb.mono HBw4.out.size))
      have HZw5 := hid (blk_below HZw4.out hb)
      have HMw5 := hid (blk_below HMw4.out hb)
      have HVw5 := hid (row_below HVw4.out hb)
      have HLw5 := hid (row_below HLw4.out hb)
      have HXw5 := hid (HXw4.out.kept (fun b cur fz hbb hh => kept_below (base := b2) hb b cur fz hbb hh))
      clear hb
      by_cases ht : t = s
      · have HYES : Hid (hOkay s = true) := HF1.out (by trivial) ht
        subst ht
        have m0 : w5.cell? ⟨A, 0, none⟩ = some (.int .i64 P0) := by rw [in_block HMw5.out 0]; rfl
        have m1 : w5.cell? ⟨A, 1, none⟩ = some (.int .i64 P1) := by rw [in_block HMw5.out 1]; rfl
        have m2 : w5.cell? ⟨A, 2, none⟩ = some (.int .i64 P2) := by rw [in_block HMw5.out 2]; rfl
        have m3 : w5.cell? ⟨A, 3, none⟩ = some (.int .i64 P3) := by rw [in_block HMw5.out 3]; rfl
        have m4 : w5.cell? ⟨A, 4, none⟩ = some (.int .i64 P4) := by rw [in_block HMw5.out 4]; rfl
        have m5 : w5.cell? ⟨A, 5, none⟩ = some (.slice ov V.length cv) := by rw [in_block HMw5.out 5]; rfl
        have m6 : w5.cell? ⟨A, 6, none⟩ = some (.slice ol L.length cl) := by rw [in_block HMw5.out 6]; rfl
        have z0 : w5.cell? ⟨w.heap.size, 0, none⟩ = some (.int .i64 0) := by rw [in_block HZw5.out 0]; rfl
        have fz0 : w5.frozen? ⟨w.heap.size, 0, none⟩ = false := free_block HZw5.out 0
        have z1 : w5.cell? ⟨w.heap.size, 1, none⟩ = some (.int .i64 0) := by rw [in_block HZw5.out 1]; rfl
        have fz1 : w5.frozen? ⟨w.heap.size, 1, none⟩ = false := free_block HZw5.out 1
        have z2 : w5.cell? ⟨w.heap.size, 2, none⟩ = some (.int .i64 0) := by rw [in_block HZw5.out 2]; rfl
        have fz2 : w5.frozen? ⟨w.heap.size, 2, none⟩ = false := free_block HZw5.out 2
        have z3 : w5.cell? ⟨w.heap.size, 3, none⟩ = some (.int .i64 0) := by rw [in_block HZw5.out 3]; rfl
        have fz3 : w5.frozen? ⟨w.heap.size, 3, none⟩ = false := free_block HZw5.out 3
        have z4 : w5.cell? ⟨w.heap.size, 4, none⟩ = some (.int .i64 0) := by rw [in_block HZw5.out 4]; rfl
        have fz4 : w5.frozen? ⟨w.heap.size, 4, none⟩ = false := free_block HZw5.out 4
        have z5 : w5.cell? ⟨w.heap.size, 5, none⟩ = some (.slice none 0 0) := by rw [in_block HZw5.out 5]; rfl
        have fz5 : w5.frozen? ⟨w.heap.size, 5, none⟩ = false := free_block HZw5.out 5
        have z6 : w5.cell? ⟨w.heap.size, 6, none⟩ = some (.slice none 0 0) := by rw [in_block HZw5.out 6]; rfl
        have fz6 : w5.frozen? ⟨w.heap.size, 6, none⟩ = false := free_block HZw5.out 6
        have HVF := hid ((row_set (row_set (row_set (row_set (row_set (row_set (row_set HVw5.out w.heap.size 0 (.int .i64 P0) HW1.out.1) w.heap.size 1 (.int .i64 P1) HW1.out.1) w.heap.size 2 (.int .i64 P2) HW1.out.1) w.heap.size 3 (.int .i64 P3) HW1.out.1) w.heap.size 4 (.int .i64 P4) HW1.out.1) w.heap.size 5 (.slice ov V.length cv) HW1.out.1) w.heap.size 6 (.slice ol L.length cl) HW1.out.1))
        have HLF := hid ((row_set (row_set (row_set (row_set (row_set (row_set (row_set HLw5.out w.heap.size 0 (.int .i64 P0) HW1.out.2) w.heap.size 1 (.int .i64 P1) HW1.out.2) w.heap.size 2 (.int .i64 P2) HW1.out.2) w.heap.size 3 (.int .i64 P3) HW1.out.2) w.heap.size 4 (.int .i64 P4) HW1.out.2) w.heap.size 5 (.slice ov V.length cv) HW1.out.2) w.heap.size 6 (.slice ol L.length cl) HW1.out.2))
        have HXF := hid ((ecells_set (ecells_set (ecells_set (ecells_set (ecells_set (ecells_set (ecells_set HXw5.out w.heap.size 0 (.int .i64 P0) HW1.out.2) w.heap.size 1 (.int .i64 P1) HW1.out.2) w.heap.size 2 (.int .i64 P2) HW1.out.2) w.heap.size 3 (.int .i64 P3) HW1.out.2) w.heap.size 4 (.int .i64 P4) HW1.out.2) w.heap.size 5 (.slice ov V.length cv) HW1.out.2) w.heap.size 6 (.slice ol L.length cl) HW1.out.2))
        have HBF := hid ((((((((HBw5.out.setCell (p := ⟨w.heap.size, 0, none⟩) (Nat.le_refl _) (.int .i64 P0)).setCell (p := ⟨w.heap.size, 1, none⟩) (Nat.le_refl _) (.int .i64 P1)).setCell (p := ⟨w.heap.size, 2, none⟩) (Nat.le_refl _) (.int .i64 P2)).setCell (p := ⟨w.heap.size, 3, none⟩) (Nat.le_refl _) (.int .i64 P3)).setCell (p := ⟨w.heap.size, 4, none⟩) (Nat.le_refl _) (.int .i64 P4)).setCell (p := ⟨w.heap.size, 5, none⟩) (Nat.le_refl _) (.slice ov V.length cv)).setCell (p := ⟨w.heap.size, 6, none⟩) (Nat.le_refl _) (.slice ol L.length cl)))
        go_wp2
        refine bodyPost_ret (v := .tuple #[.agg #[.int .i64 P0, .int .i64 P1, .int .i64 P2, .int .i64 P3, .int .i64 P4, .slice ov V.length cv, .slice ol L.length cl], .bool true]) (by simp [results, Tryd.results9, go_sem, z0, z1, z2, z3, z4, z5, z6]) rfl ⟨Or.inl ⟨HYES.out, ov, ol, cv, cl, b1, b2, xs, rfl, Nat.le_of_lt HW1.out.1, HVF.out, Nat.le_of_lt HW1.out.2, HLF.out, HXF.out⟩, HBF.out⟩
      · have HNO : Hid (hOkay s = false) := HF2.out (by trivial) ht
        have htne : (t.toList == s.toList) = false := by
          rw [beq_eq_false_iff_ne]
          exact fun e => ht (toList_inj3 e)
        clear ht
        have z0 : w5.cell? ⟨w.heap.size, 0, none⟩ = some (.int .i64 0) := by rw [in_block HZw5.out 0]; rfl
        have fz0 : w5.frozen? ⟨w.heap.size, 0, none⟩ = false := free_block HZw5.out 0
        have z1 : w5.cell? ⟨w.heap.size, 1, none⟩ = some (.int .i64 0) := by rw [in_block HZw5.out 1]; rfl
        have fz1 : w5.frozen? ⟨w.heap.size, 1, none⟩ = false := free_block HZw5.out 1
        have z2 : w5.cell? ⟨w.heap.size, 2, none⟩ = some (.int .i64 0) := by rw [in_block HZw5.out 2]; rfl
        have fz2 : w5.frozen? ⟨w.heap.size, 2, none⟩ = false := free_block HZw5.out 2
        have z3 : w5.cell? ⟨w.heap.size, 3, none⟩ = some (.int .i64 0) := by rw [in_block HZw5.out 3]; rfl
        have fz3 : w5.frozen? ⟨w.heap.size, 3, none⟩ = false := free_block HZw5.out 3
        have z4 : w5.cell? ⟨w.heap.size, 4, none⟩ = some (.int .i64 0) := by rw [in_block HZw5.out 4]; rfl
        have fz4 : w5.frozen? ⟨w.heap.size, 4, none⟩ = false := free_block HZw5.out 4
        have z5 : w5.cell? ⟨w.heap.size, 5, none⟩ = some (.slice none 0 0) := by rw [in_block HZw5.out 5]; rfl
        have fz5 : w5.frozen? ⟨w.heap.size, 5, none⟩ = false := free_block HZw5.out 5
        have z6 : w5.cell? ⟨w.heap.size, 6, none⟩ = some (.slice none 0 0) := by rw [in_block HZw5.out 6]; rfl
        have fz6 : w5.frozen? ⟨w.heap.size, 6, none⟩ = false := free_block HZw5.out 6
        go_wp2
        refine bodyPost_ret (v := .tuple #[.agg #[.int .i64 0, .int .i64 0, .int .i64 0, .int .i64 0, .int .i64 0, .slice none 0 0, .slice none 0 0], .bool false]) (by simp [results, Tryd.results9, go_sem, z0, z1, z2, z3, z4, z5, z6]) rfl ⟨Or.inr ⟨HNO.out, rfl⟩, (((((((HBw5.out.setCell (p := ⟨w.heap.size, 0, none⟩) (Nat.le_refl _) (.int .i64 0)).setCell (p := ⟨w.heap.size, 1, none⟩) (Nat.le_refl _) (.int .i64 0)).setCell (p := ⟨w.heap.size, 2, none⟩) (Nat.le_refl _) (.int .i64 0)).setCell (p := ⟨w.heap.size, 3, none⟩) (Nat.le_refl _) (.int .i64 0)).setCell (p := ⟨w.heap.size, 4, none⟩) (Nat.le_refl _) (.int .i64 0)).setCell (p := ⟨w.heap.size, 5, none⟩) (Nat.le_refl _) (.slice none 0 0)).setCell (p := ⟨w.heap.size, 6, none⟩) (Nat.le_refl _) (.slice none 0 0))⟩

end Go.Proofs.YtcielnlhopjijabDoor
