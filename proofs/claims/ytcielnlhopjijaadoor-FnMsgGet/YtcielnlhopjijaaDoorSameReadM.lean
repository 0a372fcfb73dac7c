/- DERIVED. That the program and the model read the same: plain. The model's reader of messages at every text: l9Get, MsgGet; it takes what the program takes. The law FnMsgGet at every code. -/
import Derived.Test.YtcielnlhopjijaaDoorModelPlainM
import Derived.Test.YtcielnlhopjijaaDoorMsgLenR
import Derived.Test.YtcielnlhopjijaaDoorSpecGetM
import Derived.Test.YtcielnlhopjijaaDoorBentM
import Derived.Test.YtcielnlhopjijaaDoorFmMsgM
namespace Go.Proofs.YtcielnlhopjijaaDoor

theorem put_msg {kd fr tt bl ins : Int} {V : List Int} {L : List Ent} (hok : msgOkP kd fr tt bl ins V L = true) : putText kd fr tt bl ins V L = putMsg kd fr tt bl ins V L := by
  unfold putText
  rw [if_pos hok]

/-- What the model reads of a message that was written. -/
theorem model_back {kd fr tt bl ins : Int} {V : List Int} {L : List Ent} (hok : msgOkP kd fr tt bl ins V L = true) (s : ByteArray) (hs : putText kd fr tt bl ins V L = s) :
    (hW s).length = 8 ∧ hP s 0 = kd ∧ hP s 1 = fr ∧ hP s 2 = tt ∧ hP s 3 = bl ∧ hP s 4 = ins ∧ hV s = V ∧ hL s = L := by
  have e := putText_l hok
  rw [hs] at e
  have hw : hW s = [dI kd, dI fr, dI tt, dI bl, dI ins, vP V, lP L, Lib.decDigits (crcP (msgT kd fr tt bl ins V L))] := by
    unfold hW
    rw [e, words_put]
  simp only [msgOkP, Bool.and_eq_true] at hok
  obtain ⟨⟨⟨⟨⟨⟨g1, g2⟩, g3⟩, g4⟩, g5⟩, g6⟩, g7⟩ := hok
  have r1 : 1 ≤ kd ∧ kd ≤ 9 := by simpa [inB] using g1
  have r2 := party_range g2
  have r3 := party_range g3
  have r4 : 0 ≤ bl ∧ bl ≤ 9999 := by simpa [inB] using g4
  have r5 : 0 ≤ ins ∧ ins ≤ 12 := by simpa [inB] using g5
  have r6 := okV_all g6
  have r7 := list_short g7
  have r8 := okTo_each L L.length g7
  have hE : ∀ e ∈ L, entOk e = true := by
    intro e he
    obtain ⟨i, hi, rfl⟩ := List.getElem_of_mem he
    have := r8 i hi
    rw [List.getD_eq_getElem?_getD, List.getElem?_eq_getElem hi] at this
    exact this
  unfold hP hV hL
  rw [hw]
  refine ⟨rfl, ?_, ?_, ?_, ?_, ?_, ?_, ?_⟩
  · exact numOf_dI (by omega) (by omega)
  · exact numOf_dI (by omega) (by omega)
  · exact numOf_dI (by omega) (by omega)
  · exact numOf_dI (by omega) (by omega)
  · exact numOf_dI (by omega) (by omega)
  · exact mVotes_vP r6.1 r6.2
  · exact mList_lP r7 hE

/-- What the program takes the model takes, with the same parts. -/
theorem h_of_g {s : ByteArray} (h : gOkay s = true) : s.size ≤ 400 ∧ (hW s).length = 8 ∧ hOkay s = true ∧ hP s 0 = gPart s.data.toList 0 ∧ hP s 1 = gPart s.data.toList 1 ∧ hP s 2 = gPart s.data.toList 2 ∧ hP s 3 = gPart s.data.toList 3 ∧ hP s 4 = gPart s.data.toList 4 ∧ hV s = gV s.data.toList ∧ hL s = gL s.data.toList := by
  unfold gOkay at h
  rw [Bool.and_eq_true, Bool.and_eq_true] at h
  have h1 := of_decide_eq_true h.1
  have h2 := of_decide_eq_true h.2.2
  obtain ⟨w8, e0, e1, e2, e3, e4, e5, e6⟩ := model_back h.2.1 s h2
  refine ⟨h1, w8, ?_, e0, e1, e2, e3, e4, e5, e6⟩
  unfold hOkay
  rw [e0, e1, e2, e3, e4, e5, e6, h.2.1, ← put_msg h.2.1, h2]
  simp

/-- What the model takes the program takes. -/
theorem g_of_h {s : ByteArray} (hs : s.size ≤ 400) (h : hOkay s = true) : gOkay s = true := by
  unfold hOkay at h
  rw [Bool.and_eq_true] at h
  have h2 := of_decide_eq_true h.2
  have h3 := h.1
  rw [← put_msg h3] at h2
  have e := putText_l h3
  rw [h2] at e
  obtain ⟨e0, e1, e2, e3, e4, e5, e6⟩ := read_back h3 (Lib.decDigits (crcP (msgT (hP s 0) (hP s 1) (hP s 2) (hP s 3) (hP s 4) (hV s) (hL s))))
  rw [← e] at e0 e1 e2 e3 e4 e5 e6
  unfold gOkay
  rw [e0, e1, e2, e3, e4, e5, e6, h3, h2]
  simp [hs]

end Go.Proofs.YtcielnlhopjijaaDoor

namespace Go.Proofs.YtcielnlhopjijaaDoor
open Go.RowKit

theorem no_g {s : ByteArray} (h : ¬ s.size ≤ 400 ∨ ¬ (hW s).length = 8 ∨ (s.size ≤ 400 ∧ hOkay s = false)) : gOkay s = false := by
  cases e : gOkay s
  · rfl
  · obtain ⟨h1, h2, h3, _⟩ := h_of_g e
    rcases h with h | h | h
    · exact absurd h1 h
    · exact absurd h2 h
    · rw [h3] at h; exact absurd h.2 (by simp)

set_option maxHeartbeats 1600000 in
theorem l9Get_all (s : ByteArray) (w : World) (hm : s.size ≤ maxLen) :
    Calls Tryd.prog 20 #[.string s] w fun e w' => ((gOkay s = true ∧ ∃ (o1 o2 : Option Addr) (c1 c2 b1 b2 : Nat) (xs : List Value), e = .returned (.tuple #[.agg #[.int .i64 (gPart s.data.toList 0), .int .i64 (gPart s.data.toList 1), .int .i64 (gPart s.data.toList 2), .int .i64 (gPart s.data.toList 3), .int .i64 (gPart s.data.toList 4), .slice o1 (gV s.data.toList).length c1, .slice o2 (gL s.data.toList).length c2], .bool true]) ∧ w.heap.size ≤ b1 ∧ w'.ownsRow b1 3 1 (.slice o1 (gV s.data.toList).length c1) (gV s.data.toList).length ((gV s.data.toList).map (Value.int .i64)) ∧ w.heap.size ≤ b2 ∧ w'.ownsRow b2 81 3 (.slice o2 (gL s.data.toList).length c2) (gL s.data.toList).length xs ∧ ECells b2 w' (gL s.data.toList) xs) ∨ (gOkay s = false ∧ e = .returned (.tuple #[.agg #[.int .i64 0, .int .i64 0, .int .i64 0, .int .i64 0, .int .i64 0, .slice none 0 0, .slice none 0 0], .bool false]))) ∧ Below w.heap.size w w' := by
  by_cases h4 : s.size ≤ 400
  · by_cases h8 : (hW s).length = 8
    · refine (l9Get_eight s w h4 h8).mono ?_
      rintro e w' ⟨h, hb⟩
      refine ⟨?_, hb⟩
      rcases h with ⟨hy, h⟩ | ⟨hn, rfl⟩
      · have hg := g_of_h h4 hy
        obtain ⟨_, _, _, e0, e1, e2, e3, e4, e5, e6⟩ := h_of_g hg
        rw [e0, e1, e2, e3, e4, e5, e6] at h
        exact Or.inl ⟨hg, h⟩
      · exact Or.inr ⟨no_g (Or.inr (Or.inr ⟨h4, hn⟩)), rfl⟩
    · refine (l9Get_words s w h4 h8).mono ?_
      rintro e w' ⟨rfl, hb⟩
      exact ⟨Or.inr ⟨no_g (Or.inr (Or.inl h8)), rfl⟩, hb⟩
  · refine (l9Get_long s w (by omega) hm).mono ?_
    rintro e w' ⟨rfl, hb⟩
    exact ⟨Or.inr ⟨no_g (Or.inl h4), rfl⟩, hb⟩

set_option maxRecDepth 100000 in
set_option maxHeartbeats 1600000 in
theorem specGet_all (s : ByteArray) (w : World) (hm : s.size ≤ maxLen) :
    Calls Tryd.prog 6 #[.string s] w fun e w' => ((gOkay s = true ∧ ∃ (o1 o2 : Option Addr) (c1 c2 : Nat), e = .returned (.tuple #[.agg #[.int .i64 (gPart s.data.toList 0), .int .i64 (gPart s.data.toList 1), .int .i64 (gPart s.data.toList 2), .int .i64 (gPart s.data.toList 3), .int .i64 (gPart s.data.toList 4), .slice o1 (gV s.data.toList).length c1, .slice o2 (gL s.data.toList).length c2], .bool true]) ∧ NumsAt w' o1 (gV s.data.toList) ∧ EntsAt w' o2 (gL s.data.toList)) ∨ (gOkay s = false ∧ e = .returned (.tuple #[.agg #[.int .i64 0, .int .i64 0, .int .i64 0, .int .i64 0, .int .i64 0, .slice none 0 0, .slice none 0 0], .bool false]))) ∧ Below w.heap.size w w' := by
  have HZ0 : Hid ((w.alloc (.cells #[.int .i64 0, .int .i64 0, .int .i64 0, .int .i64 0, .int .i64 0, .slice none 0 0, .slice none 0 0] 27)).heap[w.heap.size]? = some (.cells #[.int .i64 0, .int .i64 0, .int .i64 0, .int .i64 0, .int .i64 0, .slice none 0 0, .slice none 0 0] 27 (0, 0))) := alloc_new _ _
  have HB0 : Hid (Below w.heap.size w (w.alloc (.cells #[.int .i64 0, .int .i64 0, .int .i64 0, .int .i64 0, .int .i64 0, .slice none 0 0, .slice none 0 0] 27))) := (Below.refl _ _).alloc (Nat.le_refl _) _
  have CG := hid (fun W => l9Get_all s W hm)
  obtain ⟨P0, hP0⟩ : ∃ x, x = gPart s.data.toList 0 := ⟨_, rfl⟩
  obtain ⟨P1, hP1⟩ : ∃ x, x = gPart s.data.toList 1 := ⟨_, rfl⟩
  obtain ⟨P2, hP2⟩ : ∃ x, x = gPart s.data.toList 2 := ⟨_, rfl⟩
  obtain ⟨P3, hP3⟩ : ∃ x, x = gPart s.data.toList 3 := ⟨_, rfl⟩
  obtain ⟨P4, hP4⟩ : ∃ x, x = gPart s.data.toList 4 := ⟨_, rfl⟩
  obtain ⟨V, hVV⟩ : ∃ x, x = gV s.data.toList := ⟨_, rfl⟩
  obtain ⟨L, hLL⟩ : ∃ x, x = gL s.data.toList := ⟨_, rfl⟩
  obtain ⟨gk, hgk⟩ : ∃ x, x = gOkay s := ⟨_, rfl⟩
  rw [← hP0, ← hP1, ← hP2, ← hP3, ← hP4, ← hVV, ← hLL, ← hgk] at CG
  rw [← hP0, ← hP1, ← hP2, ← hP3, ← hP4, ← hVV, ← hLL, ← hgk]
  clear hP0 hP1 hP2 hP3 hP4 hVV hLL hgk hm
  go_enter Tryd.func6, Tryd.ntmps6
  go_wp2_with fail
  obtain ⟨w0, hw0⟩ : ∃ w0, w0 = w.alloc (.cells #[.int .i64 0, .int .i64 0, .int .i64 0, .int .i64 0, .int .i64 0, .slice none 0 0, .slice none 0 0] 27) := ⟨_, rfl⟩
  rw [← hw0] at HZ0 HB0 ⊢
  clear hw0
  refine (CG.out w0).mono ?_
  rintro e w1 ⟨h, hb⟩
  have HZ1 := hid (blk_below HZ0.out hb)
  have HB1 := hid (HB0.out.trans (hb.mono HB0.out.size))
  have HLT : w.heap.size < w0.heap.size := (Array.getElem?_eq_some_iff.1 HZ0.out).1
  clear hb
  have z0 : w1.cell? ⟨w.heap.size, 0, none⟩ = some (.int .i64 0) := by rw [in_block HZ1.out 0]; rfl
  have fz0 : w1.frozen? ⟨w.heap.size, 0, none⟩ = false := free_block HZ1.out 0
  have z1 : w1.cell? ⟨w.heap.size, 1, none⟩ = some (.int .i64 0) := by rw [in_block HZ1.out 1]; rfl
  have fz1 : w1.frozen? ⟨w.heap.size, 1, none⟩ = false := free_block HZ1.out 1
  have z2 : w1.cell? ⟨w.heap.size, 2, none⟩ = some (.int .i64 0) := by rw [in_block HZ1.out 2]; rfl
  have fz2 : w1.frozen? ⟨w.heap.size, 2, none⟩ = false := free_block HZ1.out 2
  have z3 : w1.cell? ⟨w.heap.size, 3, none⟩ = some (.int .i64 0) := by rw [in_block HZ1.out 3]; rfl
  have fz3 : w1.frozen? ⟨w.heap.size, 3, none⟩ = false := free_block HZ1.out 3
  have z4 : w1.cell? ⟨w.heap.size, 4, none⟩ = some (.int .i64 0) := by rw [in_block HZ1.out 4]; rfl
  have fz4 : w1.frozen? ⟨w.heap.size, 4, none⟩ = false := free_block HZ1.out 4
  have z5 : w1.cell? ⟨w.heap.size, 5, none⟩ = some (.slice none 0 0) := by rw [in_block HZ1.out 5]; rfl
  have fz5 : w1.frozen? ⟨w.heap.size, 5, none⟩ = false := free_block HZ1.out 5
  have z6 : w1.cell? ⟨w.heap.size, 6, none⟩ = some (.slice none 0 0) := by rw [in_block HZ1.out 6]; rfl
  have fz6 : w1.frozen? ⟨w.heap.size, 6, none⟩ = false := free_block HZ1.out 6
  rcases h with ⟨hy, o1, o2, c1, c2, b1, b2, xs, rfl, hb1, hv, hb2, hl, hx⟩ | ⟨hn, rfl⟩
  · have HY := hid hy
    have hc1 : w.heap.size < b1 := by omega
    have hc2 : w.heap.size < b2 := by omega
    have HVF := hid ((row_set (row_set (row_set (row_set (row_set (row_set (row_set hv w.heap.size 0 (.int .i64 P0) hc1) w.heap.size 1 (.int .i64 P1) hc1) w.heap.size 2 (.int .i64 P2) hc1) w.heap.size 3 (.int .i64 P3) hc1) w.heap.size 4 (.int .i64 P4) hc1) w.heap.size 5 (.slice o1 V.length c1) hc1) w.heap.size 6 (.slice o2 L.length c2) hc1))
    have HLF := hid ((row_set (row_set (row_set (row_set (row_set (row_set (row_set hl w.heap.size 0 (.int .i64 P0) hc2) w.heap.size 1 (.int .i64 P1) hc2) w.heap.size 2 (.int .i64 P2) hc2) w.heap.size 3 (.int .i64 P3) hc2) w.heap.size 4 (.int .i64 P4) hc2) w.heap.size 5 (.slice o1 V.length c1) hc2) w.heap.size 6 (.slice o2 L.length c2) hc2))
    have HXF := hid ((ecells_set (ecells_set (ecells_set (ecells_set (ecells_set (ecells_set (ecells_set hx w.heap.size 0 (.int .i64 P0) hc2) w.heap.size 1 (.int .i64 P1) hc2) w.heap.size 2 (.int .i64 P2) hc2) w.heap.size 3 (.int .i64 P3) hc2) w.heap.size 4 (.int .i64 P4) hc2) w.heap.size 5 (.slice o1 V.length c1) hc2) w.heap.size 6 (.slice o2 L.length c2) hc2))
    have HBF := hid ((((((((HB1.out.setCell (p := ⟨w.heap.size, 0, none⟩) (Nat.le_refl _) (.int .i64 P0)).setCell (p := ⟨w.heap.size, 1, none⟩) (Nat.le_refl _) (.int .i64 P1)).setCell (p := ⟨w.heap.size, 2, none⟩) (Nat.le_refl _) (.int .i64 P2)).setCell (p := ⟨w.heap.size, 3, none⟩) (Nat.le_refl _) (.int .i64 P3)).setCell (p := ⟨w.heap.size, 4, none⟩) (Nat.le_refl _) (.int .i64 P4)).setCell (p := ⟨w.heap.size, 5, none⟩) (Nat.le_refl _) (.slice o1 V.length c1)).setCell (p := ⟨w.heap.size, 6, none⟩) (Nat.le_refl _) (.slice o2 L.length c2)))
    clear hv hl hx hb1 hb2 hc1 hc2 HLT
    go_wp2
    refine bodyPost_ret (v := .tuple #[.agg #[.int .i64 P0, .int .i64 P1, .int .i64 P2, .int .i64 P3, .int .i64 P4, .slice o1 V.length c1, .slice o2 L.length c2], .bool true]) (by simp [results, Tryd.results6, go_sem, z0, z1, z2, z3, z4, z5, z6]) rfl ⟨Or.inl ⟨HY.out, o1, o2, c1, c2, rfl, (NumsIn.of_row HVF.out).at, ents_of HLF.out HXF.out⟩, HBF.out⟩
  · have HN := hid hn
    have HBF := hid ((((((((HB1.out.setCell (p := ⟨w.heap.size, 0, none⟩) (Nat.le_refl _) (.int .i64 0)).setCell (p := ⟨w.heap.size, 1, none⟩) (Nat.le_refl _) (.int .i64 0)).setCell (p := ⟨w.heap.size, 2, none⟩) (Nat.le_refl _) (.int .i64 0)).setCell (p := ⟨w.heap.size, 3, none⟩) (Nat.le_refl _) (.int .i64 0)).setCell (p := ⟨w.heap.size, 4, none⟩) (Nat.le_refl _) (.int .i64 0)).setCell (p := ⟨w.heap.size, 5, none⟩) (Nat.le_refl _) (.slice none 0 0)).setCell (p := ⟨w.heap.size, 6, none⟩) (Nat.le_refl _) (.slice none 0 0)))
    clear HLT
    go_wp2
    refine bodyPost_ret (v := .tuple #[.agg #[.int .i64 0, .int .i64 0, .int .i64 0, .int .i64 0, .int .i64 0, .slice none 0 0, .slice none 0 0], .bool false]) (by simp [results, Tryd.results6, go_sem, z0, z1, z2, z3, z4, z5, z6]) rfl ⟨Or.inr ⟨HN.out, rfl⟩, HBF.out⟩

end Go.Proofs.YtcielnlhopjijaaDoor

namespace Go.Proofs.YtcielnlhopjijaaDoor
open Go.RowKit

set_option maxRecDepth 100000 in
set_option maxHeartbeats 6400000 in
theorem law_any (oa : Option Addr) (len cap : Nat) (w : World) (h : CodeAt w oa len) (hc : len ≤ cap) (hm : cap ≤ maxLen) (ht : Tab w) (he : EofR w) :
    Calls Tryd.prog 3 #[.slice oa len cap] w fun e w' => e = .returned (.bool true) ∧ Below w.heap.size w w' := by
  by_cases hbig : (len : Int) > 1048576
  · clear h ht he
    go_enter Tryd.func3, Tryd.ntmps3
    go_wp2
    go_ret
    exact ⟨rfl, Below.refl _ _⟩
  have hlen : len ≤ 1048576 := by omega
  have HC := hid h
  have HT := hid ht
  have HE := hid he
  clear h ht he
  go_enter Tryd.func3, Tryd.ntmps3
  go_wp2_with fail
  refine (drawGet_any oa len cap _ HC.out hc hm).mono ?_
  rintro ee w1 ⟨⟨s, rfl, hss⟩, hb1⟩
  have HB := hid hb1
  have HTW : Hid (∀ w', Below w1.heap.size w1 w' → Tab w') := fun w' hb => (HT.out.below HB.out).below hb
  have HEW : Hid (∀ w', Below w1.heap.size w1 w' → EofR w') := fun w' hb => (HE.out.below HB.out).below hb
  have CS := hid (fun W => specGet_all s W (by unfold maxLen; omega))
  clear hb1 HC HT HE hlen hbig
  cases hg : gOkay s
  · rw [hg] at CS
    have CG : Hid (∀ w', Below w1.heap.size w1 w' → Calls Tryd.prog 5 #[.string s] w' fun ee w2 => ee = .returned (.tuple #[.agg #[.int .i64 0, .int .i64 0, .int .i64 0, .int .i64 0, .int .i64 0, .slice none 0 0, .slice none 0 0], .bool false]) ∧ Below w'.heap.size w' w2) := fun w' hb => get_no (s := s) w' (by unfold maxLen; omega) (HTW.out w' hb) (HEW.out w' hb) hg
    clear hg hss HTW HEW
    go_wp2_with fail
    refine (CG.out _ (Below.refl _ _)).mono ?_
    rintro ee w2 ⟨rfl, hb⟩
    have HB2 := hid hb
    clear hb
    go_wp2_with fail
    obtain ⟨w3, hw3⟩ : ∃ w3, w3 = w2.alloc (.cells #[.int .i64 0, .int .i64 0, .int .i64 0, .int .i64 0, .int .i64 0, .slice none 0 0, .slice none 0 0] 27) := ⟨_, rfl⟩
    rw [← hw3]
    have hal : Below w2.heap.size w2 w3 := by rw [hw3]; exact (Below.refl _ _).alloc (Nat.le_refl _) _
    have HB3 := hid (HB2.out.trans (hal.mono HB2.out.size))
    have HK3 : Hid (w3.heap[w2.heap.size]? = some (.cells #[.int .i64 0, .int .i64 0, .int .i64 0, .int .i64 0, .int .i64 0, .slice none 0 0, .slice none 0 0] 27 (0, 0))) := by rw [hw3]; exact alloc_new _ _
    clear hw3 hal
    refine (CS.out w3).mono ?_
    rintro ee w4 ⟨⟨h0, _⟩ | ⟨_, rfl⟩, hb⟩
    · cases h0
    have HB4 := hid (HB3.out.trans (hb.mono HB3.out.size))
    have HK4 := hid (blk_below HK3.out hb)
    clear hb
    have y0 : w4.cell? ⟨w2.heap.size, 0, none⟩ = some (.int .i64 0) := by rw [in_block HK4.out 0]; rfl
    have y1 : w4.cell? ⟨w2.heap.size, 1, none⟩ = some (.int .i64 0) := by rw [in_block HK4.out 1]; rfl
    have y2 : w4.cell? ⟨w2.heap.size, 2, none⟩ = some (.int .i64 0) := by rw [in_block HK4.out 2]; rfl
    have y3 : w4.cell? ⟨w2.heap.size, 3, none⟩ = some (.int .i64 0) := by rw [in_block HK4.out 3]; rfl
    have y4 : w4.cell? ⟨w2.heap.size, 4, none⟩ = some (.int .i64 0) := by rw [in_block HK4.out 4]; rfl
    have y5 : w4.cell? ⟨w2.heap.size, 5, none⟩ = some (.slice none 0 0) := by rw [in_block HK4.out 5]; rfl
    have y6 : w4.cell? ⟨w2.heap.size, 6, none⟩ = some (.slice none 0 0) := by rw [in_block HK4.out 6]; rfl
    have hlt4 : w2.heap.size < w4.heap.size := (Array.getElem?_eq_some_iff.1 HK4.out).1
    have hne8 : ¬ w4.heap.size = w2.heap.size := by omega
    have hne9 : ¬ w2.heap.size = w4.heap.size := by omega
    go_wp2_with fail
    obtain ⟨w5, hw5⟩ : ∃ w5, w5 = w4.alloc (.cells #[.int .i64 0, .int .i64 0, .int .i64 0, .int .i64 0, .int .i64 0, .slice none 0 0, .slice none 0 0] 27) := ⟨_, rfl⟩
    rw [← hw5]
    have hal : Below w4.heap.size w4 w5 := by rw [hw5]; exact (Below.refl _ _).alloc (Nat.le_refl _) _
    have HB5 := hid (HB4.out.trans (hal.mono HB4.out.size))
    have HK5 := hid (blk_below HK4.out hal)
    have HJ5 : Hid (w5.heap[w4.heap.size]? = some (.cells #[.int .i64 0, .int .i64 0, .int .i64 0, .int .i64 0, .int .i64 0, .slice none 0 0, .slice none 0 0] 27 (0, 0))) := by rw [hw5]; exact alloc_new _ _
    clear hw5 hal
    clear y0 y1 y2 y3 y4 y5 y6 hlt4 hne8 hne9
    refine (fmMsg_same 0 0 0 0 0 none none none none 0 0 0 0 0 0 [] [] w5 rfl (by decide) rfl (by decide) (fun i hi => absurd hi (Nat.not_lt_zero _)) (fun i hi => absurd hi (Nat.not_lt_zero _)) (fun i hi => absurd hi (Nat.not_lt_zero _)) (fun i hi => absurd hi (Nat.not_lt_zero _))).mono ?_
    rintro ee w6 ⟨rfl, hb⟩
    have HB6 := hid (HB5.out.trans (hb.mono HB5.out.size))
    have HK6 := hid (blk_below HK5.out hb)
    have HJ6 := hid (blk_below HJ5.out hb)
    clear hb
    have y0 : w6.cell? ⟨w2.heap.size, 0, none⟩ = some (.int .i64 0) := by rw [in_block HK6.out 0]; rfl
    have y1 : w6.cell? ⟨w2.heap.size, 1, none⟩ = some (.int .i64 0) := by rw [in_block HK6.out 1]; rfl
    have y2 : w6.cell? ⟨w2.heap.size, 2, none⟩ = some (.int .i64 0) := by rw [in_block HK6.out 2]; rfl
    have y3 : w6.cell? ⟨w2.heap.size, 3, none⟩ = some (.int .i64 0) := by rw [in_block HK6.out 3]; rfl
    have y4 : w6.cell? ⟨w2.heap.size, 4, none⟩ = some (.int .i64 0) := by rw [in_block HK6.out 4]; rfl
    have y5 : w6.cell? ⟨w2.heap.size, 5, none⟩ = some (.slice none 0 0) := by rw [in_block HK6.out 5]; rfl
    have y6 : w6.cell? ⟨w2.heap.size, 6, none⟩ = some (.slice none 0 0) := by rw [in_block HK6.out 6]; rfl
    have x0 : w6.cell? ⟨w4.heap.size, 0, none⟩ = some (.int .i64 0) := by rw [in_block HJ6.out 0]; rfl
    have x1 : w6.cell? ⟨w4.heap.size, 1, none⟩ = some (.int .i64 0) := by rw [in_block HJ6.out 1]; rfl
    have x2 : w6.cell? ⟨w4.heap.size, 2, none⟩ = some (.int .i64 0) := by rw [in_block HJ6.out 2]; rfl
    have x3 : w6.cell? ⟨w4.heap.size, 3, none⟩ = some (.int .i64 0) := by rw [in_block HJ6.out 3]; rfl
    have x4 : w6.cell? ⟨w4.heap.size, 4, none⟩ = some (.int .i64 0) := by rw [in_block HJ6.out 4]; rfl
    have x5 : w6.cell? ⟨w4.heap.size, 5, none⟩ = some (.slice none 0 0) := by rw [in_block HJ6.out 5]; rfl
    have x6 : w6.cell? ⟨w4.heap.size, 6, none⟩ = some (.slice none 0 0) := by rw [in_block HJ6.out 6]; rfl
    go_wp2_with fail
    refine (fmMsg_same 0 0 0 0 0 none none none none 0 0 0 0 0 0 [] [] w6 rfl (by decide) rfl (by decide) (fun i hi => absurd hi (Nat.not_lt_zero _)) (fun i hi => absurd hi (Nat.not_lt_zero _)) (fun i hi => absurd hi (Nat.not_lt_zero _)) (fun i hi => absurd hi (Nat.not_lt_zero _))).mono ?_
    rintro ee w7 ⟨rfl, hb⟩
    have HB7 := hid (HB6.out.trans (hb.mono HB6.out.size))
    clear hb
    clear y0 y1 y2 y3 y4 y5 y6 x0 x1 x2 x3 x4 x5 x6
    go_wp2
    go_ret
    exact ⟨rfl, HB.out.trans (HB7.out.mono HB.out.size)⟩
  · rw [hg] at CS
    have h400 := (h_of_g hg).1
    have HVL := hid (gV_len s.data.toList (by simpa using h400))
    have h3 : msgOkP (gPart s.data.toList 0) (gPart s.data.toList 1) (gPart s.data.toList 2) (gPart s.data.toList 3) (gPart s.data.toList 4) (gV s.data.toList) (gL s.data.toList) = true ∧ putText (gPart s.data.toList 0) (gPart s.data.toList 1) (gPart s.data.toList 2) (gPart s.data.toList 3) (gPart s.data.toList 4) (gV s.data.toList) (gL s.data.toList) = s := by
      unfold gOkay at hg
      rw [Bool.and_eq_true, Bool.and_eq_true] at hg
      exact ⟨hg.2.1, of_decide_eq_true hg.2.2⟩
    have CG := hid (fun w' (hb : Below w1.heap.size w1 w') => get_yes (s := s) w' (HTW.out w' hb) (HEW.out w' hb) hg)
    obtain ⟨P0, hP0⟩ : ∃ x, x = gPart s.data.toList 0 := ⟨_, rfl⟩
    obtain ⟨P1, hP1⟩ : ∃ x, x = gPart s.data.toList 1 := ⟨_, rfl⟩
    obtain ⟨P2, hP2⟩ : ∃ x, x = gPart s.data.toList 2 := ⟨_, rfl⟩
    obtain ⟨P3, hP3⟩ : ∃ x, x = gPart s.data.toList 3 := ⟨_, rfl⟩
    obtain ⟨P4, hP4⟩ : ∃ x, x = gPart s.data.toList 4 := ⟨_, rfl⟩
    obtain ⟨V, hVV⟩ : ∃ x, x = gV s.data.toList := ⟨_, rfl⟩
    obtain ⟨L, hLL⟩ : ∃ x, x = gL s.data.toList := ⟨_, rfl⟩
    rw [← hP0, ← hP1, ← hP2, ← hP3, ← hP4, ← hVV, ← hLL] at CS CG h3
    rw [← hVV, ← hLL] at HVL
    have CP : Hid (∀ w' (o1 o2 : Option Addr) (c1 c2 : Nat), Below w1.heap.size w1 w' → NumsAt w' o1 V → EntsAt w' o2 L → Calls Tryd.prog 8 #[.agg #[.int .i64 P0, .int .i64 P1, .int .i64 P2, .int .i64 P3, .int .i64 P4, .slice o1 V.length c1, .slice o2 L.length c2]] w' fun e w2 => e = .returned (.string s) ∧ Below w'.heap.size w' w2) := fun w' o1 o2 c1 c2 hb h1 h2 => by rw [← h3.2]; exact implMsgPut_any P0 P1 P2 P3 P4 o1 o2 V.length c1 L.length c2 V L w' (HTW.out w' hb) rfl HVL.out.1 h1 rfl HVL.out.2 h2
    have CO : Hid (∀ w' (o1 o2 : Option Addr) (c1 c2 : Nat), NumsAt w' o1 V → EntsAt w' o2 L → Calls Tryd.prog 9 #[.agg #[.int .i64 P0, .int .i64 P1, .int .i64 P2, .int .i64 P3, .int .i64 P4, .slice o1 V.length c1, .slice o2 L.length c2]] w' fun e w2 => e = .returned (.bool true) ∧ Below w'.heap.size w' w2) := fun w' o1 o2 c1 c2 h1 h2 => by rw [← h3.1]; exact implMsgOk_any P0 P1 P2 P3 P4 o1 o2 V.length c1 L.length c2 V L w' rfl HVL.out.1 h1 rfl HVL.out.2 h2
    clear hP0 hP1 hP2 hP3 hP4 hVV hLL h3 hg h400 hss HTW HEW
    go_wp2_with fail
    refine (CG.out _ (Below.refl _ _)).mono ?_
    rintro ee w2 ⟨⟨p1, p2, d1, d2, rfl, hn, hl⟩, hb⟩
    have HN2 := hid hn
    have HL2 := hid hl
    have HB2 := hid hb
    clear hb hn hl
    go_wp2_with fail
    obtain ⟨w3, hw3⟩ : ∃ w3, w3 = w2.alloc (.cells #[.int .i64 P0, .int .i64 P1, .int .i64 P2, .int .i64 P3, .int .i64 P4, .slice p1 V.length d1, .slice p2 L.length d2] 27) := ⟨_, rfl⟩
    rw [← hw3]
    have hal : Below w2.heap.size w2 w3 := by rw [hw3]; exact (Below.refl _ _).alloc (Nat.le_refl _) _
    have HB3 := hid (HB2.out.trans (hal.mono HB2.out.size))
    have HK3 : Hid (w3.heap[w2.heap.size]? = some (.cells #[.int .i64 P0, .int .i64 P1, .int .i64 P2, .int .i64 P3, .int .i64 P4, .slice p1 V.length d1, .slice p2 L.length d2] 27 (0, 0))) := by rw [hw3]; exact alloc_new _ _
    have HN3 := hid (HN2.out.below hal)
    have HL3 := hid (HL2.out.below hal)
    clear hw3 hal
    refine (CS.out w3).mono ?_
    rintro ee w4 ⟨⟨_, o1, o2, c1, c2, rfl, hn, hl⟩ | ⟨h0, _⟩, hb⟩
    rotate_left
    · cases h0
    have HO4 := hid hn
    have HE4 := hid hl
    have HN4 := hid (HN3.out.below hb)
    have HL4 := hid (HL3.out.below hb)
    clear hn hl
    have HB4 := hid (HB3.out.trans (hb.mono HB3.out.size))
    have HK4 := hid (blk_below HK3.out hb)
    clear hb
    have y0 : w4.cell? ⟨w2.heap.size, 0, none⟩ = some (.int .i64 P0) := by rw [in_block HK4.out 0]; rfl
    have y1 : w4.cell? ⟨w2.heap.size, 1, none⟩ = some (.int .i64 P1) := by rw [in_block HK4.out 1]; rfl
    have y2 : w4.cell? ⟨w2.heap.size, 2, none⟩ = some (.int .i64 P2) := by rw [in_block HK4.out 2]; rfl
    have y3 : w4.cell? ⟨w2.heap.size, 3, none⟩ = some (.int .i64 P3) := by rw [in_block HK4.out 3]; rfl
    have y4 : w4.cell? ⟨w2.heap.size, 4, none⟩ = some (.int .i64 P4) := by rw [in_block HK4.out 4]; rfl
    have y5 : w4.cell? ⟨w2.heap.size, 5, none⟩ = some (.slice p1 V.length d1) := by rw [in_block HK4.out 5]; rfl
    have y6 : w4.cell? ⟨w2.heap.size, 6, none⟩ = some (.slice p2 L.length d2) := by rw [in_block HK4.out 6]; rfl
    have hlt4 : w2.heap.size < w4.heap.size := (Array.getElem?_eq_some_iff.1 HK4.out).1
    have hne8 : ¬ w4.heap.size = w2.heap.size := by omega
    have hne9 : ¬ w2.heap.size = w4.heap.size := by omega
    go_wp2_with fail
    obtain ⟨w5, hw5⟩ : ∃ w5, w5 = w4.alloc (.cells #[.int .i64 P0, .int .i64 P1, .int .i64 P2, .int .i64 P3, .int .i64 P4, .slice o1 V.length c1, .slice o2 L.length c2] 27) := ⟨_, rfl⟩
    rw [← hw5]
    have hal : Below w4.heap.size w4 w5 := by rw [hw5]; exact (Below.refl _ _).alloc (Nat.le_refl _) _
    have HB5 := hid (HB4.out.trans (hal.mono HB4.out.size))
    have HK5 := hid (blk_below HK4.out hal)
    have HJ5 : Hid (w5.heap[w4.heap.size]? = some (.cells #[.int .i64 P0, .int .i64 P1, .int .i64 P2, .int .i64 P3, .int .i64 P4, .slice o1 V.length c1, .slice o2 L.length c2] 27 (0, 0))) := by rw [hw5]; exact alloc_new _ _
    have HN5 := hid (HN4.out.below hal)
    have HL5 := hid (HL4.out.below hal)
    have HO5 := hid (HO4.out.below hal)
    have HE5 := hid (HE4.out.below hal)
    clear hw5 hal
    clear y0 y1 y2 y3 y4 y5 y6 hlt4 hne8 hne9
    refine (fmMsg_same P0 P1 P2 P3 P4 p1 p2 o1 o2 d1 d2 c1 c2 V.length L.length V L w5 rfl HVL.out.1 rfl HVL.out.2 HN5.out HO5.out HL5.out HE5.out).mono ?_
    rintro ee w6 ⟨rfl, hb⟩
    have HB6 := hid (HB5.out.trans (hb.mono HB5.out.size))
    have HK6 := hid (blk_below HK5.out hb)
    have HJ6 := hid (blk_below HJ5.out hb)
    have HN6 := hid (HN5.out.below hb)
    have HL6 := hid (HL5.out.below hb)
    clear hb
    have y0 : w6.cell? ⟨w2.heap.size, 0, none⟩ = some (.int .i64 P0) := by rw [in_block HK6.out 0]; rfl
    have y1 : w6.cell? ⟨w2.heap.size, 1, none⟩ = some (.int .i64 P1) := by rw [in_block HK6.out 1]; rfl
    have y2 : w6.cell? ⟨w2.heap.size, 2, none⟩ = some (.int .i64 P2) := by rw [in_block HK6.out 2]; rfl
    have y3 : w6.cell? ⟨w2.heap.size, 3, none⟩ = some (.int .i64 P3) := by rw [in_block HK6.out 3]; rfl
    have y4 : w6.cell? ⟨w2.heap.size, 4, none⟩ = some (.int .i64 P4) := by rw [in_block HK6.out 4]; rfl
    have y5 : w6.cell? ⟨w2.heap.size, 5, none⟩ = some (.slice p1 V.length d1) := by rw [in_block HK6.out 5]; rfl
    have y6 : w6.cell? ⟨w2.heap.size, 6, none⟩ = some (.slice p2 L.length d2) := by rw [in_block HK6.out 6]; rfl
    have x0 : w6.cell? ⟨w4.heap.size, 0, none⟩ = some (.int .i64 P0) := by rw [in_block HJ6.out 0]; rfl
    have x1 : w6.cell? ⟨w4.heap.size, 1, none⟩ = some (.int .i64 P1) := by rw [in_block HJ6.out 1]; rfl
    have x2 : w6.cell? ⟨w4.heap.size, 2, none⟩ = some (.int .i64 P2) := by rw [in_block HJ6.out 2]; rfl
    have x3 : w6.cell? ⟨w4.heap.size, 3, none⟩ = some (.int .i64 P3) := by rw [in_block HJ6.out 3]; rfl
    have x4 : w6.cell? ⟨w4.heap.size, 4, none⟩ = some (.int .i64 P4) := by rw [in_block HJ6.out 4]; rfl
    have x5 : w6.cell? ⟨w4.heap.size, 5, none⟩ = some (.slice o1 V.length c1) := by rw [in_block HJ6.out 5]; rfl
    have x6 : w6.cell? ⟨w4.heap.size, 6, none⟩ = some (.slice o2 L.length c2) := by rw [in_block HJ6.out 6]; rfl
    go_wp2_with fail
    refine (CP.out _ p1 p2 d1 d2 HB6.out HN6.out HL6.out).mono ?_
    rintro ee w7 ⟨rfl, hb⟩
    have HB7 := hid (HB6.out.trans (hb.mono HB6.out.size))
    have HK7 := hid (blk_below HK6.out hb)
    have HN7 := hid (HN6.out.below hb)
    have HL7 := hid (HL6.out.below hb)
    clear hb
    clear y0 y1 y2 y3 y4 y5 y6 x0 x1 x2 x3 x4 x5 x6
    have y0 : w7.cell? ⟨w2.heap.size, 0, none⟩ = some (.int .i64 P0) := by rw [in_block HK7.out 0]; rfl
    have y1 : w7.cell? ⟨w2.heap.size, 1, none⟩ = some (.int .i64 P1) := by rw [in_block HK7.out 1]; rfl
    have y2 : w7.cell? ⟨w2.heap.size, 2, none⟩ = some (.int .i64 P2) := by rw [in_block HK7.out 2]; rfl
    have y3 : w7.cell? ⟨w2.heap.size, 3, none⟩ = some (.int .i64 P3) := by rw [in_block HK7.out 3]; rfl
    have y4 : w7.cell? ⟨w2.heap.size, 4, none⟩ = some (.int .i64 P4) := by rw [in_block HK7.out 4]; rfl
    have y5 : w7.cell? ⟨w2.heap.size, 5, none⟩ = some (.slice p1 V.length d1) := by rw [in_block HK7.out 5]; rfl
    have y6 : w7.cell? ⟨w2.heap.size, 6, none⟩ = some (.slice p2 L.length d2) := by rw [in_block HK7.out 6]; rfl
    go_wp2_with fail
    refine (CO.out _ p1 p2 d1 d2 HN7.out HL7.out).mono ?_
    rintro ee w8 ⟨rfl, hb⟩
    have HB8 := hid (HB7.out.trans (hb.mono HB7.out.size))
    clear hb
    clear y0 y1 y2 y3 y4 y5 y6
    go_wp2
    go_ret
    exact ⟨rfl, HB.out.trans (HB8.out.mono HB.out.size)⟩

end Go.Proofs.YtcielnlhopjijaaDoor

