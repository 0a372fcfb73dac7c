/- DERIVED. That the program and the model read the same: plain. The model's reader of messages at every text: l9Get, MsgGet; it takes what the program takes. The law FnExactMsgGet at every text. -/
import Derived.Test.YtcielnlhopjijabDoorGetTripM
import Derived.Test.YtcielnlhopjijabDoorMsgLenR
import Derived.Test.YtcielnlhopjijabDoorReadPlain
import Derived.Test.YtcielnlhopjijabDoorSpecGet8
import Derived.Test.YtcielnlhopjijabDoorGetEntsOM
import Derived.Test.YtcielnlhopjijabDoorNumMarkM
import Derived.Test.YtcielnlhopjijabDoorVoteToM
namespace Go.Proofs.YtcielnlhopjijabDoor

theorem put_msg {kd fr tt bl ins : Int} {V : List Int} {L : List Ent} (hok : msgOkP kd fr tt bl ins V L = true) : putText kd fr tt bl ins V L = putMsg kd fr tt bl ins V L := by
  unfold putText
  rw [if_pos hok]

/-- What the model reads of a message that was written. -/
theorem model_back {kd fr tt bl ins : Int} {V : List Int} {L : List Ent} (hok : msgOkP kd fr tt bl ins V L = true) (s : ByteArray) (hs : putText kd fr tt bl ins V L = s) :
    (hW s).length = 8 ∧ hP s 0 = kd ∧ hP s 1 = fr ∧ hP s 2 = tt ∧ hP s 3 = bl ∧ hP s 4 = ins ∧ hV s = V ∧ hL s = L := by
  have e := putText_l hok
  rw [hs] at e
  have hw : hW s = [dI kd, dI fr, dI tt, dI bl, dI ins, vP V, lP L, Lib.decDigits (crcP (msgT kd fr tt bl ins V L))] := by
    unfold hW
    rw [e, words_put]
  simp only [msgOkP, Bool.and_eq_true] at hok
  obtain ⟨⟨⟨⟨⟨⟨g1, g2⟩, g3⟩, g4⟩, g5⟩, g6⟩, g7⟩ := hok
  have r1 : 1 ≤ kd ∧ kd ≤ 9 := by simpa [inB] using g1
  have r2 := party_range g2
  have r3 := party_range g3
  have r4 : 0 ≤ bl ∧ bl ≤ 9999 := by simpa [inB] using g4
  have r5 : 0 ≤ ins ∧ ins ≤ 12 := by simpa [inB] using g5
  have r6 := okV_all g6
  have r7 := list_short g7
  have r8 := okTo_each L L.length g7
  have hE : ∀ e ∈ L, entOk e = true := by
    intro e he
    obtain ⟨i, hi, rfl⟩ := List.getElem_of_mem he
    have := r8 i hi
    rw [List.getD_eq_getElem?_getD, List.getElem?_eq_getElem hi] at this
    exact this
  unfold hP hV hL
  rw [hw]
  refine ⟨rfl, ?_, ?_, ?_, ?_, ?_, ?_, ?_⟩
  · exact numOf_dI (by omega) (by omega)
  · exact numOf_dI (by omega) (by omega)
  · exact numOf_dI (by omega) (by omega)
  · exact numOf_dI (by omega) (by omega)
  · exact numOf_dI (by omega) (by omega)
  · exact mVotes_vP r6.1 r6.2
  · exact mList_lP r7 hE

/-- What the program takes the model takes, with the same parts. -/
theorem h_of_g {s : ByteArray} (h : gOkay s = true) : s.size ≤ 400 ∧ (hW s).length = 8 ∧ hOkay s = true ∧ hP s 0 = gPart s.data.toList 0 ∧ hP s 1 = gPart s.data.toList 1 ∧ hP s 2 = gPart s.data.toList 2 ∧ hP s 3 = gPart s.data.toList 3 ∧ hP s 4 = gPart s.data.toList 4 ∧ hV s = gV s.data.toList ∧ hL s = gL s.data.toList := by
  unfold gOkay at h
  rw [Bool.and_eq_true, Bool.and_eq_true] at h
  have h1 := of_decide_eq_true h.1
  have h2 := of_decide_eq_true h.2.2
  obtain ⟨w8, e0, e1, e2, e3, e4, e5, e6⟩ := model_back h.2.1 s h2
  refine ⟨h1, w8, ?_, e0, e1, e2, e3, e4, e5, e6⟩
  unfold hOkay
  rw [e0, e1, e2, e3, e4, e5, e6, h.2.1, ← put_msg h.2.1, h2]
  simp

/-- What the model takes the program takes. -/
theorem g_of_h {s : ByteArray} (hs : s.size ≤ 400) (h : hOkay s = true) : gOkay s = true := by
  unfold hOkay at h
  rw [Bool.and_eq_true] at h
  have h2 := of_decide_eq_true h.2
  have h3 := h.1
  rw [← put_msg h3] at h2
  have e := putText_l h3
  rw [h2] at e
  obtain ⟨e0, e1, e2, e3, e4, e5, e6⟩ := read_back h3 (Lib.decDigits (crcP (msgT (hP s 0) (hP s 1) (hP s 2) (hP s 3) (hP s 4) (hV s) (hL s))))
  rw [← e] at e0 e1 e2 e3 e4 e5 e6
  unfold gOkay
  rw [e0, e1, e2, e3, e4, e5, e6, h3, h2]
  simp [hs]

end Go.Proofs.YtcielnlhopjijabDoor

namespace Go.Proofs.YtcielnlhopjijabDoor
open Go.RowKit

theorem no_g {s : ByteArray} (h : ¬ s.size ≤ 400 ∨ ¬ (hW s).length = 8 ∨ (s.size ≤ 400 ∧ hOkay s = false)) : gOkay s = false := by
  cases e : gOkay s
  · rfl
  · obtain ⟨h1, h2, h3, _⟩ := h_of_g e
    rcases h with h | h | h
    · exact absurd h1 h
    · exact absurd h2 h
    · rw [h3] at h; exact absurd h.2 (by simp)

set_option maxHeartbeats 1600000 in
theorem l9Get_all (s : ByteArray) (w : World) (hm : s.size ≤ maxLen) :
    Calls Tryd.prog 9 #[.string s] w fun e w' => ((gOkay s = true ∧ ∃ (o1 o2 : Option Addr) (c1 c2 b1 b2 : Nat) (xs : List Value), e = .returned (.tuple #[.agg #[.int .i64 (gPart s.data.toList 0), .int .i64 (gPart s.data.toList 1), .int .i64 (gPart s.data.toList 2), .int .i64 (gPart s.data.toList 3), .int .i64 (gPart s.data.toList 4), .slice o1 (gV s.data.toList).length c1, .slice o2 (gL s.data.toList).length c2], .bool true]) ∧ w.heap.size ≤ b1 ∧ w'.ownsRow b1 3 1 (.slice o1 (gV s.data.toList).length c1) (gV s.data.toList).length ((gV s.data.toList).map (Value.int .i64)) ∧ w.heap.size ≤ b2 ∧ w'.ownsRow b2 71 3 (.slice o2 (gL s.data.toList).length c2) (gL s.data.toList).length xs ∧ ECells b2 w' (gL s.data.toList) xs) ∨ (gOkay s = false ∧ e = .returned (.tuple #[.agg #[.int .i64 0, .int .i64 0, .int .i64 0, .int .i64 0, .int .i64 0, .slice none 0 0, .slice none 0 0], .bool false]))) ∧ Below w.heap.size w w' := by
  by_cases h4 : s.size ≤ 400
  · by_cases h8 : (hW s).length = 8
    · refine (l9Get_eight s w h4 h8).mono ?_
      rintro e w' ⟨h, hb⟩
      refine ⟨?_, hb⟩
      rcases h with ⟨hy, h⟩ | ⟨hn, rfl⟩
      · have hg := g_of_h h4 hy
        obtain ⟨_, _, _, e0, e1, e2, e3, e4, e5, e6⟩ := h_of_g hg
        rw [e0, e1, e2, e3, e4, e5, e6] at h
        exact Or.inl ⟨hg, h⟩
      · exact Or.inr ⟨no_g (Or.inr (Or.inr ⟨h4, hn⟩)), rfl⟩
    · refine (l9Get_words s w h4 h8).mono ?_
      rintro e w' ⟨rfl, hb⟩
      exact ⟨Or.inr ⟨no_g (Or.inr (Or.inl h8)), rfl⟩, hb⟩
  · refine (l9Get_long s w (by omega) hm).mono ?_
    rintro e w' ⟨rfl, hb⟩
    exact ⟨Or.inr ⟨no_g (Or.inl h4), rfl⟩, hb⟩

set_option maxRecDepth 100000 in
set_option maxHeartbeats 1600000 in
theorem specGet_all (s : ByteArray) (w : World) (hm : s.size ≤ maxLen) :
    Calls Tryd.prog 4 #[.string s] w fun e w' => ((gOkay s = true ∧ ∃ (o1 o2 : Option Addr) (c1 c2 : Nat), e = .returned (.tuple #[.agg #[.int .i64 (gPart s.data.toList 0), .int .i64 (gPart s.data.toList 1), .int .i64 (gPart s.data.toList 2), .int .i64 (gPart s.data.toList 3), .int .i64 (gPart s.data.toList 4), .slice o1 (gV s.data.toList).length c1, .slice o2 (gL s.data.toList).length c2], .bool true]) ∧ NumsAt w' o1 (gV s.data.toList) ∧ EntsAt w' o2 (gL s.data.toList)) ∨ (gOkay s = false ∧ e = .returned (.tuple #[.agg #[.int .i64 0, .int .i64 0, .int .i64 0, .int .i64 0, .int .i64 0, .slice none 0 0, .slice none 0 0], .bool false]))) ∧ Below w.heap.size w w' := by
  have HZ0 : Hid ((w.alloc (.cells #[.int .i64 0, .int .i64 0, .int .i64 0, .int .i64 0, .int .i64 0, .slice none 0 0, .slice none 0 0] 25)).heap[w.heap.size]? = some (.cells #[.int .i64 0, .int .i64 0, .int .i64 0, .int .i64 0, .int .i64 0, .slice none 0 0, .slice none 0 0] 25 (0, 0))) := alloc_new _ _
  have HB0 : Hid (Below w.heap.size w (w.alloc (.cells #[.int .i64 0, .int .i64 0, .int .i64 0, .int .i64 0, .int .i64 0, .slice none 0 0, .slice none 0 0] 25))) := (Below.refl _ _).alloc (Nat.le_refl _) _
  have CG := hid (fun W => l9Get_all s W hm)
  obtain ⟨P0, hP0⟩ : ∃ x, x = gPart s.data.toList 0 := ⟨_, rfl⟩
  obtain ⟨P1, hP1⟩ : ∃ x, x = gPart s.data.toList 1 := ⟨_, rfl⟩
  obtain ⟨P2, hP2⟩ : ∃ x, x = gPart s.data.toList 2 := ⟨_, rfl⟩
  obtain ⟨P3, hP3⟩ : ∃ x, x = gPart s.data.toList 3 := ⟨_, rfl⟩
  obtain ⟨P4, hP4⟩ : ∃ x, x = gPart s.data.toList 4 := ⟨_, rfl⟩
  obtain ⟨V, hVV⟩ : ∃ x, x = gV s.data.toList := ⟨_, rfl⟩
  obtain ⟨L, hLL⟩ : ∃ x, x = gL s.data.toList := ⟨_, rfl⟩
  obtain ⟨gk, hgk⟩ : ∃ x, x = gOkay s := ⟨_, rfl⟩
  rw [← hP0, ← hP1, ← hP2, ← hP3, ← hP4, ← hVV, ← hLL, ← hgk] at CG
  rw [← hP0, ← hP1, ← hP2, ← hP3, ← hP4, ← hVV, ← hLL, ← hgk]
  clear hP0 hP1 hP2 hP3 hP4 hVV hLL hgk hm
  go_enter Tryd.func4, Tryd.ntmps4
  go_wp2_with fail
  obtain ⟨w0, hw0⟩ : ∃ w0, w0 = w.alloc (.cells #[.int .i64 0, .int .i64 0, .int .i64 0, .int .i64 0, .int .i64 0, .slice none 0 0, .slice none 0 0] 25) := ⟨_, rfl⟩
  rw [← hw0] at HZ0 HB0 ⊢
  clear hw0
  refine (CG.out w0).mono ?_
  rintro e w1 ⟨h, hb⟩
  have HZ1 := hid (blk_below HZ0.out hb)
  have HB1 := hid (HB0.out.trans (hb.mono HB0.out.size))
  have HLT : w.heap.size < w0.heap.size := (Array.getElem?_eq_some_iff.1 HZ0.out).1
  clear hb
  have z0 : w1.cell? ⟨w.heap.size, 0, none⟩ = some (.int .i64 0) := by rw [in_block HZ1.out 0]; rfl
  have fz0 : w1.frozen? ⟨w.heap.size, 0, none⟩ = false := free_block HZ1.out 0
  have z1 : w1.cell? ⟨w.heap.size, 1, none⟩ = some (.int .i64 0) := by rw [in_block HZ1.out 1]; rfl
  have fz1 : w1.frozen? ⟨w.heap.size, 1, none⟩ = false := free_block HZ1.out 1
  have z2 : w1.cell? ⟨w.heap.size, 2, none⟩ = some (.int .i64 0) := by rw [in_block HZ1.out 2]; rfl
  have fz2 : w1.frozen? ⟨w.heap.size, 2, none⟩ = false := free_block HZ1.out 2
  have z3 : w1.cell? ⟨w.heap.size, 3, none⟩ = some (.int .i64 0) := by rw [in_block HZ1.out 3]; rfl
  have fz3 : w1.frozen? ⟨w.heap.size, 3, none⟩ = false := free_block HZ1.out 3
  have z4 : w1.cell? ⟨w.heap.size, 4, none⟩ = some (.int .i64 0) := by rw [in_block HZ1.out 4]; rfl
  have fz4 : w1.frozen? ⟨w.heap.size, 4, none⟩ = false := free_block HZ1.out 4
  have z5 : w1.cell? ⟨w.heap.size, 5, none⟩ = some (.slice none 0 0) := by rw [in_block HZ1.out 5]; rfl
  have fz5 : w1.frozen? ⟨w.heap.size, 5, none⟩ = false := free_block HZ1.out 5
  have z6 : w1.cell? ⟨w.heap.size, 6, none⟩ = some (.slice none 0 0) := by rw [in_block HZ1.out 6]; rfl
  have fz6 : w1.frozen? ⟨w.heap.size, 6, none⟩ = false := free_block HZ1.out 6
  rcases h with ⟨hy, o1, o2, c1, c2, b1, b2, xs, rfl, hb1, hv, hb2, hl, hx⟩ | ⟨hn, rfl⟩
  · have HY := hid hy
    have hc1 : w.heap.size < b1 := by omega
    have hc2 : w.heap.size < b2 := by omega
    have HVF := hid ((row_set (row_set (row_set (row_set (row_set (row_set (row_set hv w.heap.size 0 (.int .i64 P0) hc1) w.heap.size 1 (.int .i64 P1) hc1) w.heap.size 2 (.int .i64 P2) hc1) w.heap.size 3 (.int .i64 P3) hc1) w.heap.size 4 (.int .i64 P4) hc1) w.heap.size 5 (.slice o1 V.length c1) hc1) w.heap.size 6 (.slice o2 L.length c2) hc1))
    have HLF := hid ((row_set (row_set (row_set (row_set (row_set (row_set (row_set hl w.heap.size 0 (.int .i64 P0) hc2) w.heap.size 1 (.int .i64 P1) hc2) w.heap.size 2 (.int .i64 P2) hc2) w.heap.size 3 (.int .i64 P3) hc2) w.heap.size 4 (.int .i64 P4) hc2) w.heap.size 5 (.slice o1 V.length c1) hc2) w.heap.size 6 (.slice o2 L.length c2) hc2))
    have HXF := hid ((ecells_set (ecells_set (ecells_set (ecells_set (ecells_set (ecells_set (ecells_set hx w.heap.size 0 (.int .i64 P0) hc2) w.heap.size 1 (.int .i64 P1) hc2) w.heap.size 2 (.int .i64 P2) hc2) w.heap.size 3 (.int .i64 P3) hc2) w.heap.size 4 (.int .i64 P4) hc2) w.heap.size 5 (.slice o1 V.length c1) hc2) w.heap.size 6 (.slice o2 L.length c2) hc2))
    have HBF := hid ((((((((HB1.out.setCell (p := ⟨w.heap.size, 0, none⟩) (Nat.le_refl _) (.int .i64 P0)).setCell (p := ⟨w.heap.size, 1, none⟩) (Nat.le_refl _) (.int .i64 P1)).setCell (p := ⟨w.heap.size, 2, none⟩) (Nat.le_refl _) (.int .i64 P2)).setCell (p := ⟨w.heap.size, 3, none⟩) (Nat.le_refl _) (.int .i64 P3)).setCell (p := ⟨w.heap.size, 4, none⟩) (Nat.le_refl _) (.int .i64 P4)).setCell (p := ⟨w.heap.size, 5, none⟩) (Nat.le_refl _) (.slice o1 V.length c1)).setCell (p := ⟨w.heap.size, 6, none⟩) (Nat.le_refl _) (.slice o2 L.length c2)))
    clear hv hl hx hb1 hb2 hc1 hc2 HLT
    go_wp2
    refine bodyPost_ret (v := .tuple #[.agg #[.int .i64 P0, .int .i64 P1, .int .i64 P2, .int .i64 P3, .int .i64 P4, .slice o1 V.length c1, .slice o2 L.length c2], .bool true]) (by simp [results, Tryd.results4, go_sem, z0, z1, z2, z3, z4, z5, z6]) rfl ⟨Or.inl ⟨HY.out, o1, o2, c1, c2, rfl, (NumsIn.of_row HVF.out).at, ents_of HLF.out HXF.out⟩, HBF.out⟩
  · have HN := hid hn
    have HBF := hid ((((((((HB1.out.setCell (p := ⟨w.heap.size, 0, none⟩) (Nat.le_refl _) (.int .i64 0)).setCell (p := ⟨w.heap.size, 1, none⟩) (Nat.le_refl _) (.int .i64 0)).setCell (p := ⟨w.heap.size, 2, none⟩) (Nat.le_refl _) (.int .i64 0)).setCell (p := ⟨w.heap.size, 3, none⟩) (Nat.le_refl _) (.int .i64 0)).setCell (p := ⟨w.heap.size, 4, none⟩) (Nat.le_refl _) (.int .i64 0)).setCell (p := ⟨w.heap.size, 5, none⟩) (Nat.le_refl _) (.slice none 0 0)).setCell (p := ⟨w.heap.size, 6, none⟩) (Nat.le_refl _) (.slice none 0 0)))
    clear HLT
    go_wp2
    refine bodyPost_ret (v := .tuple #[.agg #[.int .i64 0, .int .i64 0, .int .i64 0, .int .i64 0, .int .i64 0, .slice none 0 0, .slice none 0 0], .bool false]) (by simp [results, Tryd.results4, go_sem, z0, z1, z2, z3, z4, z5, z6]) rfl ⟨Or.inr ⟨HN.out, rfl⟩, HBF.out⟩

end Go.Proofs.YtcielnlhopjijabDoor

namespace Go.Proofs.YtcielnlhopjijabDoor
open Go.RowKit

/-- What is read of a text, by the program and by the model alike: nothing, if it is no message. -/
def rP (s : ByteArray) (k : Nat) : Int := if gOkay s = true then gPart s.data.toList k else 0
def rV (s : ByteArray) : List Int := if gOkay s = true then gV s.data.toList else []
def rL (s : ByteArray) : List Ent := if gOkay s = true then gL s.data.toList else []

theorem r_small (s : ByteArray) : (rV s).length ≤ 3 ∧ (rL s).length ≤ 12 ∧ ∀ i, i < (rL s).length → ((rL s).getD i (0, 0, [])).2.2.length ≤ 3 := by
  unfold rV rL
  by_cases h : gOkay s = true
  · rw [if_pos h, if_pos h]
    unfold gOkay at h
    rw [Bool.and_eq_true, Bool.and_eq_true] at h
    have hok := h.2.1
    simp only [msgOkP, Bool.and_eq_true] at hok
    obtain ⟨⟨_, g6⟩, g7⟩ := hok
    have r6 := okV_all g6
    have r7 := list_short g7
    have r8 := okTo_each _ _ g7
    refine ⟨r6.1, r7, fun i hi => ?_⟩
    have h8 := r8 i hi
    simp only [entOk, Bool.and_eq_true] at h8
    exact (okV_all h8.1.2).1
  · rw [if_neg h, if_neg h]
    exact ⟨Nat.zero_le _, Nat.zero_le _, fun i hi => absurd hi (Nat.not_lt_zero _)⟩

theorem getO_all (s : ByteArray) (w : World) (hs : s.size ≤ maxLen) (ht : Tab w) (he : EofR w) :
    Calls Tryd.prog 5 #[.string s] w fun e w' => (∃ (o1 o2 : Option Addr) (c1 c2 b1 b2 : Nat) (xs : List Value), e = .returned (.tuple #[.agg #[.int .i64 (rP s 0), .int .i64 (rP s 1), .int .i64 (rP s 2), .int .i64 (rP s 3), .int .i64 (rP s 4), .slice o1 (rV s).length c1, .slice o2 (rL s).length c2], .bool (gOkay s)]) ∧ w.heap.size ≤ b1 ∧ w.heap.size ≤ b2 ∧ w'.ownsRow b1 3 1 (.slice o1 (rV s).length c1) (rV s).length ((rV s).map (Value.int .i64)) ∧ w'.ownsRow b2 71 3 (.slice o2 (rL s).length c2) (rL s).length xs ∧ XCells b2 w' (rL s) xs ∧ ∀ g, (Value.slice o1 (rV s).length c1).ownBlock = some g → g < b2) ∧ Below w.heap.size w w' := by
  unfold rP rV rL
  cases h : gOkay s
  · refine (get_no (s := s) w hs ht he h).mono ?_
    rintro e w' ⟨rfl, hb⟩
    exact ⟨⟨none, none, 0, 0, w.heap.size, w.heap.size, [], rfl, Nat.le_refl _, Nat.le_refl _, rowNil _ _ _ _, rowNil _ _ _ _, XCells.nil _ _ hb.size, fun g hg => by cases hg⟩, hb⟩
  · refine (get_o (s := s) w ht he h).mono ?_
    rintro e w' ⟨⟨o1, o2, c1, c2, b1, b2, xs, rfl, h1, h2, hr⟩, hb⟩
    exact ⟨⟨o1, o2, c1, c2, b1, b2, xs, rfl, Nat.le_of_lt h1, Nat.le_of_lt h2, hr⟩, hb⟩

theorem specR_all (s : ByteArray) (w : World) (hs : s.size ≤ maxLen) :
    Calls Tryd.prog 4 #[.string s] w fun e w' => (∃ (o1 o2 : Option Addr) (c1 c2 : Nat), e = .returned (.tuple #[.agg #[.int .i64 (rP s 0), .int .i64 (rP s 1), .int .i64 (rP s 2), .int .i64 (rP s 3), .int .i64 (rP s 4), .slice o1 (rV s).length c1, .slice o2 (rL s).length c2], .bool (gOkay s)]) ∧ NumsAt w' o1 (rV s) ∧ EntsAt w' o2 (rL s)) ∧ Below w.heap.size w w' := by
  refine (specGet_all s w hs).mono ?_
  rintro e w' ⟨h, hb⟩
  refine ⟨?_, hb⟩
  unfold rP rV rL
  rcases h with ⟨hy, o1, o2, c1, c2, rfl, h1, h2⟩ | ⟨hn, rfl⟩
  · rw [hy]
    exact ⟨o1, o2, c1, c2, rfl, h1, h2⟩
  · rw [hn]
    exact ⟨none, none, 0, 0, rfl, fun i hi => absurd hi (Nat.not_lt_zero _), fun i hi => absurd hi (Nat.not_lt_zero _)⟩

/-- How many marks there are ahead of each entry. -/
def kOf (n : Nat) (N : Nat → Nat) : Nat → Nat
  | 0 => 1 + n
  | i + 1 => kOf n N i + 2 + N i

theorem kOf_le (n : Nat) (N : Nat → Nat) (m : Nat) (h : ∀ i, i < m → N i ≤ 100) : ∀ i, i ≤ m → kOf n N i ≤ 1 + n + 102 * i
  | 0, _ => Nat.le_refl _
  | i + 1, hi => by
    have := kOf_le n N m h i (by omega)
    have := h i (by omega)
    show kOf n N i + 2 + N i ≤ _
    omega

theorem own_of_x {w : World} {n b1 b2 : Nat} {v l : Value} {zs xs : List Value} {L : List Ent} {K : Nat → Nat} (h1 : w.ownsRow b1 3 1 v n zs) (h2 : w.ownsRow b2 71 3 l L.length xs) (hx : XCells b2 w L xs) :
    ∃ lo : Nat → Nat, (∀ i, i < L.length → lo i ≤ lo (i + 1)) ∧ b2 ≤ lo 0 ∧ OwnMsg w n L.length b1 b2 v l (fun i => (L.getD i (0, 0, [])).2.2.length) lo K 0 zs xs := by
  obtain ⟨lo, h0, _, h3⟩ := hx.2
  refine ⟨lo, fun i hi => (h3 i hi).1, h0, h1, h2, hx.1.1, fun i hi => ?_⟩
  obtain ⟨_, ov, cv, a, b, c⟩ := h3 i hi
  exact ⟨ov, cv, _, a, b, c, fun h => absurd h (Nat.not_lt_zero _)⟩

set_option maxRecDepth 100000 in
set_option maxHeartbeats 6400000 in
theorem law_any (s : ByteArray) (w : World) (hm : s.size ≤ maxLen) (ht : Tab w) (he : EofR w) :
    Calls Tryd.prog 3 #[.string s] w fun e w' => e = .returned (.bool true) ∧ Below w.heap.size w w' := by
  have hm' : s.size ≤ 2 ^ 63 - 1 := hm
  by_cases hbig : (s.size : Int) > 1048576
  · clear ht he
    go_enter Tryd.func3, Tryd.ntmps3
    go_wp2
    go_ret
    exact ⟨rfl, Below.refl _ _⟩
  have HT := hid ht
  have HEO := hid he
  have CS := hid (specR_all s w hm)
  have CG := hid (fun W (h1 : Tab W) (h2 : EofR W) => getO_all s W hm h1 h2)
  obtain ⟨r1, r2, r3⟩ := r_small s
  obtain ⟨P0, hP0⟩ : ∃ x, x = rP s 0 := ⟨_, rfl⟩
  obtain ⟨P1, hP1⟩ : ∃ x, x = rP s 1 := ⟨_, rfl⟩
  obtain ⟨P2, hP2⟩ : ∃ x, x = rP s 2 := ⟨_, rfl⟩
  obtain ⟨P3, hP3⟩ : ∃ x, x = rP s 3 := ⟨_, rfl⟩
  obtain ⟨P4, hP4⟩ : ∃ x, x = rP s 4 := ⟨_, rfl⟩
  obtain ⟨V, hVV⟩ : ∃ x, x = rV s := ⟨_, rfl⟩
  obtain ⟨L, hLL⟩ : ∃ x, x = rL s := ⟨_, rfl⟩
  obtain ⟨gk, hgk⟩ : ∃ x, x = gOkay s := ⟨_, rfl⟩
  rw [← hP0, ← hP1, ← hP2, ← hP3, ← hP4, ← hVV, ← hLL, ← hgk] at CS CG
  rw [← hVV] at r1
  rw [← hLL] at r2 r3
  have HVL : Hid (V.length ≤ 1048576 ∧ L.length ≤ 1048576) := ⟨by omega, by omega⟩
  obtain ⟨N, hN⟩ : ∃ N : Nat → Nat, N = fun i => (L.getD i (0, 0, [])).2.2.length := ⟨_, rfl⟩
  have hN3 : ∀ i, i < L.length → N i ≤ 100 := fun i hi => by rw [hN]; have := r3 i hi; show (L.getD i (0, 0, [])).2.2.length ≤ _; omega
  obtain ⟨K, hK⟩ : ∃ K, K = kOf V.length N := ⟨_, rfl⟩
  have hKb : ∀ i, i ≤ L.length → K i ≤ 90000 := fun i hi => by rw [hK]; have := kOf_le V.length N L.length hN3 i hi; omega
  obtain ⟨z, hz⟩ : ∃ z, z = K L.length := ⟨_, rfl⟩
  have hz0 : ¬ (z : Int) < 0 := by omega
  have CM : Hid (∀ (W : World) (o1 o2 : Option Addr) (c1 c2 b1 b2 : Nat) (lo : Nat → Nat) (xs : List Value) (B : Nat), (∀ i, i < L.length → lo i ≤ lo (i + 1)) → b2 ≤ lo 0 → (∀ g, (Value.slice o1 V.length c1).ownBlock = some g → g < b2) → B ≤ b1 → B ≤ b2 → B ≤ W.heap.size → OwnMsg W V.length L.length b1 b2 (.slice o1 V.length c1) (.slice o2 L.length c2) N lo K 0 (V.map (Value.int .i64)) xs →
      Calls Tryd.prog 7 #[.agg #[.int .i64 P0, .int .i64 P1, .int .i64 P2, .int .i64 P3, .int .i64 P4, .slice o1 V.length c1, .slice o2 L.length c2], .int .i64 1] W fun e w' => e = .returned (.int .i64 (z : Int)) ∧ (∃ ys', OwnMsg w' V.length L.length b1 b2 (.slice o1 V.length c1) (.slice o2 L.length c2) N lo K L.length (marksL 1 V.length) ys') ∧ Below B W w' ∧ (∀ (k : Nat) (cur : Array Value) (fz : Nat × Nat), W.heap[k]? = some (.cells cur 25 fz) → w'.heap[k]? = some (.cells cur 25 fz))) := fun W o1 o2 c1 c2 b1 b2 lo xs B k1 k2 k3 k4 k5 k6 k7 => by
    rw [hz]
    exact markMsg_any P0 P1 P2 P3 P4 o1 o2 V.length L.length c1 c2 b1 b2 B N lo K _ xs W (by omega) (by omega) hN3 (by rw [hK]; rfl) (fun i _ => by rw [hK]; rfl) hKb k1 k2 k3 k4 k5 k6 k7
  have CH : Hid (∀ (W : World) (o1 o2 : Option Addr) (c1 c2 b1 b2 : Nat) (lo : Nat → Nat) (ys : List Value), OwnMsg W V.length L.length b1 b2 (.slice o1 V.length c1) (.slice o2 L.length c2) N lo K L.length (marksL 1 V.length) ys →
      Calls Tryd.prog 8 #[.agg #[.int .i64 P0, .int .i64 P1, .int .i64 P2, .int .i64 P3, .int .i64 P4, .slice o1 V.length c1, .slice o2 L.length c2], .int .i64 1] W fun e w' => e = .returned (.int .i64 (z : Int)) ∧ Below W.heap.size W w') := fun W o1 o2 c1 c2 b1 b2 lo ys k1 => by
    rw [hz]
    exact heldMsg_any P0 P1 P2 P3 P4 o1 o2 V.length L.length c1 c2 b1 b2 N lo K ys W (by omega) (by omega) hN3 (by rw [hK]; rfl) (fun i _ => by rw [hK]; rfl) hKb k1
  have OWN : Hid (∀ (W : World) (b1 b2 : Nat) (v l : Value) (zs xs : List Value), W.ownsRow b1 3 1 v V.length zs → W.ownsRow b2 71 3 l L.length xs → XCells b2 W L xs → ∃ lo : Nat → Nat, (∀ i, i < L.length → lo i ≤ lo (i + 1)) ∧ b2 ≤ lo 0 ∧ OwnMsg W V.length L.length b1 b2 v l N lo K 0 zs xs) := fun W b1 b2 v l zs xs k1 k2 k3 => by
    rw [hN]
    exact own_of_x k1 k2 k3
  clear hP0 hP1 hP2 hP3 hP4 hVV hLL hgk r1 r2 r3 hm hm' ht he hN hN3 hK hKb hz
  go_enter Tryd.func3, Tryd.ntmps3
  go_wp2_with fail
  refine CS.out.mono ?_
  rintro ee w1 ⟨⟨p1, p2, d1, d2, rfl, hn, he⟩, hb⟩
  have HB1 := hid hb
  have HP1 := hid hn
  have HE1 := hid he
  clear hb hn he
  go_wp2_with fail
  obtain ⟨w2, hw2⟩ : ∃ w2, w2 = w1.alloc (.cells #[.int .i64 P0, .int .i64 P1, .int .i64 P2, .int .i64 P3, .int .i64 P4, .slice p1 V.length d1, .slice p2 L.length d2] 25) := ⟨_, rfl⟩
  rw [← hw2]
  have hal : Below w1.heap.size w1 w2 := by rw [hw2]; exact (Below.refl _ _).alloc (Nat.le_refl _) _
  have HK2 : Hid (w2.heap[w1.heap.size]? = some (.cells #[.int .i64 P0, .int .i64 P1, .int .i64 P2, .int .i64 P3, .int .i64 P4, .slice p1 V.length d1, .slice p2 L.length d2] 25 (0, 0))) := by rw [hw2]; exact alloc_new _ _
  have HB2 := hid (HB1.out.trans (hal.mono HB1.out.size))
  have HP2 := hid (HP1.out.below hal)
  have HE2 := hid (HE1.out.below hal)
  clear hw2 hal
  refine (CG.out w2 (HT.out.below HB2.out) (HEO.out.below HB2.out)).mono ?_
  rintro ee w3 ⟨⟨o1, o2, c1, c2, b1, b2, xs, rfl, h1, h2, hr1, hr2, hx, hvb⟩, hb⟩
  have HC3 := hid hb
  have HK3 := hid (blk_below HK2.out hb)
  have HB12 : Hid (w2.heap.size ≤ b1 ∧ w2.heap.size ≤ b2) := ⟨h1, h2⟩
  have HVB := hid hvb
  obtain ⟨lo, hlo, hb2, hown⟩ := OWN.out _ _ _ _ _ _ _ hr1 hr2 hx
  have HLO := hid hlo
  have HLB := hid hb2
  have HO3 := hid hown
  have HN3 := hid (NumsIn.of_row hr1).at
  have HE3 := hid (ents_of hr2 hx.1)
  clear hb h1 h2 hr1 hr2 hx hvb hlo hb2 hown
  have x0 : w3.cell? ⟨w1.heap.size, 0, none⟩ = some (.int .i64 P0) := by rw [in_block HK3.out 0]; rfl
  have x1 : w3.cell? ⟨w1.heap.size, 1, none⟩ = some (.int .i64 P1) := by rw [in_block HK3.out 1]; rfl
  have x2 : w3.cell? ⟨w1.heap.size, 2, none⟩ = some (.int .i64 P2) := by rw [in_block HK3.out 2]; rfl
  have x3 : w3.cell? ⟨w1.heap.size, 3, none⟩ = some (.int .i64 P3) := by rw [in_block HK3.out 3]; rfl
  have x4 : w3.cell? ⟨w1.heap.size, 4, none⟩ = some (.int .i64 P4) := by rw [in_block HK3.out 4]; rfl
  have x5 : w3.cell? ⟨w1.heap.size, 5, none⟩ = some (.slice p1 V.length d1) := by rw [in_block HK3.out 5]; rfl
  have x6 : w3.cell? ⟨w1.heap.size, 6, none⟩ = some (.slice p2 L.length d2) := by rw [in_block HK3.out 6]; rfl
  have hlt3 : w1.heap.size < w3.heap.size := (Array.getElem?_eq_some_iff.1 HK3.out).1
  have hne8 : ¬ w3.heap.size = w1.heap.size := by omega
  have hne9 : ¬ w1.heap.size = w3.heap.size := by omega
  go_wp2_with fail
  obtain ⟨w4, hw4⟩ : ∃ w4, w4 = w3.alloc (.cells #[.int .i64 P0, .int .i64 P1, .int .i64 P2, .int .i64 P3, .int .i64 P4, .slice o1 V.length c1, .slice o2 L.length c2] 25) := ⟨_, rfl⟩
  rw [← hw4]
  have hal : Below w3.heap.size w3 w4 := by rw [hw4]; exact (Below.refl _ _).alloc (Nat.le_refl _) _
  have HJ4 : Hid (w4.heap[w3.heap.size]? = some (.cells #[.int .i64 P0, .int .i64 P1, .int .i64 P2, .int .i64 P3, .int .i64 P4, .slice o1 V.length c1, .slice o2 L.length c2] 25 (0, 0))) := by rw [hw4]; exact alloc_new _ _
  have HC4 := hid (HC3.out.trans (hal.mono HC3.out.size))
  have HK4 := hid (blk_below HK3.out hal)
  have HO4 := hid (HO3.out.below hal)
  have HN4 := hid (HN3.out.below hal)
  have HE4 := hid (HE3.out.below hal)
  clear hw4 hal hlt3 hne8 hne9
  clear x0 x1 x2 x3 x4 x5 x6
  refine (eqMsg_same P0 P1 P2 P3 P4 o1 p1 o2 p2 V.length c1 d1 L.length c2 d2 V L w4 rfl HVL.out.1 rfl HVL.out.2 HN4.out (HP2.out.below HC4.out) HE4.out (HE2.out.below HC4.out)).mono ?_
  rintro ee w5 ⟨rfl, hb⟩
  have HC5 := hid (HC4.out.trans (hb.mono HC4.out.size))
  have HK5 := hid (blk_below HK4.out hb)
  have HJ5 := hid (blk_below HJ4.out hb)
  have HO5 := hid (HO4.out.below hb)
  clear hb
  have y0 : w5.cell? ⟨w3.heap.size, 0, none⟩ = some (.int .i64 P0) := by rw [in_block HJ5.out 0]; rfl
  have y1 : w5.cell? ⟨w3.heap.size, 1, none⟩ = some (.int .i64 P1) := by rw [in_block HJ5.out 1]; rfl
  have y2 : w5.cell? ⟨w3.heap.size, 2, none⟩ = some (.int .i64 P2) := by rw [in_block HJ5.out 2]; rfl
  have y3 : w5.cell? ⟨w3.heap.size, 3, none⟩ = some (.int .i64 P3) := by rw [in_block HJ5.out 3]; rfl
  have y4 : w5.cell? ⟨w3.heap.size, 4, none⟩ = some (.int .i64 P4) := by rw [in_block HJ5.out 4]; rfl
  have y5 : w5.cell? ⟨w3.heap.size, 5, none⟩ = some (.slice o1 V.length c1) := by rw [in_block HJ5.out 5]; rfl
  have y6 : w5.cell? ⟨w3.heap.size, 6, none⟩ = some (.slice o2 L.length c2) := by rw [in_block HJ5.out 6]; rfl
  go_wp2_with fail
  refine (CM.out w5 o1 o2 c1 c2 b1 b2 lo xs w2.heap.size HLO.out HLB.out HVB.out HB12.out.1 HB12.out.2 HC5.out.size HO5.out).mono ?_
  rintro ee w6 ⟨rfl, ⟨ys, hown⟩, hb, htk⟩
  have HC6 := hid (HC5.out.trans hb)
  have HJ6 := hid (htk _ _ _ HJ5.out)
  have HO6 := hid hown
  have HK6 : Hid (w6.heap[w1.heap.size]? = some (.cells #[.int .i64 P0, .int .i64 P1, .int .i64 P2, .int .i64 P3, .int .i64 P4, .slice p1 V.length d1, .slice p2 L.length d2] 25 (0, 0))) := by show _ = _; rw [hb.block _ (Array.getElem?_eq_some_iff.1 HK2.out).1]; exact HK5.out
  clear hb htk hown
  clear y0 y1 y2 y3 y4 y5 y6
  have y0 : w6.cell? ⟨w3.heap.size, 0, none⟩ = some (.int .i64 P0) := by rw [in_block HJ6.out 0]; rfl
  have y1 : w6.cell? ⟨w3.heap.size, 1, none⟩ = some (.int .i64 P1) := by rw [in_block HJ6.out 1]; rfl
  have y2 : w6.cell? ⟨w3.heap.size, 2, none⟩ = some (.int .i64 P2) := by rw [in_block HJ6.out 2]; rfl
  have y3 : w6.cell? ⟨w3.heap.size, 3, none⟩ = some (.int .i64 P3) := by rw [in_block HJ6.out 3]; rfl
  have y4 : w6.cell? ⟨w3.heap.size, 4, none⟩ = some (.int .i64 P4) := by rw [in_block HJ6.out 4]; rfl
  have y5 : w6.cell? ⟨w3.heap.size, 5, none⟩ = some (.slice o1 V.length c1) := by rw [in_block HJ6.out 5]; rfl
  have y6 : w6.cell? ⟨w3.heap.size, 6, none⟩ = some (.slice o2 L.length c2) := by rw [in_block HJ6.out 6]; rfl
  go_wp2_with fail
  refine (CH.out w6 o1 o2 c1 c2 b1 b2 lo ys HO6.out).mono ?_
  rintro ee w7 ⟨rfl, hb⟩
  have HC7 := hid (HC6.out.trans (hb.mono HC6.out.size))
  have HJ7 := hid (blk_below HJ6.out hb)
  have HK7 := hid (blk_below HK6.out hb)
  have HO7 := hid (HO6.out.below hb)
  clear hb
  clear y0 y1 y2 y3 y4 y5 y6
  go_wp2_with fail
  refine (CG.out w7 (HT.out.below (HB2.out.trans (HC7.out.mono HB2.out.size))) (HEO.out.below (HB2.out.trans (HC7.out.mono HB2.out.size)))).mono ?_
  rintro ee w8 ⟨⟨q1, q2, e1, e2, b3, b4, us, rfl, h1, h2, hr1, hr2, hx, hvb⟩, hb⟩
  have HC8 := hid (HC7.out.trans (hb.mono HC7.out.size))
  have HJ8 := hid (blk_below HJ7.out hb)
  have HK8 := hid (blk_below HK7.out hb)
  have HO8 := hid (HO7.out.below hb)
  have HN8 := hid (NumsIn.of_row hr1).at
  have HE8 := hid (ents_of hr2 hx.1)
  clear hb h1 h2 hr1 hr2 hx hvb
  have x0 : w8.cell? ⟨w1.heap.size, 0, none⟩ = some (.int .i64 P0) := by rw [in_block HK8.out 0]; rfl
  have x1 : w8.cell? ⟨w1.heap.size, 1, none⟩ = some (.int .i64 P1) := by rw [in_block HK8.out 1]; rfl
  have x2 : w8.cell? ⟨w1.heap.size, 2, none⟩ = some (.int .i64 P2) := by rw [in_block HK8.out 2]; rfl
  have x3 : w8.cell? ⟨w1.heap.size, 3, none⟩ = some (.int .i64 P3) := by rw [in_block HK8.out 3]; rfl
  have x4 : w8.cell? ⟨w1.heap.size, 4, none⟩ = some (.int .i64 P4) := by rw [in_block HK8.out 4]; rfl
  have x5 : w8.cell? ⟨w1.heap.size, 5, none⟩ = some (.slice p1 V.length d1) := by rw [in_block HK8.out 5]; rfl
  have x6 : w8.cell? ⟨w1.heap.size, 6, none⟩ = some (.slice p2 L.length d2) := by rw [in_block HK8.out 6]; rfl
  have y0 : w8.cell? ⟨w3.heap.size, 0, none⟩ = some (.int .i64 P0) := by rw [in_block HJ8.out 0]; rfl
  have y1 : w8.cell? ⟨w3.heap.size, 1, none⟩ = some (.int .i64 P1) := by rw [in_block HJ8.out 1]; rfl
  have y2 : w8.cell? ⟨w3.heap.size, 2, none⟩ = some (.int .i64 P2) := by rw [in_block HJ8.out 2]; rfl
  have y3 : w8.cell? ⟨w3.heap.size, 3, none⟩ = some (.int .i64 P3) := by rw [in_block HJ8.out 3]; rfl
  have y4 : w8.cell? ⟨w3.heap.size, 4, none⟩ = some (.int .i64 P4) := by rw [in_block HJ8.out 4]; rfl
  have y5 : w8.cell? ⟨w3.heap.size, 5, none⟩ = some (.slice o1 V.length c1) := by rw [in_block HJ8.out 5]; rfl
  have y6 : w8.cell? ⟨w3.heap.size, 6, none⟩ = some (.slice o2 L.length c2) := by rw [in_block HJ8.out 6]; rfl
  have hlt8 : w1.heap.size < w8.heap.size := (Array.getElem?_eq_some_iff.1 HK8.out).1
  have hne8 : ¬ w8.heap.size = w1.heap.size := by omega
  have hne9 : ¬ w1.heap.size = w8.heap.size := by omega
  go_wp2_with fail
  obtain ⟨w9, hw9⟩ : ∃ w9, w9 = w8.alloc (.cells #[.int .i64 P0, .int .i64 P1, .int .i64 P2, .int .i64 P3, .int .i64 P4, .slice q1 V.length e1, .slice q2 L.length e2] 25) := ⟨_, rfl⟩
  rw [← hw9]
  have hal : Below w8.heap.size w8 w9 := by rw [hw9]; exact (Below.refl _ _).alloc (Nat.le_refl _) _
  have HC9 := hid (HC8.out.trans (hal.mono HC8.out.size))
  have HJ9 := hid (blk_below HJ8.out hal)
  have HO9 := hid (HO8.out.below hal)
  have HN9 := hid (HN8.out.below hal)
  have HE9 := hid (HE8.out.below hal)
  clear hw9 hal hlt8 hne8 hne9
  clear x0 x1 x2 x3 x4 x5 x6 y0 y1 y2 y3 y4 y5 y6
  refine (eqMsg_same P0 P1 P2 P3 P4 q1 p1 q2 p2 V.length e1 d1 L.length e2 d2 V L w9 rfl HVL.out.1 rfl HVL.out.2 HN9.out (HP2.out.below HC9.out) HE9.out (HE2.out.below HC9.out)).mono ?_
  rintro ee w10 ⟨rfl, hb⟩
  have HC10 := hid (HC9.out.trans (hb.mono HC9.out.size))
  have HJ10 := hid (blk_below HJ9.out hb)
  have HO10 := hid (HO9.out.below hb)
  clear hb
  have y0 : w10.cell? ⟨w3.heap.size, 0, none⟩ = some (.int .i64 P0) := by rw [in_block HJ10.out 0]; rfl
  have y1 : w10.cell? ⟨w3.heap.size, 1, none⟩ = some (.int .i64 P1) := by rw [in_block HJ10.out 1]; rfl
  have y2 : w10.cell? ⟨w3.heap.size, 2, none⟩ = some (.int .i64 P2) := by rw [in_block HJ10.out 2]; rfl
  have y3 : w10.cell? ⟨w3.heap.size, 3, none⟩ = some (.int .i64 P3) := by rw [in_block HJ10.out 3]; rfl
  have y4 : w10.cell? ⟨w3.heap.size, 4, none⟩ = some (.int .i64 P4) := by rw [in_block HJ10.out 4]; rfl
  have y5 : w10.cell? ⟨w3.heap.size, 5, none⟩ = some (.slice o1 V.length c1) := by rw [in_block HJ10.out 5]; rfl
  have y6 : w10.cell? ⟨w3.heap.size, 6, none⟩ = some (.slice o2 L.length c2) := by rw [in_block HJ10.out 6]; rfl
  go_wp2_with fail
  refine (CH.out w10 o1 o2 c1 c2 b1 b2 lo ys HO10.out).mono ?_
  rintro ee w11 ⟨rfl, hb⟩
  have HC11 := hid (HC10.out.trans (hb.mono HC10.out.size))
  clear hb
  clear y0 y1 y2 y3 y4 y5 y6
  go_wp2
  go_ret
  exact ⟨rfl, HB2.out.trans (HC11.out.mono HB2.out.size)⟩

end Go.Proofs.YtcielnlhopjijabDoor

