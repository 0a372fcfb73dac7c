/- DERIVED. newMsgReader and MsgGet of the program. -/
import Derived.Test.YtijdjplajhcilabDoorGetMsg
import Derived.Test.YtijdjplajhcilabDoorWrPut
namespace Go.Proofs.YtijdjplajhcilabDoor
open Go.RowKit
variable {w w' : World} {R : Nat} {s : ByteArray} {p : Nat}

set_option maxRecDepth 100000 in
set_option maxHeartbeats 1600000 in
theorem reset_any (R : Nat) (a b c : Value) (w : World) (h : w.heap[R]? = some (.cells #[a, b, c] 77 (0, 0))) :
    Calls Tryd.prog 41 #[.pointer (some ⟨R, 0, none⟩), .string s] w fun e w' => e = .returned (.tuple #[]) ∧ w'.heap[R]? = some (.cells #[.string s, .int .i64 0, .int .i64 (-1)] 77 (0, 0)) ∧ Below R w w' := by
  have c0 : w.cell? ⟨R, 0, none⟩ = some a := by rw [in_block h 0]; rfl
  have c1 : w.cell? ⟨R, 1, none⟩ = some b := by rw [in_block h 1]; rfl
  have c2 : w.cell? ⟨R, 2, none⟩ = some c := by rw [in_block h 2]; rfl
  have f0 := free_block h 0
  have f1 := free_block h 1
  have f2 := free_block h 2
  have HF : Hid ((((w.setCell ⟨R, 0, none⟩ (.string s)).setCell ⟨R, 1, none⟩ (.int .i64 0)).setCell ⟨R, 2, none⟩ (.int .i64 (-1))).heap[R]? = some (.cells #[.string s, .int .i64 0, .int .i64 (-1)] 77 (0, 0))) := set_block _ R 2 _ _ _ (set_block _ R 1 _ _ _ (set_block w R 0 _ _ _ h))
  have HB : Hid (Below R w (((w.setCell ⟨R, 0, none⟩ (.string s)).setCell ⟨R, 1, none⟩ (.int .i64 0)).setCell ⟨R, 2, none⟩ (.int .i64 (-1)))) := (((Below.refl R w).setCell (p := ⟨R, 0, none⟩) (Nat.le_refl _) _).setCell (p := ⟨R, 1, none⟩) (Nat.le_refl _) _).setCell (p := ⟨R, 2, none⟩) (Nat.le_refl _) _
  clear h
  go_enter Tryd.func41, Tryd.ntmps41
  go_wp2
  go_end0
  exact ⟨rfl, HF.out, HB.out⟩

set_option maxRecDepth 100000 in
set_option maxHeartbeats 1600000 in
theorem rnew_any (w : World) (hs : s.size ≤ 400) (he : EofR w) :
    Calls Tryd.prog 17 #[.string s] w fun e w' => e = .returned (.pointer (some ⟨w.heap.size, 0, none⟩)) ∧ RAt w' w.heap.size s 0 ∧ Below w.heap.size w w' := by
  have CR : Hid (Calls Tryd.prog 41 #[.pointer (some ⟨w.heap.size, 0, none⟩), .string s] (w.alloc (.cells #[.string ⟨#[]⟩, .int .i64 0, .int .i64 0] 77)) fun e w' => e = .returned (.tuple #[]) ∧ w'.heap[w.heap.size]? = some (.cells #[.string s, .int .i64 0, .int .i64 (-1)] 77 (0, 0)) ∧ Below w.heap.size (w.alloc (.cells #[.string ⟨#[]⟩, .int .i64 0, .int .i64 0] 77)) w') := reset_any w.heap.size _ _ _ _ (alloc_new w _)
  have HB0 : Hid (Below w.heap.size w (w.alloc (.cells #[.string ⟨#[]⟩, .int .i64 0, .int .i64 0] 77))) := (Below.refl _ _).alloc (Nat.le_refl _) _
  have HE := hid he
  clear he
  go_enter Tryd.func17, Tryd.ntmps17
  go_wp2_with fail
  refine CR.out.mono ?_
  rintro e w1 ⟨rfl, hb, hbl⟩
  have HBL := hid (HB0.out.trans hbl)
  have HRA : Hid (RAt w1 w.heap.size s 0) := by
    obtain ⟨⟨a, ha⟩, hlt⟩ := HE.out
    exact ⟨(Array.getElem?_eq_some_iff.1 hb).1, by rw [in_block hb 0]; rfl, by rw [in_block hb 1]; rfl, ⟨_, by rw [in_block hb 2]; rfl⟩, fun i => free_block hb i, Nat.zero_le _, hs, ⟨a, by rw [HBL.out.cell (p := ⟨0, 0, none⟩) hlt]; exact ha⟩, hlt⟩
  clear hb hbl
  go_wp2
  go_ret
  exact ⟨rfl, HRA.out, HBL.out⟩

/-- Whether a text is a message. -/
def gOkay (s : ByteArray) : Bool := decide (s.size ≤ 400) && (msgOkP (gPart s.data.toList 0) (gPart s.data.toList 1) (gPart s.data.toList 2) (gPart s.data.toList 3) (gPart s.data.toList 4) (gV s.data.toList) (gL s.data.toList) && decide (putText (gPart s.data.toList 0) (gPart s.data.toList 1) (gPart s.data.toList 2) (gPart s.data.toList 3) (gPart s.data.toList 4) (gV s.data.toList) (gL s.data.toList) = s))

theorem gV_len (l : List UInt8) (h : l.length ≤ 400) : (gV l).length ≤ 1048576 ∧ (gL l).length ≤ 1048576 := by
  have hr : ∀ k, (gRest l k).length ≤ 400 := by
    intro k
    induction k with
    | zero => exact h
    | succ k ih =>
      have a1 := gDrop_len (gRest l k)
      have a2 := gSkip_len 32 (gDrop (gRest l k))
      show (gSkip 32 (gDrop (gRest l k))).length ≤ 400
      omega
  have h5 := hr 5
  have a1 := gVs_len (gRest l 5)
  have a2 := gSkip_len 32 (gVs (gRest l 5)).2
  have a3 := gEs_len (gSkip 32 (gVs (gRest l 5)).2)
  unfold gV gL
  omega

theorem restL_zero (s : ByteArray) : restL s 0 = s.data.toList := rfl

set_option maxRecDepth 100000 in
set_option maxHeartbeats 6400000 in
theorem get_no (w : World) (hs : s.size ≤ maxLen) (ht : Tab w) (he : EofR w) (hno : gOkay s = false) :
    Calls Tryd.prog 7 #[.string s] w fun e w' => e = .returned (.tuple #[.agg #[.int .i64 0, .int .i64 0, .int .i64 0, .int .i64 0, .int .i64 0, .slice none 0 0, .slice none 0 0], .bool false]) ∧ Below w.heap.size w w' := by
  have HA0 : Hid ((w.alloc (.cells #[.int .i64 0, .int .i64 0, .int .i64 0, .int .i64 0, .int .i64 0, .slice none 0 0, .slice none 0 0] 26)).heap[w.heap.size]? = some (.cells #[.int .i64 0, .int .i64 0, .int .i64 0, .int .i64 0, .int .i64 0, .slice none 0 0, .slice none 0 0] 26 (0, 0))) := alloc_new _ _
  have HB0 : Hid (Below w.heap.size w (w.alloc (.cells #[.int .i64 0, .int .i64 0, .int .i64 0, .int .i64 0, .int .i64 0, .slice none 0 0, .slice none 0 0] 26))) := (Below.refl _ _).alloc (Nat.le_refl _) _
  have hs' : s.size ≤ 2 ^ 63 - 1 := hs
  by_cases h4 : s.size ≤ 400
  · have h4I : ¬ (s.size : Int) > 400 := by omega
    have hll : s.data.toList.length ≤ 400 := by simpa using h4
    obtain ⟨hvl, hel⟩ := gV_len _ hll
    unfold gOkay at hno
    rw [decide_eq_true h4, Bool.true_and] at hno
    have CN : Hid (∀ W, EofR W → Calls Tryd.prog 17 #[.string s] W fun e w' => e = .returned (.pointer (some ⟨W.heap.size, 0, none⟩)) ∧ RAt w' W.heap.size s 0 ∧ Below W.heap.size W w') := fun W hW => rnew_any W h4 hW
    have HE := hid he
    have HT := hid ht
    have CM := hid (fun (W : World) (R : Nat) (h : RAt W R s 0) => rmsg_any h)
    rw [restL_zero] at CM
    obtain ⟨P0, hP0⟩ : ∃ x, x = gPart s.data.toList 0 := ⟨_, rfl⟩
    obtain ⟨P1, hP1⟩ : ∃ x, x = gPart s.data.toList 1 := ⟨_, rfl⟩
    obtain ⟨P2, hP2⟩ : ∃ x, x = gPart s.data.toList 2 := ⟨_, rfl⟩
    obtain ⟨P3, hP3⟩ : ∃ x, x = gPart s.data.toList 3 := ⟨_, rfl⟩
    obtain ⟨P4, hP4⟩ : ∃ x, x = gPart s.data.toList 4 := ⟨_, rfl⟩
    obtain ⟨V, hV⟩ : ∃ x, x = gV s.data.toList := ⟨_, rfl⟩
    obtain ⟨L, hL⟩ : ∃ x, x = gL s.data.toList := ⟨_, rfl⟩
    rw [← hP0, ← hP1, ← hP2, ← hP3, ← hP4, ← hV, ← hL] at hno CM
    rw [← hV] at hvl
    rw [← hL] at hel
    clear hP0 hP1 hP2 hP3 hP4 hV hL hll ht he
    obtain ⟨c, hc⟩ : ∃ c, c = msgOkP P0 P1 P2 P3 P4 V L := ⟨_, rfl⟩
    obtain ⟨t, htx⟩ : ∃ t, t = putText P0 P1 P2 P3 P4 V L := ⟨_, rfl⟩
    have CO : Hid (∀ W (o1 o2 : Option Addr) (c1 c2 : Nat), NumsAt W o1 V → EntsAt W o2 L → Calls Tryd.prog 10 #[.agg #[.int .i64 P0, .int .i64 P1, .int .i64 P2, .int .i64 P3, .int .i64 P4, .slice o1 V.length c1, .slice o2 L.length c2]] W fun e w' => e = .returned (.bool c) ∧ Below W.heap.size W w') := fun W o1 o2 c1 c2 h1 h2 => by rw [hc]; exact implMsgOk_any P0 P1 P2 P3 P4 o1 o2 V.length c1 L.length c2 V L W rfl hvl h1 rfl hel h2
    have CP : Hid (∀ W (o1 o2 : Option Addr) (c1 c2 : Nat), Tab W → NumsAt W o1 V → EntsAt W o2 L → Calls Tryd.prog 5 #[.agg #[.int .i64 P0, .int .i64 P1, .int .i64 P2, .int .i64 P3, .int .i64 P4, .slice o1 V.length c1, .slice o2 L.length c2]] W fun e w' => e = .returned (.string t) ∧ Below W.heap.size W w') := fun W o1 o2 c1 c2 hT h1 h2 => by rw [htx]; exact implMsgPut_any P0 P1 P2 P3 P4 o1 o2 V.length c1 L.length c2 V L W hT rfl hvl h1 rfl hel h2
    rw [← hc, ← htx] at hno
    clear hc htx hvl hel hs hs' h4
    cases c
    · clear hno CP
      go_enter Tryd.func7, Tryd.ntmps7
      go_wp2_with fail
      refine (CN.out _ (HE.out.below HB0.out)).mono ?_
      rintro e w1 ⟨rfl, h1, hb⟩
      rw [show (w.alloc (.cells #[.int .i64 0, .int .i64 0, .int .i64 0, .int .i64 0, .int .i64 0, .slice none 0 0, .slice none 0 0] 26)).heap.size = w.heap.size + 1 by simp] at h1
      have HR1 := hid h1
      have HA1 := hid (below_other HA0.out hb)
      have HB1 := hid (HB0.out.trans (hb.mono HB0.out.size))
      have HRB : Hid (w.heap.size < w.heap.size + 1) := Nat.lt_succ_self _
      clear h1 hb
      go_wp2_with fail
      refine (CM.out _ _ HR1.out).mono ?_
      rintro e w2 ⟨⟨o1, o2, c1, c2, b1, b2, xs, rfl, hb1, hv, hb2, hl, hx⟩, k2⟩
      have HA2 := hid (keeps_block HA1.out k2 (Nat.ne_of_lt HRB.out))
      have HB2 := hid (k2.below w.heap.size w (Nat.le_of_lt HRB.out) HB1.out)
      have hal : Below w2.heap.size w2 (w2.alloc (.cells #[.int .i64 P0, .int .i64 P1, .int .i64 P2, .int .i64 P3, .int .i64 P4, .slice o1 V.length c1, .slice o2 L.length c2] 26)) := (Below.refl _ _).alloc (Nat.le_refl _) _
      have HW1 : Hid (w.heap.size < b1 ∧ w.heap.size < b2) := by have := (Array.getElem?_eq_some_iff.1 HA1.out).1; exact ⟨by omega, by omega⟩
      have HV3 := hid (row_below hv hal)
      have HL3 := hid (row_below hl hal)
      have HX3 := hid (hx.kept (fun b cur fz hbb hh => kept_below (base := b2) hal b cur fz hbb hh))
      have HA3 := hid (below_other HA2.out hal)
      have HB3 := hid (HB2.out.trans (hal.mono HB2.out.size))
      have HM3 : Hid ((w2.alloc (.cells #[.int .i64 P0, .int .i64 P1, .int .i64 P2, .int .i64 P3, .int .i64 P4, .slice o1 V.length c1, .slice o2 L.length c2] 26)).heap[w2.heap.size]? = some (.cells #[.int .i64 P0, .int .i64 P1, .int .i64 P2, .int .i64 P3, .int .i64 P4, .slice o1 V.length c1, .slice o2 L.length c2] 26 (0, 0))) := alloc_new _ _
      clear hv hl hx k2 hal hb1 hb2
      go_wp2_with fail
      refine (CO.out _ _ _ _ _ (NumsIn.of_row HV3.out).at (ents_of HL3.out HX3.out)).mono ?_
      rintro e w4 ⟨rfl, hb⟩
      have HA4 := hid (below_other HA3.out hb)
      have HB4 := hid (HB3.out.trans (hb.mono HB3.out.size))
      have HM4 := hid (below_other HM3.out hb)
      have HV4 := hid (row_below HV3.out hb)
      have HL4 := hid (row_below HL3.out hb)
      have HX4 := hid (HX3.out.kept (fun b cur fz hbb hh => kept_below (base := b2) hb b cur fz hbb hh))
      have hlt2 : w2.heap.size < w4.heap.size := (Array.getElem?_eq_some_iff.1 HM4.out).1
      clear hb
      have z0 : w4.cell? ⟨w.heap.size, 0, none⟩ = some (.int .i64 0) := by rw [in_block HA4.out 0]; rfl
      have fz0 : w4.frozen? ⟨w.heap.size, 0, none⟩ = false := free_block HA4.out 0
      have z1 : w4.cell? ⟨w.heap.size, 1, none⟩ = some (.int .i64 0) := by rw [in_block HA4.out 1]; rfl
      have fz1 : w4.frozen? ⟨w.heap.size, 1, none⟩ = false := free_block HA4.out 1
      have z2 : w4.cell? ⟨w.heap.size, 2, none⟩ = some (.int .i64 0) := by rw [in_block HA4.out 2]; rfl
      have fz2 : w4.frozen? ⟨w.heap.size, 2, none⟩ = false := free_block HA4.out 2
      have z3 : w4.cell? ⟨w.heap.size, 3, none⟩ = some (.int .i64 0) := by rw [in_block HA4.out 3]; rfl
      have fz3 : w4.frozen? ⟨w.heap.size, 3, none⟩ = false := free_block HA4.out 3
      have z4 : w4.cell? ⟨w.heap.size, 4, none⟩ = some (.int .i64 0) := by rw [in_block HA4.out 4]; rfl
      have fz4 : w4.frozen? ⟨w.heap.size, 4, none⟩ = false := free_block HA4.out 4
      have z5 : w4.cell? ⟨w.heap.size, 5, none⟩ = some (.slice none 0 0) := by rw [in_block HA4.out 5]; rfl
      have fz5 : w4.frozen? ⟨w.heap.size, 5, none⟩ = false := free_block HA4.out 5
      have z6 : w4.cell? ⟨w.heap.size, 6, none⟩ = some (.slice none 0 0) := by rw [in_block HA4.out 6]; rfl
      have fz6 : w4.frozen? ⟨w.heap.size, 6, none⟩ = false := free_block HA4.out 6
      go_wp2
      refine bodyPost_ret (v := .tuple #[.agg #[.int .i64 0, .int .i64 0, .int .i64 0, .int .i64 0, .int .i64 0, .slice none 0 0, .slice none 0 0], .bool false]) (by simp [results, Tryd.results7, go_sem, z0, z1, z2, z3, z4, z5, z6]) rfl ⟨rfl, (((((((HB4.out).setCell (p := ⟨w.heap.size, 0, none⟩) (Nat.le_refl _) (.int .i64 0)).setCell (p := ⟨w.heap.size, 1, none⟩) (Nat.le_refl _) (.int .i64 0)).setCell (p := ⟨w.heap.size, 2, none⟩) (Nat.le_refl _) (.int .i64 0)).setCell (p := ⟨w.heap.size, 3, none⟩) (Nat.le_refl _) (.int .i64 0)).setCell (p := ⟨w.heap.size, 4, none⟩) (Nat.le_refl _) (.int .i64 0)).setCell (p := ⟨w.heap.size, 5, none⟩) (Nat.le_refl _) (.slice none 0 0)).setCell (p := ⟨w.heap.size, 6, none⟩) (Nat.le_refl _) (.slice none 0 0)⟩
    · have htne : (t.toList == s.toList) = false := by
        rw [Bool.true_and] at hno
        have hne := of_decide_eq_false hno
        rw [beq_eq_false_iff_ne]
        exact fun e => hne (toList_inj2 e)
      clear hno
      go_enter Tryd.func7, Tryd.ntmps7
      go_wp2_with fail
      refine (CN.out _ (HE.out.below HB0.out)).mono ?_
      rintro e w1 ⟨rfl, h1, hb⟩
      rw [show (w.alloc (.cells #[.int .i64 0, .int .i64 0, .int .i64 0, .int .i64 0, .int .i64 0, .slice none 0 0, .slice none 0 0] 26)).heap.size = w.heap.size + 1 by simp] at h1
      have HR1 := hid h1
      have HA1 := hid (below_other HA0.out hb)
      have HB1 := hid (HB0.out.trans (hb.mono HB0.out.size))
      have HRB : Hid (w.heap.size < w.heap.size + 1) := Nat.lt_succ_self _
      clear h1 hb
      go_wp2_with fail
      refine (CM.out _ _ HR1.out).mono ?_
      rintro e w2 ⟨⟨o1, o2, c1, c2, b1, b2, xs, rfl, hb1, hv, hb2, hl, hx⟩, k2⟩
      have HA2 := hid (keeps_block HA1.out k2 (Nat.ne_of_lt HRB.out))
      have HB2 := hid (k2.below w.heap.size w (Nat.le_of_lt HRB.out) HB1.out)
      have hal : Below w2.heap.size w2 (w2.alloc (.cells #[.int .i64 P0, .int .i64 P1, .int .i64 P2, .int .i64 P3, .int .i64 P4, .slice o1 V.length c1, .slice o2 L.length c2] 26)) := (Below.refl _ _).alloc (Nat.le_refl _) _
      have HW1 : Hid (w.heap.size < b1 ∧ w.heap.size < b2) := by have := (Array.getElem?_eq_some_iff.1 HA1.out).1; exact ⟨by omega, by omega⟩
      have HV3 := hid (row_below hv hal)
      have HL3 := hid (row_below hl hal)
      have HX3 := hid (hx.kept (fun b cur fz hbb hh => kept_below (base := b2) hal b cur fz hbb hh))
      have HA3 := hid (below_other HA2.out hal)
      have HB3 := hid (HB2.out.trans (hal.mono HB2.out.size))
      have HM3 : Hid ((w2.alloc (.cells #[.int .i64 P0, .int .i64 P1, .int .i64 P2, .int .i64 P3, .int .i64 P4, .slice o1 V.length c1, .slice o2 L.length c2] 26)).heap[w2.heap.size]? = some (.cells #[.int .i64 P0, .int .i64 P1, .int .i64 P2, .int .i64 P3, .int .i64 P4, .slice o1 V.length c1, .slice o2 L.length c2] 26 (0, 0))) := alloc_new _ _
      clear hv hl hx k2 hal hb1 hb2
      go_wp2_with fail
      refine (CO.out _ _ _ _ _ (NumsIn.of_row HV3.out).at (ents_of HL3.out HX3.out)).mono ?_
      rintro e w4 ⟨rfl, hb⟩
      have HA4 := hid (below_other HA3.out hb)
      have HB4 := hid (HB3.out.trans (hb.mono HB3.out.size))
      have HM4 := hid (below_other HM3.out hb)
      have HV4 := hid (row_below HV3.out hb)
      have HL4 := hid (row_below HL3.out hb)
      have HX4 := hid (HX3.out.kept (fun b cur fz hbb hh => kept_below (base := b2) hb b cur fz hbb hh))
      have hlt2 : w2.heap.size < w4.heap.size := (Array.getElem?_eq_some_iff.1 HM4.out).1
      clear hb
      have m0 : w4.cell? ⟨w2.heap.size, 0, none⟩ = some (.int .i64 P0) := by rw [in_block HM4.out 0]; rfl
      have m1 : w4.cell? ⟨w2.heap.size, 1, none⟩ = some (.int .i64 P1) := by rw [in_block HM4.out 1]; rfl
      have m2 : w4.cell? ⟨w2.heap.size, 2, none⟩ = some (.int .i64 P2) := by rw [in_block HM4.out 2]; rfl
      have m3 : w4.cell? ⟨w2.heap.size, 3, none⟩ = some (.int .i64 P3) := by rw [in_block HM4.out 3]; rfl
      have m4 : w4.cell? ⟨w2.heap.size, 4, none⟩ = some (.int .i64 P4) := by rw [in_block HM4.out 4]; rfl
      have m5 : w4.cell? ⟨w2.heap.size, 5, none⟩ = some (.slice o1 V.length c1) := by rw [in_block HM4.out 5]; rfl
      have m6 : w4.cell? ⟨w2.heap.size, 6, none⟩ = some (.slice o2 L.length c2) := by rw [in_block HM4.out 6]; rfl
      go_wp2_with fail
      refine (CP.out _ _ _ _ _ (HT.out.below HB4.out) (NumsIn.of_row HV4.out).at (ents_of HL4.out HX4.out)).mono ?_
      rintro e w5 ⟨rfl, hb⟩
      have HA5 := hid (below_other HA4.out hb)
      have HB5 := hid (HB4.out.trans (hb.mono HB4.out.size))
      have HM5 := hid (below_other HM4.out hb)
      have HV5 := hid (row_below HV4.out hb)
      have HL5 := hid (row_below HL4.out hb)
      have HX5 := hid (HX4.out.kept (fun b cur fz hbb hh => kept_below (base := b2) hb b cur fz hbb hh))
      clear hb m0 m1 m2 m3 m4 m5 m6 hlt2
      have hlt5 : w2.heap.size < w5.heap.size := (Array.getElem?_eq_some_iff.1 HM5.out).1
      have z0 : w5.cell? ⟨w.heap.size, 0, none⟩ = some (.int .i64 0) := by rw [in_block HA5.out 0]; rfl
      have fz0 : w5.frozen? ⟨w.heap.size, 0, none⟩ = false := free_block HA5.out 0
      have z1 : w5.cell? ⟨w.heap.size, 1, none⟩ = some (.int .i64 0) := by rw [in_block HA5.out 1]; rfl
      have fz1 : w5.frozen? ⟨w.heap.size, 1, none⟩ = false := free_block HA5.out 1
      have z2 : w5.cell? ⟨w.heap.size, 2, none⟩ = some (.int .i64 0) := by rw [in_block HA5.out 2]; rfl
      have fz2 : w5.frozen? ⟨w.heap.size, 2, none⟩ = false := free_block HA5.out 2
      have z3 : w5.cell? ⟨w.heap.size, 3, none⟩ = some (.int .i64 0) := by rw [in_block HA5.out 3]; rfl
      have fz3 : w5.frozen? ⟨w.heap.size, 3, none⟩ = false := free_block HA5.out 3
      have z4 : w5.cell? ⟨w.heap.size, 4, none⟩ = some (.int .i64 0) := by rw [in_block HA5.out 4]; rfl
      have fz4 : w5.frozen? ⟨w.heap.size, 4, none⟩ = false := free_block HA5.out 4
      have z5 : w5.cell? ⟨w.heap.size, 5, none⟩ = some (.slice none 0 0) := by rw [in_block HA5.out 5]; rfl
      have fz5 : w5.frozen? ⟨w.heap.size, 5, none⟩ = false := free_block HA5.out 5
      have z6 : w5.cell? ⟨w.heap.size, 6, none⟩ = some (.slice none 0 0) := by rw [in_block HA5.out 6]; rfl
      have fz6 : w5.frozen? ⟨w.heap.size, 6, none⟩ = false := free_block HA5.out 6
      go_wp2
      refine bodyPost_ret (v := .tuple #[.agg #[.int .i64 0, .int .i64 0, .int .i64 0, .int .i64 0, .int .i64 0, .slice none 0 0, .slice none 0 0], .bool false]) (by simp [results, Tryd.results7, go_sem, z0, z1, z2, z3, z4, z5, z6]) rfl ⟨rfl, (((((((HB5.out).setCell (p := ⟨w.heap.size, 0, none⟩) (Nat.le_refl _) (.int .i64 0)).setCell (p := ⟨w.heap.size, 1, none⟩) (Nat.le_refl _) (.int .i64 0)).setCell (p := ⟨w.heap.size, 2, none⟩) (Nat.le_refl _) (.int .i64 0)).setCell (p := ⟨w.heap.size, 3, none⟩) (Nat.le_refl _) (.int .i64 0)).setCell (p := ⟨w.heap.size, 4, none⟩) (Nat.le_refl _) (.int .i64 0)).setCell (p := ⟨w.heap.size, 5, none⟩) (Nat.le_refl _) (.slice none 0 0)).setCell (p := ⟨w.heap.size, 6, none⟩) (Nat.le_refl _) (.slice none 0 0)⟩
  · have h4I : (s.size : Int) > 400 := by omega
    clear hno hs hs'
    go_enter Tryd.func7, Tryd.ntmps7
    go_wp2
    refine bodyPost_ret (v := .tuple #[.agg #[.int .i64 0, .int .i64 0, .int .i64 0, .int .i64 0, .int .i64 0, .slice none 0 0, .slice none 0 0], .bool false]) (by simp [results, Tryd.results7, go_sem]) rfl ⟨rfl, HB0.out⟩

set_option maxRecDepth 100000 in
set_option maxHeartbeats 6400000 in
theorem get_yes (w : World) (ht : Tab w) (he : EofR w) (hyes : gOkay s = true) :
    Calls Tryd.prog 7 #[.string s] w fun e w' => (∃ (o1 o2 : Option Addr) (c1 c2 : Nat), e = .returned (.tuple #[.agg #[.int .i64 (gPart s.data.toList 0), .int .i64 (gPart s.data.toList 1), .int .i64 (gPart s.data.toList 2), .int .i64 (gPart s.data.toList 3), .int .i64 (gPart s.data.toList 4), .slice o1 (gV s.data.toList).length c1, .slice o2 (gL s.data.toList).length c2], .bool true]) ∧ NumsAt w' o1 (gV s.data.toList) ∧ EntsAt w' o2 (gL s.data.toList)) ∧ Below w.heap.size w w' := by
  have HA0 : Hid ((w.alloc (.cells #[.int .i64 0, .int .i64 0, .int .i64 0, .int .i64 0, .int .i64 0, .slice none 0 0, .slice none 0 0] 26)).heap[w.heap.size]? = some (.cells #[.int .i64 0, .int .i64 0, .int .i64 0, .int .i64 0, .int .i64 0, .slice none 0 0, .slice none 0 0] 26 (0, 0))) := alloc_new _ _
  have HB0 : Hid (Below w.heap.size w (w.alloc (.cells #[.int .i64 0, .int .i64 0, .int .i64 0, .int .i64 0, .int .i64 0, .slice none 0 0, .slice none 0 0] 26))) := (Below.refl _ _).alloc (Nat.le_refl _) _
  have h3 : s.size ≤ 400 ∧ msgOkP (gPart s.data.toList 0) (gPart s.data.toList 1) (gPart s.data.toList 2) (gPart s.data.toList 3) (gPart s.data.toList 4) (gV s.data.toList) (gL s.data.toList) = true ∧ putText (gPart s.data.toList 0) (gPart s.data.toList 1) (gPart s.data.toList 2) (gPart s.data.toList 3) (gPart s.data.toList 4) (gV s.data.toList) (gL s.data.toList) = s := by
    unfold gOkay at hyes
    rw [Bool.and_eq_true, Bool.and_eq_true] at hyes
    exact ⟨of_decide_eq_true hyes.1, hyes.2.1, of_decide_eq_true hyes.2.2⟩
  obtain ⟨h4, hok, htext⟩ := h3
  have h4I : ¬ (s.size : Int) > 400 := by omega
  have hll : s.data.toList.length ≤ 400 := by simpa using h4
  obtain ⟨hvl, hel⟩ := gV_len _ hll
  have CN : Hid (∀ W, EofR W → Calls Tryd.prog 17 #[.string s] W fun e w' => e = .returned (.pointer (some ⟨W.heap.size, 0, none⟩)) ∧ RAt w' W.heap.size s 0 ∧ Below W.heap.size W w') := fun W hW => rnew_any W h4 hW
  have HE := hid he
  have HT := hid ht
  have CM := hid (fun (W : World) (R : Nat) (h : RAt W R s 0) => rmsg_any h)
  rw [restL_zero] at CM
  obtain ⟨P0, hP0⟩ : ∃ x, x = gPart s.data.toList 0 := ⟨_, rfl⟩
  obtain ⟨P1, hP1⟩ : ∃ x, x = gPart s.data.toList 1 := ⟨_, rfl⟩
  obtain ⟨P2, hP2⟩ : ∃ x, x = gPart s.data.toList 2 := ⟨_, rfl⟩
  obtain ⟨P3, hP3⟩ : ∃ x, x = gPart s.data.toList 3 := ⟨_, rfl⟩
  obtain ⟨P4, hP4⟩ : ∃ x, x = gPart s.data.toList 4 := ⟨_, rfl⟩
  obtain ⟨V, hV⟩ : ∃ x, x = gV s.data.toList := ⟨_, rfl⟩
  obtain ⟨L, hL⟩ : ∃ x, x = gL s.data.toList := ⟨_, rfl⟩
  rw [← hP0, ← hP1, ← hP2, ← hP3, ← hP4, ← hV, ← hL] at hok htext CM ⊢
  rw [← hV] at hvl
  rw [← hL] at hel
  have CO : Hid (∀ W (o1 o2 : Option Addr) (c1 c2 : Nat), NumsAt W o1 V → EntsAt W o2 L → Calls Tryd.prog 10 #[.agg #[.int .i64 P0, .int .i64 P1, .int .i64 P2, .int .i64 P3, .int .i64 P4, .slice o1 V.length c1, .slice o2 L.length c2]] W fun e w' => e = .returned (.bool true) ∧ Below W.heap.size W w') := fun W o1 o2 c1 c2 h1 h2 => by rw [← hok]; exact implMsgOk_any P0 P1 P2 P3 P4 o1 o2 V.length c1 L.length c2 V L W rfl hvl h1 rfl hel h2
  have CP : Hid (∀ W (o1 o2 : Option Addr) (c1 c2 : Nat), Tab W → NumsAt W o1 V → EntsAt W o2 L → Calls Tryd.prog 5 #[.agg #[.int .i64 P0, .int .i64 P1, .int .i64 P2, .int .i64 P3, .int .i64 P4, .slice o1 V.length c1, .slice o2 L.length c2]] W fun e w' => e = .returned (.string s) ∧ Below W.heap.size W w') := fun W o1 o2 c1 c2 hT h1 h2 => by rw [← htext]; exact implMsgPut_any P0 P1 P2 P3 P4 o1 o2 V.length c1 L.length c2 V L W hT rfl hvl h1 rfl hel h2
  clear hP0 hP1 hP2 hP3 hP4 hV hL hll ht he hyes hok htext hvl hel h4
  go_enter Tryd.func7, Tryd.ntmps7
  go_wp2_with fail
  refine (CN.out _ (HE.out.below HB0.out)).mono ?_
  rintro e w1 ⟨rfl, h1, hb⟩
  rw [show (w.alloc (.cells #[.int .i64 0, .int .i64 0, .int .i64 0, .int .i64 0, .int .i64 0, .slice none 0 0, .slice none 0 0] 26)).heap.size = w.heap.size + 1 by simp] at h1
  have HR1 := hid h1
  have HA1 := hid (below_other HA0.out hb)
  have HB1 := hid (HB0.out.trans (hb.mono HB0.out.size))
  have HRB : Hid (w.heap.size < w.heap.size + 1) := Nat.lt_succ_self _
  clear h1 hb
  go_wp2_with fail
  refine (CM.out _ _ HR1.out).mono ?_
  rintro e w2 ⟨⟨o1, o2, c1, c2, b1, b2, xs, rfl, hb1, hv, hb2, hl, hx⟩, k2⟩
  have HA2 := hid (keeps_block HA1.out k2 (Nat.ne_of_lt HRB.out))
  have HB2 := hid (k2.below w.heap.size w (Nat.le_of_lt HRB.out) HB1.out)
  have hal : Below w2.heap.size w2 (w2.alloc (.cells #[.int .i64 P0, .int .i64 P1, .int .i64 P2, .int .i64 P3, .int .i64 P4, .slice o1 V.length c1, .slice o2 L.length c2] 26)) := (Below.refl _ _).alloc (Nat.le_refl _) _
  have HW1 : Hid (w.heap.size < b1 ∧ w.heap.size < b2) := by have := (Array.getElem?_eq_some_iff.1 HA1.out).1; exact ⟨by omega, by omega⟩
  have HV3 := hid (row_below hv hal)
  have HL3 := hid (row_below hl hal)
  have HX3 := hid (hx.kept (fun b cur fz hbb hh => kept_below (base := b2) hal b cur fz hbb hh))
  have HA3 := hid (below_other HA2.out hal)
  have HB3 := hid (HB2.out.trans (hal.mono HB2.out.size))
  have HM3 : Hid ((w2.alloc (.cells #[.int .i64 P0, .int .i64 P1, .int .i64 P2, .int .i64 P3, .int .i64 P4, .slice o1 V.length c1, .slice o2 L.length c2] 26)).heap[w2.heap.size]? = some (.cells #[.int .i64 P0, .int .i64 P1, .int .i64 P2, .int .i64 P3, .int .i64 P4, .slice o1 V.length c1, .slice o2 L.length c2] 26 (0, 0))) := alloc_new _ _
  clear hv hl hx k2 hal hb1 hb2
  go_wp2_with fail
  refine (CO.out _ _ _ _ _ (NumsIn.of_row HV3.out).at (ents_of HL3.out HX3.out)).mono ?_
  rintro e w4 ⟨rfl, hb⟩
  have HA4 := hid (below_other HA3.out hb)
  have HB4 := hid (HB3.out.trans (hb.mono HB3.out.size))
  have HM4 := hid (below_other HM3.out hb)
  have HV4 := hid (row_below HV3.out hb)
  have HL4 := hid (row_below HL3.out hb)
  have HX4 := hid (HX3.out.kept (fun b cur fz hbb hh => kept_below (base := b2) hb b cur fz hbb hh))
  have hlt2 : w2.heap.size < w4.heap.size := (Array.getElem?_eq_some_iff.1 HM4.out).1
  clear hb
  have m0 : w4.cell? ⟨w2.heap.size, 0, none⟩ = some (.int .i64 P0) := by rw [in_block HM4.out 0]; rfl
  have m1 : w4.cell? ⟨w2.heap.size, 1, none⟩ = some (.int .i64 P1) := by rw [in_block HM4.out 1]; rfl
  have m2 : w4.cell? ⟨w2.heap.size, 2, none⟩ = some (.int .i64 P2) := by rw [in_block HM4.out 2]; rfl
  have m3 : w4.cell? ⟨w2.heap.size, 3, none⟩ = some (.int .i64 P3) := by rw [in_block HM4.out 3]; rfl
  have m4 : w4.cell? ⟨w2.heap.size, 4, none⟩ = some (.int .i64 P4) := by rw [in_block HM4.out 4]; rfl
  have m5 : w4.cell? ⟨w2.heap.size, 5, none⟩ = some (.slice o1 V.length c1) := by rw [in_block HM4.out 5]; rfl
  have m6 : w4.cell? ⟨w2.heap.size, 6, none⟩ = some (.slice o2 L.length c2) := by rw [in_block HM4.out 6]; rfl
  go_wp2_with fail
  refine (CP.out _ _ _ _ _ (HT.out.below HB4.out) (NumsIn.of_row HV4.out).at (ents_of HL4.out HX4.out)).mono ?_
  rintro e w5 ⟨rfl, hb⟩
  have HA5 := hid (below_other HA4.out hb)
  have HB5 := hid (HB4.out.trans (hb.mono HB4.out.size))
  have HM5 := hid (below_other HM4.out hb)
  have HV5 := hid (row_below HV4.out hb)
  have HL5 := hid (row_below HL4.out hb)
  have HX5 := hid (HX4.out.kept (fun b cur fz hbb hh => kept_below (base := b2) hb b cur fz hbb hh))
  clear hb m0 m1 m2 m3 m4 m5 m6 hlt2
  have hlt5 : w2.heap.size < w5.heap.size := (Array.getElem?_eq_some_iff.1 HM5.out).1
  have m0 : w5.cell? ⟨w2.heap.size, 0, none⟩ = some (.int .i64 P0) := by rw [in_block HM5.out 0]; rfl
  have m1 : w5.cell? ⟨w2.heap.size, 1, none⟩ = some (.int .i64 P1) := by rw [in_block HM5.out 1]; rfl
  have m2 : w5.cell? ⟨w2.heap.size, 2, none⟩ = some (.int .i64 P2) := by rw [in_block HM5.out 2]; rfl
  have m3 : w5.cell? ⟨w2.heap.size, 3, none⟩ = some (.int .i64 P3) := by rw [in_block HM5.out 3]; rfl
  have m4 : w5.cell? ⟨w2.heap.size, 4, none⟩ = some (.int .i64 P4) := by rw [in_block HM5.out 4]; rfl
  have m5 : w5.cell? ⟨w2.heap.size, 5, none⟩ = some (.slice o1 V.length c1) := by rw [in_block HM5.out 5]; rfl
  have m6 : w5.cell? ⟨w2.heap.size, 6, none⟩ = some (.slice o2 L.length c2) := by rw [in_block HM5.out 6]; rfl
  have z0 : w5.cell? ⟨w.heap.size, 0, none⟩ = some (.int .i64 0) := by rw [in_block HA5.out 0]; rfl
  have fz0 : w5.frozen? ⟨w.heap.size, 0, none⟩ = false := free_block HA5.out 0
  have z1 : w5.cell? ⟨w.heap.size, 1, none⟩ = some (.int .i64 0) := by rw [in_block HA5.out 1]; rfl
  have fz1 : w5.frozen? ⟨w.heap.size, 1, none⟩ = false := free_block HA5.out 1
  have z2 : w5.cell? ⟨w.heap.size, 2, none⟩ = some (.int .i64 0) := by rw [in_block HA5.out 2]; rfl
  have fz2 : w5.frozen? ⟨w.heap.size, 2, none⟩ = false := free_block HA5.out 2
  have z3 : w5.cell? ⟨w.heap.size, 3, none⟩ = some (.int .i64 0) := by rw [in_block HA5.out 3]; rfl
  have fz3 : w5.frozen? ⟨w.heap.size, 3, none⟩ = false := free_block HA5.out 3
  have z4 : w5.cell? ⟨w.heap.size, 4, none⟩ = some (.int .i64 0) := by rw [in_block HA5.out 4]; rfl
  have fz4 : w5.frozen? ⟨w.heap.size, 4, none⟩ = false := free_block HA5.out 4
  have z5 : w5.cell? ⟨w.heap.size, 5, none⟩ = some (.slice none 0 0) := by rw [in_block HA5.out 5]; rfl
  have fz5 : w5.frozen? ⟨w.heap.size, 5, none⟩ = false := free_block HA5.out 5
  have z6 : w5.cell? ⟨w.heap.size, 6, none⟩ = some (.slice none 0 0) := by rw [in_block HA5.out 6]; rfl
  have fz6 : w5.frozen? ⟨w.heap.size, 6, none⟩ = false := free_block HA5.out 6
  have HVF := hid (row_set (row_set (row_set (row_set (row_set (row_set (row_set (HV5.out) w.heap.size 0 (.int .i64 P0) HW1.out.1) w.heap.size 1 (.int .i64 P1) HW1.out.1) w.heap.size 2 (.int .i64 P2) HW1.out.1) w.heap.size 3 (.int .i64 P3) HW1.out.1) w.heap.size 4 (.int .i64 P4) HW1.out.1) w.heap.size 5 (.slice o1 V.length c1) HW1.out.1) w.heap.size 6 (.slice o2 L.length c2) HW1.out.1)
  have HLF := hid (row_set (row_set (row_set (row_set (row_set (row_set (row_set (HL5.out) w.heap.size 0 (.int .i64 P0) HW1.out.2) w.heap.size 1 (.int .i64 P1) HW1.out.2) w.heap.size 2 (.int .i64 P2) HW1.out.2) w.heap.size 3 (.int .i64 P3) HW1.out.2) w.heap.size 4 (.int .i64 P4) HW1.out.2) w.heap.size 5 (.slice o1 V.length c1) HW1.out.2) w.heap.size 6 (.slice o2 L.length c2) HW1.out.2)
  have HXF := hid (ecells_set (ecells_set (ecells_set (ecells_set (ecells_set (ecells_set (ecells_set (HX5.out) w.heap.size 0 (.int .i64 P0) HW1.out.2) w.heap.size 1 (.int .i64 P1) HW1.out.2) w.heap.size 2 (.int .i64 P2) HW1.out.2) w.heap.size 3 (.int .i64 P3) HW1.out.2) w.heap.size 4 (.int .i64 P4) HW1.out.2) w.heap.size 5 (.slice o1 V.length c1) HW1.out.2) w.heap.size 6 (.slice o2 L.length c2) HW1.out.2)
  have HBF := hid ((((((((HB5.out).setCell (p := ⟨w.heap.size, 0, none⟩) (Nat.le_refl _) (.int .i64 P0)).setCell (p := ⟨w.heap.size, 1, none⟩) (Nat.le_refl _) (.int .i64 P1)).setCell (p := ⟨w.heap.size, 2, none⟩) (Nat.le_refl _) (.int .i64 P2)).setCell (p := ⟨w.heap.size, 3, none⟩) (Nat.le_refl _) (.int .i64 P3)).setCell (p := ⟨w.heap.size, 4, none⟩) (Nat.le_refl _) (.int .i64 P4)).setCell (p := ⟨w.heap.size, 5, none⟩) (Nat.le_refl _) (.slice o1 V.length c1)).setCell (p := ⟨w.heap.size, 6, none⟩) (Nat.le_refl _) (.slice o2 L.length c2))
  go_wp2
  refine bodyPost_ret (v := .tuple #[.agg #[.int .i64 P0, .int .i64 P1, .int .i64 P2, .int .i64 P3, .int .i64 P4, .slice o1 V.length c1, .slice o2 L.length c2], .bool true]) (by simp [results, Tryd.results7, go_sem, z0, z1, z2, z3, z4, z5, z6]) rfl ?_
  exact ⟨⟨o1, o2, c1, c2, rfl, (NumsIn.of_row HVF.out).at, ents_of HLF.out HXF.out⟩, HBF.out⟩

end Go.Proofs.YtijdjplajhcilabDoor
