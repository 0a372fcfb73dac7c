/- DERIVED. The walk of the law on HostsFold. -/
import Derived.Test.YtdfbganfmnlggaaDoorHsTo
import Derived.Test.YtdfbganfmnlggaaDoorFoldFold
import Derived.Test.YtdfbganfmnlggaaDoorFoldImpl
namespace Go.Proofs.YtdfbganfmnlggaaDoor
open Go.RowKit

/-- What HostsFold writes. -/
def foldS (S : Nat → ByteArray) (M : Nat → Int) (len : Nat) : ByteArray := if listOk S M len = true then mkS (foldL S M 0 len) else ⟨#[]⟩

set_option maxHeartbeats 600000 in
theorem specFold_any (b off len cap : Nat) (S : Nat → ByteArray) (M : Nat → Int) (w : World) (hc : len ≤ cap) (hm : cap ≤ maxLen) (R : RowAt w b off len S M) :
    Calls Tryd.prog 5 #[.slice (some ⟨b, off, none⟩) len cap] w fun e w' => e = .returned (.string (foldS S M len)) ∧ Below w.heap.size w w' := by
  obtain ⟨z, hz⟩ : ∃ z, z = foldS S M len := ⟨_, rfl⟩
  rw [← hz]
  cases hlo : listOk S M len
  · have HZ : Hid (z = ⟨#[]⟩) := by show _ = _; rw [hz, foldS, hlo]; rfl
    have CO : Hid (Calls Tryd.prog 10 #[.slice (some ⟨b, off, none⟩) len cap] w fun e w2 => e = .returned (.bool false) ∧ Below w.heap.size w w2) := by rw [← hlo]; exact listOk_spec b off len cap S M w hc hm R
    clear hlo hz
    go_enter Tryd.func5, Tryd.ntmps5
    go_wp2_with fail
    refine CO.out.mono ?_
    rintro e w1 ⟨rfl, hb1⟩
    have HB1 := hid hb1
    clear hb1 CO
    go_wp2
    go_ret
    exact ⟨by rw [HZ.out]; rfl, HB1.out⟩
  · have HZ : Hid (z = mkS (foldL S M 0 len)) := by show _ = _; rw [hz, foldS, if_pos hlo]
    have CO : Hid (Calls Tryd.prog 10 #[.slice (some ⟨b, off, none⟩) len cap] w fun e w2 => e = .returned (.bool true) ∧ Below w.heap.size w w2) := by rw [← hlo]; exact listOk_spec b off len cap S M w hc hm R
    have hlo' := hlo
    unfold listOk at hlo'
    rw [Bool.and_eq_true, decide_eq_true_eq] at hlo'
    have CF : Hid (∀ w', RowAt w' b off len S M → Calls Tryd.prog 11 #[.slice (some ⟨b, off, none⟩) len cap] w' fun e w2 => e = .returned (.string z) ∧ Below w'.heap.size w' w2) := fun w' h => by
      rw [HZ.out]
      exact fold_spec b off len cap S M w' hc hm (by omega) h (fun i hi => (okB_num (okUpto_at S M len i hlo'.1 hi)).1) (fun i hi => (okB_num (okUpto_at S M len i hlo'.1 hi)).2)
    clear hlo hlo' hz
    go_enter Tryd.func5, Tryd.ntmps5
    go_wp2_with fail
    refine CO.out.mono ?_
    rintro e w1 ⟨rfl, hb1⟩
    have HB1 := hid hb1
    have HR1 := hid (R.below hb1)
    clear hb1 CO
    go_wp2_with fail
    refine (CF.out _ HR1.out).mono ?_
    rintro e w2 ⟨rfl, hb2⟩
    have HB2 : Hid (Below w.heap.size w w2) := HB1.out.trans (hb2.mono HB1.out.size)
    clear hb2 CF
    go_wp2
    go_ret
    exact ⟨rfl, HB2.out⟩

/-- What the law calls, at a list of hosts: how much room it takes, and its copies. -/
structure LawArg (oa : Option Addr) (len cap : Nat) (S : Nat → ByteArray) (M : Nat → Int) (w : World) : Prop where
  sz : ∀ w1, Below w.heap.size w w1 → Calls Tryd.prog 4 #[.slice oa len cap, .int .i64 1048576] w1 fun e w' => (∃ r : Int, e = .returned (.int .i64 r) ∧ (0 ≤ r → len ≤ 1048576)) ∧ Below w1.heap.size w1 w'
  to : ∀ w1, Below w.heap.size w w1 → len ≤ 1048576 → Calls Tryd.prog 6 #[.slice oa len cap] w1 fun e w' => (∃ B, e = .returned (.slice (some ⟨B, 0, none⟩) len len) ∧ w1.heap.size ≤ B ∧ RowAt w' B 0 len S M) ∧ Below w1.heap.size w1 w'

theorem LawArg.none (oa : Option Addr) (cap : Nat) (S : Nat → ByteArray) (M : Nat → Int) (w : World) : LawArg oa 0 cap S M w where
  sz := fun w1 _ => (szS_none oa cap w1).mono (by rintro e w' ⟨rfl, rfl⟩; exact ⟨⟨_, rfl, fun _ => by decide⟩, Below.refl _ _⟩)
  to := fun w1 _ _ => toS_none oa cap S M w1

theorem LawArg.row (b off len cap : Nat) (S : Nat → ByteArray) (M : Nat → Int) (w : World) (hc : len ≤ cap) (hm : cap ≤ maxLen) (R : RowAt w b off len S M) : LawArg (some ⟨b, off, Option.none⟩) len cap S M w where
  sz := fun w1 hb => szS_any b off len cap S M w1 hc hm (R.below hb)
  to := fun w1 hb hn => toS_any b off len cap S M w1 hn (R.below hb)

set_option maxHeartbeats 600000 in
theorem law_any (oa : Option Addr) (len cap : Nat) (S : Nat → ByteArray) (M : Nat → Int) (w : World) (L : LawArg oa len cap S M w) (ht : Tab w) :
    Calls Tryd.prog 3 #[.slice oa len cap] w fun e w' => e = .returned (.bool true) ∧ Below w.heap.size w w' := by
  have HL := hid L
  have HT := hid ht
  clear L ht
  obtain ⟨z, hz⟩ : ∃ z, z = foldS S M len := ⟨_, rfl⟩
  have CS : Hid (∀ B w', len ≤ maxLen → RowAt w' B 0 len S M → Calls Tryd.prog 5 #[.slice (some ⟨B, 0, none⟩) len len] w' fun e w2 => e = .returned (.string z) ∧ Below w'.heap.size w' w2) := fun B w' hm h => by rw [hz]; exact specFold_any B 0 len len S M w' (Nat.le_refl _) hm h
  have CI : Hid (∀ B w', len ≤ maxLen → RowAt w' B 0 len S M → Tab w' → Calls Tryd.prog 7 #[.slice (some ⟨B, 0, none⟩) len len] w' fun e w2 => e = .returned (.string z) ∧ Below w'.heap.size w' w2) := fun B w' hm h ht => by rw [hz, foldS]; exact implFold_any B 0 len len S M w' (Nat.le_refl _) hm h ht
  clear hz
  go_enter Tryd.func3, Tryd.ntmps3
  go_wp2_with fail
  refine (HL.out.sz _ (Below.refl _ _)).mono ?_
  rintro e w1 ⟨⟨r, rfl, hr⟩, hb1⟩
  have HB1 := hid hb1
  have HRR := hid hr
  clear hb1 hr
  by_cases hneg : r < 0
  · go_wp2
    go_ret
    exact ⟨rfl, HB1.out⟩
  · have HN : Hid (len ≤ 1048576) := HRR.out (by omega)
    have HM : Hid (len ≤ maxLen) := by show len ≤ maxLen; have := HN.out; unfold maxLen; omega
    go_wp2_with fail
    refine (HL.out.to _ HB1.out HN.out).mono ?_
    rintro e w2 ⟨⟨B2, rfl, hB2, R2⟩, hb2⟩
    have HR2 := hid R2
    have HB2 : Hid (Below w.heap.size w w2) := HB1.out.trans (hb2.mono HB1.out.size)
    clear hb2 R2 hB2
    go_wp2_with fail
    refine (CS.out _ _ HM.out HR2.out).mono ?_
    rintro e w3 ⟨rfl, hb3⟩
    have HB3 : Hid (Below w.heap.size w w3) := HB2.out.trans (hb3.mono HB2.out.size)
    clear hb3 CS
    go_wp2_with fail
    refine (HL.out.to _ HB3.out HN.out).mono ?_
    rintro e w4 ⟨⟨B4, rfl, hB4, R4⟩, hb4⟩
    have HR4 := hid R4
    have HB4 : Hid (Below w.heap.size w w4) := HB3.out.trans (hb4.mono HB3.out.size)
    clear hb4 R4 hB4
    go_wp2_with fail
    refine (CI.out _ _ HM.out HR4.out (HT.out.below HB4.out)).mono ?_
    rintro e w5 ⟨rfl, hb5⟩
    have HB5 : Hid (Below w.heap.size w w5) := HB4.out.trans (hb5.mono HB4.out.size)
    have HR5 : Hid (RowAt w5 B4 0 len S M) := HR4.out.below hb5
    clear hb5 CI
    go_wp2_with fail
    refine (HL.out.to _ HB5.out HN.out).mono ?_
    rintro e w6 ⟨⟨B6, rfl, hB6, R6⟩, hb6⟩
    have HR6 := hid R6
    have HB6 : Hid (Below w.heap.size w w6) := HB5.out.trans (hb6.mono HB5.out.size)
    have HR56 : Hid (RowAt w6 B4 0 len S M) := HR5.out.below hb6
    clear hb6 R6 hB6
    go_wp2_with fail
    refine (eqS_same _ _ _ S M _ HN.out HR56.out HR6.out).mono ?_
    rintro e w7 ⟨rfl, hb7⟩
    have HB7 : Hid (Below w.heap.size w w7) := HB6.out.trans (hb7.mono HB6.out.size)
    clear hb7
    go_wp2
    go_ret
    exact ⟨rfl, HB7.out⟩

end Go.Proofs.YtdfbganfmnlggaaDoor
