/- DERIVED. The walks of LogAdd and LogTear: the program's and the model's, exactly. -/
import Derived.Test.YtmafkelegjjnfafDoorLogWalks
namespace Go.Proofs.YtmafkelegjjnfafDoor
open Go.RowKit

theorem addOk_no {log r : ByteArray} (h : recOk r = false) : addOk log r = false := by simp [addOk, h]

set_option maxRecDepth 100000 in
set_option maxHeartbeats 800000 in
theorem specAdd_any (log r : ByteArray) (w : World) (hl : log.size ≤ 1048576) (hr : r.size ≤ 1048576) :
    Calls Tryd.prog 18 #[.string log, .string r] w fun e w' => e = .returned (.tuple #[.string (addS log r), .bool (addOk log r)]) ∧ Below w.heap.size w w' := by
  have hrm : r.size ≤ maxLen := by unfold maxLen; omega
  cases hk : recOk r
  · have HS : Hid (addOk log r = false) := addOk_no hk
    have HS2 : Hid (addS log r = log) := if_neg (by rw [HS.out]; decide)
    have HK := hid hk
    clear hk
    go_enter Tryd.func18, Tryd.ntmps18
    go_wp2_with (go_at_call 25; refine (recordOk_any _ _ hrm).mono ?_; rintro e w' ⟨rfl, rfl⟩; rw [HK.out])
    go_ret2
    exact ⟨by rw [HS.out, HS2.out]; rfl, Below.refl _ _⟩
  · have hs := recOk_size hk
    have hd := decS_size r.size
    have hz := putR_size r
    obtain ⟨p, hp⟩ : ∃ p, p = putR r := ⟨_, rfl⟩
    have CP : Hid (∀ w, Calls Tryd.prog 26 #[.string r] w fun e w' => e = .returned (.string p) ∧ Below w.heap.size w w') := fun w => by rw [hp]; exact l10Put_any r w hs.2
    rw [← hp] at hz
    have HP := hid hp
    have hadd := fun W => run_string_add_sum (P := Tryd.prog) (w := W) log p (by omega)
    have HK := hid hk
    clear hk hp
    by_cases h6 : (log.size : Int) + (p.size : Int) > 6000
    · have HS : Hid (addOk log r = false) := by show _ = _; unfold addOk; rw [HK.out, ← HP.out]; simp; omega
      have HS2 : Hid (addS log r = log) := if_neg (by rw [HS.out]; decide)
      go_enter Tryd.func18, Tryd.ntmps18
      go_wp2_with (first
        | (go_at_call 25; refine (recordOk_any _ _ hrm).mono ?_; rintro e w' ⟨rfl, rfl⟩; rw [HK.out])
        | (go_at_call 26; refine (CP.out _).mono ?_; rintro e w1 ⟨rfl, hb⟩; have HB := hid hb; clear hb))
      go_ret2
      exact ⟨by rw [HS.out, HS2.out]; rfl, HB.out⟩
    · have HS : Hid (addOk log r = true) := by show _ = _; unfold addOk; rw [HK.out, ← HP.out]; simp; omega
      have HS2 : Hid (addS log r = log ++ p) := by show _ = _; unfold addS; rw [if_pos HS.out, HP.out]
      go_enter Tryd.func18, Tryd.ntmps18
      go_wp2_with fail
      refine (recordOk_any _ _ hrm).mono ?_
      rintro e w' ⟨rfl, rfl⟩
      rw [HK.out]
      go_wp2_with fail
      refine (CP.out _).mono ?_
      rintro e w1 ⟨rfl, hb⟩
      have HB := hid hb
      clear hb
      go_wp2_with fail
      refine (CP.out _).mono ?_
      rintro e w2 ⟨rfl, hb⟩
      have HB2 : Hid (Below w'.heap.size w' w2) := HB.out.trans (hb.mono HB.out.size)
      clear hb
      go_wp2
      go_ret2
      exact ⟨by rw [HS.out, HS2.out]; rfl, HB2.out⟩

set_option maxRecDepth 100000 in
set_option maxHeartbeats 800000 in
theorem implAdd_any (log r : ByteArray) (w : World) (hl : log.size ≤ 1048576) (hr : r.size ≤ 1048576) (ht : Tab w) :
    Calls Tryd.prog 8 #[.string log, .string r] w fun e w' => e = .returned (.tuple #[.string (addS log r), .bool (addOk log r)]) ∧ Below w.heap.size w w' := by
  have hrm : r.size ≤ maxLen := by unfold maxLen; omega
  have hd := decS_size r.size
  have hz := putR_size r
  obtain ⟨p, hp⟩ : ∃ p, p = putR r := ⟨_, rfl⟩
  have HT := hid ht
  have CP : Hid (∀ w, Tab w → Calls Tryd.prog 15 #[.string r] w fun e w' => e = .returned (.string p) ∧ Below w.heap.size w w') := fun w ht => by rw [hp]; exact recordPut_any r w hr ht
  rw [← hp] at hz
  have HP := hid hp
  have hadd := fun W => run_string_add_sum (P := Tryd.prog) (w := W) log p (by omega)
  obtain ⟨lp, hlp⟩ : ∃ lp, lp = log ++ p := ⟨_, rfl⟩
  have hsz : lp.size = log.size + p.size := by rw [hlp, ByteArray.size_append]
  rw [← hlp] at hadd
  have HLP := hid hlp
  clear hp ht hlp
  cases hk : recOk r
  · have HS : Hid (addOk log r = false) := addOk_no hk
    have HS2 : Hid (addS log r = log) := if_neg (by rw [HS.out]; decide)
    have HK := hid hk
    clear hk
    go_enter Tryd.func8, Tryd.ntmps8
    go_wp2_with (first
      | (go_at_call 15; refine (CP.out _ HT.out).mono ?_; rintro e w1 ⟨rfl, hb⟩; have HB := hid hb; clear hb)
      | (go_at_call 17; refine (isRecord_any _ _ hrm).mono ?_; rintro e w' ⟨rfl, rfl⟩; rw [HK.out]))
    go_ret2
    exact ⟨by rw [HS.out, HS2.out]; rfl, HB.out⟩
  · have hs := recOk_size hk
    have HK := hid hk
    clear hk
    by_cases h6 : (lp.size : Int) > 6000
    · have HS : Hid (addOk log r = false) := by show _ = _; unfold addOk; rw [HK.out, ← HP.out]; simp; omega
      have HS2 : Hid (addS log r = log) := if_neg (by rw [HS.out]; decide)
      go_enter Tryd.func8, Tryd.ntmps8
      go_wp2_with (first
        | (go_at_call 15; refine (CP.out _ HT.out).mono ?_; rintro e w1 ⟨rfl, hb⟩; have HB := hid hb; clear hb)
        | (go_at_call 17; refine (isRecord_any _ _ hrm).mono ?_; rintro e w' ⟨rfl, rfl⟩; rw [HK.out]))
      go_ret2
      exact ⟨by rw [HS.out, HS2.out]; rfl, HB.out⟩
    · have HS : Hid (addOk log r = true) := by show _ = _; unfold addOk; rw [HK.out, ← HP.out]; simp; omega
      have HS2 : Hid (addS log r = lp) := by show _ = _; unfold addS; rw [if_pos HS.out, HLP.out, HP.out]
      go_enter Tryd.func8, Tryd.ntmps8
      go_wp2_with (first
        | (go_at_call 15; refine (CP.out _ HT.out).mono ?_; rintro e w1 ⟨rfl, hb⟩; have HB := hid hb; clear hb)
        | (go_at_call 17; refine (isRecord_any _ _ hrm).mono ?_; rintro e w' ⟨rfl, rfl⟩; rw [HK.out]))
      go_ret2
      exact ⟨by rw [HS.out, HS2.out]; rfl, HB.out⟩

end Go.Proofs.YtmafkelegjjnfafDoor
