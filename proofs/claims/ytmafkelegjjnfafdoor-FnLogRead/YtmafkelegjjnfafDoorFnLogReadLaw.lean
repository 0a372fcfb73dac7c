/- DERIVED. The law FnLogRead at every code. -/
import Derived.Test.YtmafkelegjjnfafDoorDrawLog
import Derived.Test.YtmafkelegjjnfafDoorLogRead
import Derived.Test.YtmafkelegjjnfafDoorLogReadSpec
import Derived.Test.YtmafkelegjjnfafDoorLogFlat
import Derived.Test.YtmafkelegjjnfafDoorFmTexts
namespace Go.Proofs.YtmafkelegjjnfafDoor
open Go.RowKit

theorem below_to {w w1 w2 : World} (h : Below w.heap.size w w1) (k : Below w1.heap.size w1 w2) : Below w.heap.size w w2 := h.trans (k.mono h.size)

/-- Records as they are written. -/
def flatB (l : List ByteArray) : ByteArray := mkB (flatL l)

theorem flatB_size (l : List ByteArray) : (flatB l).size = sizeR l := by rw [flatB, mkB_size, flat_len]

theorem flatB_add (l : List ByteArray) (r : ByteArray) (hr : recOk r = true) (h : sizeR l + (putR r).size ≤ 6000) : addOk (flatB l) r = true ∧ addS (flatB l) r = flatB (l ++ [r]) := by
  have h1 : addOk (flatB l) r = true := by
    unfold addOk
    rw [hr, flatB_size]
    simp; omega
  refine ⟨h1, ?_⟩
  unfold addS
  rw [if_pos h1]
  apply Go.WideShapes.bytes_inj
  rw [app_data]
  unfold flatB
  rw [mkB_list, mkB_list, flatL_append]
  simp [flatL]

theorem read_front (s : ByteArray) : s.extract 0 (sizeR (readS s)) = flatB (readS s) := by
  obtain ⟨u, e1, _, _⟩ := read_split s
  apply Go.WideShapes.bytes_inj
  have e := mkB_extract s 0 (sizeR (readS s))
  rw [List.drop_zero] at e
  rw [← e, mkB_list, flatB, mkB_list]
  conv => lhs; rw [e1]
  rw [← flat_len, List.take_left]

theorem logS_facts (s : ByteArray) : (sizeR (logS s) ≤ s.size ∧ sizeR (logS s) ≤ 6000 ∧ (logS s).length ≤ 6000) ∧ s.extract 0 (sizeR (logS s)) = flatB (logS s) ∧ ∀ r ∈ logS s, recOk r = true := by
  by_cases h : s.size ≤ 6000
  · have e : logS s = readS s := if_pos h
    obtain ⟨_, _, _, hr⟩ := read_split s
    have := readS_size s
    rw [e]
    exact ⟨⟨by omega, by omega, by omega⟩, read_front s, hr⟩
  · have e : logS s = [] := if_neg h
    rw [e]
    refine ⟨⟨Nat.zero_le _, Nat.zero_le _, Nat.zero_le _⟩, ?_, by simp⟩
    simp [sizeR]
    rfl

theorem sizeR_take (l : List ByteArray) (k : Nat) (h : k < l.length) : sizeR (l.take (k + 1)) = sizeR (l.take k) + (putR l[k]).size ∧ sizeR (l.take (k + 1)) ≤ sizeR l := by
  have e : l.take (k + 1) = l.take k ++ [l[k]] := by rw [List.take_succ_eq_append_getElem h]
  constructor
  · rw [e, sizeR_append]; simp [sizeR]
  · conv => rhs; rw [← List.take_append_drop (k + 1) l]
    rw [sizeR_append]; omega

set_option maxRecDepth 100000 in
set_option maxHeartbeats 3200000 in
theorem law_any (oa : Option Addr) (len cap : Nat) (w : World) (h : CodeAt w oa len) (hc : len ≤ cap) (hm : cap ≤ maxLen) (ht : Tab w) :
    Calls Tryd.prog 3 #[.slice oa len cap] w fun e w' => e = .returned (.bool true) ∧ Below w.heap.size w w' := by
  have hm' : cap ≤ 2 ^ 63 - 1 := hm
  have HC := hid h
  have HT := hid ht
  clear h ht
  by_cases hl : 1048576 < (len : Int)
  · go_enter Tryd.func3, Tryd.ntmps3
    go_wp2
    go_ret
    exact ⟨rfl, Below.refl _ _⟩
  go_enter Tryd.func3, Tryd.ntmps3
  go_wp2_with fail
  refine (drawLogRead_any oa len cap _ HC.out hc hm).mono ?_
  rintro e w1 ⟨⟨s, rfl, hs⟩, hb⟩
  have HB1 := hid hb
  clear hb
  obtain ⟨hrs, hfr, hrec⟩ := logS_facts s
  have R1 : Hid (∀ w, Tab w → Calls Tryd.prog 5 #[.string s] w fun e w' => ∃ v, e = .returned (.tuple #[v, .int .i64 (sizeR (logS s) : Nat)]) ∧ w'.ownsRow w.heap.size 9 1 v (logS s).length ((logS s).map Value.string) ∧ Below w.heap.size w w') := fun w ht => implRead_any s w (by unfold maxLen; omega) ht
  have R2 : Hid (∀ w, Calls Tryd.prog 6 #[.string s] w fun e w' => ∃ v, e = .returned (.tuple #[v, .int .i64 (sizeR (logS s) : Nat)]) ∧ w'.ownsRow w.heap.size 9 1 v (logS s).length ((logS s).map Value.string) ∧ Below w.heap.size w w') := fun w => specRead_any s w (by unfold maxLen; omega)
  obtain ⟨P, hPe⟩ : ∃ P, P = logS s := ⟨_, rfl⟩
  rw [← hPe] at R1 R2 hrs hfr hrec
  have hP : P.length ≤ 6000 := by omega
  have HREC := hid hrec
  have CA : Hid (∀ (k : Nat) (h : k < P.length) (w : World), Tab w → Calls Tryd.prog 8 #[.string (flatB (P.take k)), .string P[k]] w fun e w' => e = .returned (.tuple #[.string (flatB (P.take (k + 1))), .bool true]) ∧ Below w.heap.size w w') := fun k h w ht => by
    have hr := HREC.out P[k] (List.getElem_mem h)
    have h1 := sizeR_take P k h
    obtain ⟨e1, e2⟩ := flatB_add (P.take k) P[k] hr (by omega)
    have h60 := (recOk_size hr).2
    have := implAdd_any (flatB (P.take k)) P[k] w (by rw [flatB_size]; omega) (by omega) ht
    rw [e1, e2] at this
    rw [List.take_succ_eq_append_getElem h]
    exact this
  obtain ⟨n, hn⟩ : ∃ n, n = sizeR P := ⟨_, rfl⟩
  rw [← hn] at R1 R2 hfr hrs
  have hns : n ≤ s.size := hrs.1
  have hnI : ¬ (n : Int) > (s.size : Int) := by omega
  have hnd : decide (s.size < n) = false := by simp; omega
  have HFR := hid hfr
  clear hrs hPe hn hrec hfr HREC
  go_wp2_with fail
  refine (R1.out _ (HT.out.below HB1.out)).mono ?_
  rintro e w2 ⟨v1, rfl, hrow1, hb⟩
  have HB2 : Hid (Below w.heap.size w w2) := below_to HB1.out hb
  obtain ⟨o1, c1, rfl, hc1, hcm1, ht1⟩ := texts_of hrow1
  have HT1 := hid ht1
  clear hb hrow1 ht1
  go_wp2_with fail
  refine (R2.out _).mono ?_
  rintro e w3 ⟨v2, rfl, hrow2, hb⟩
  have HB3 : Hid (Below w.heap.size w w3) := below_to HB2.out hb
  have HT1' := hid (HT1.out.below hb)
  obtain ⟨o2, c2, rfl, _, _, ht2⟩ := texts_of hrow2
  have HT2 := hid ht2
  clear hb hrow2 ht2 HT1
  go_wp2_with fail
  refine (fmTexts_same _ _ _ _ P w3 (by omega) HT1'.out HT2.out).mono ?_
  rintro e w4 ⟨rfl, hb⟩
  have HB4 : Hid (Below w.heap.size w w4) := below_to HB3.out hb
  have HT3 := hid (HT1'.out.below hb)
  clear hb HT1' HT2
  go_wp2
  go_loopw [8, 9] (fun v i wr => ∃ k : Nat, k ≤ P.length ∧ i = .int .i64 k ∧ v = .string (flatB (P.take k)) ∧ Below w4.heap.size w4 wr) (fun _ i _ => P.length - (intOf i).toNat)
  case atStart => exact ⟨0, Nat.zero_le _, rfl, rfl, Below.refl _ _⟩
  case round =>
    obtain ⟨k, hk, rfl, rfl, hbr⟩ := hrel
    have HBR := hid hbr
    have HTR := hid (HT3.out.below hbr)
    clear hbr
    by_cases hlt : k < P.length
    · have hltI : (k : Int) < (P.length : Int) := by omega
      obtain ⟨g, rfl, _, hcell⟩ := HTR.out k hlt
      have CK : Hid (∀ (w : World), Tab w → Calls Tryd.prog 8 #[.string (flatB (P.take k)), .string P[k]] w fun e w' => e = .returned (.tuple #[.string (flatB (P.take (k + 1))), .bool true]) ∧ Below w.heap.size w w') := fun w ht => CA.out k hlt w ht
      obtain ⟨r, hr⟩ : ∃ r, r = P[k] := ⟨_, rfl⟩
      obtain ⟨b, hb⟩ : ∃ b, b = flatB (P.take (k + 1)) := ⟨_, rfl⟩
      rw [← hr] at hcell CK
      rw [← hb] at CK
      have HBE := hid hb
      clear hr hb
      go_wp2_with fail
      refine (CK.out _ (HT.out.below (below_to HB4.out HBR.out))).mono ?_
      rintro e w5 ⟨rfl, hb⟩
      have HB5 : Hid (Below w4.heap.size w4 w5) := below_to HBR.out hb
      clear hb
      go_wp2
      go_roundw
      case rel => exact ⟨k + 1, by omega, by go_num, by rw [HBE.out], HB5.out⟩
      case measure => simp [intOf]; omega
    · have hltI : ¬ (k : Int) < (P.length : Int) := by omega
      have hall : flatB (P.take k) = s.extract 0 n := by rw [List.take_of_length_le (by omega), HFR.out]
      rw [hall]
      have hnI2 : (n : Int) ≤ (s.size : Int) := by omega
      go_wp2
      go_ret
      exact ⟨rfl, below_to HB4.out HBR.out⟩

end Go.Proofs.YtmafkelegjjnfafDoor
