/- DERIVED. The law FnLogTear at every code. -/
import Derived.Test.YtmafkelegjjnfaeDoorDrawLog
import Derived.Test.YtmafkelegjjnfaeDoorLogTear
import Derived.Test.YtmafkelegjjnfaeDoorLogRead
import Derived.Test.YtmafkelegjjnfaeDoorLogFlat
import Derived.Test.YtmafkelegjjnfaeDoorFmTexts
namespace Go.Proofs.YtmafkelegjjnfaeDoor
open Go.RowKit

theorem below_to {w w1 w2 : World} (h : Below w.heap.size w w1) (k : Below w1.heap.size w1 w2) : Below w.heap.size w w2 := h.trans (k.mono h.size)

theorem tear_le (n : Int) (m : Nat) : tearN n m ≤ m := by
  unfold tearN
  split
  · omega
  · split <;> omega

theorem ext_data (a : ByteArray) (j : Nat) : (a.extract 0 j).data.toList = a.data.toList.take j := by
  rw [ext_list]; simp

set_option maxRecDepth 100000 in
set_option maxHeartbeats 3200000 in
theorem law_any (oa : Option Addr) (len cap : Nat) (w : World) (h : CodeAt w oa len) (hc : len ≤ cap) (hm : cap ≤ maxLen) (ht : Tab w) :
    Calls Tryd.prog 3 #[.slice oa len cap] w fun e w' => e = .returned (.bool true) ∧ Below w.heap.size w w' := by
  have hm' : cap ≤ 2 ^ 63 - 1 := hm
  have HC := hid h
  have HT := hid ht
  clear h ht
  by_cases hl : 1048576 < (len : Int)
  · go_enter Tryd.func3, Tryd.ntmps3
    go_wp2
    go_ret
    exact ⟨rfl, Below.refl _ _⟩
  go_enter Tryd.func3, Tryd.ntmps3
  go_wp2_with fail
  refine (drawLogTear_any oa len cap _ HC.out hc hm).mono ?_
  rintro e w1 ⟨⟨s, r, n, rfl, hs, hr⟩, hb⟩
  have HB1 := hid hb
  clear hb
  obtain ⟨x, hx⟩ : ∃ x, x = tearS s r n := ⟨_, rfl⟩
  obtain ⟨y, hy⟩ : ∃ y, y = addS s r := ⟨_, rfl⟩
  obtain ⟨b, hbk⟩ : ∃ b, b = addOk s r := ⟨_, rfl⟩
  have CS : Hid (∀ w, Calls Tryd.prog 6 #[.string s, .string r, .int .i64 n] w fun e w' => e = .returned (.string x) ∧ Below w.heap.size w w') := fun w => by rw [hx]; exact specTear_any s r n w (by omega) (by omega)
  have CI : Hid (∀ w, Tab w → Calls Tryd.prog 5 #[.string s, .string r, .int .i64 n] w fun e w' => e = .returned (.string x) ∧ Below w.heap.size w w') := fun w ht => by rw [hx]; exact implTear_any s r n w (by omega) (by omega) ht
  have CA : Hid (∀ w, Tab w → Calls Tryd.prog 8 #[.string s, .string r] w fun e w' => e = .returned (.tuple #[.string y, .bool b]) ∧ Below w.heap.size w w') := fun w ht => by rw [hy, hbk]; exact implAdd_any s r w (by omega) (by omega) ht
  have hxs : x.size ≤ 20000 := by
    have h1 := decS_size r.size
    have h2 := putR_size r
    rw [hx]; unfold tearS
    split
    · rw [ByteArray.size_append, ByteArray.size_extract]; omega
    · omega
  have R1 : Hid (∀ w, Tab w → Calls Tryd.prog 7 #[.string s] w fun e w' => ∃ v, e = .returned (.tuple #[v, .int .i64 (sizeR (logS s) : Nat)]) ∧ w'.ownsRow w.heap.size 9 1 v (logS s).length ((logS s).map Value.string) ∧ Below w.heap.size w w') := fun w ht => implRead_any s w (by unfold maxLen; omega) ht
  have R2 : Hid (∀ w, Tab w → Calls Tryd.prog 7 #[.string x] w fun e w' => ∃ v, e = .returned (.tuple #[v, .int .i64 (sizeR (logS x) : Nat)]) ∧ w'.ownsRow w.heap.size 9 1 v (logS x).length ((logS x).map Value.string) ∧ Below w.heap.size w w') := fun w ht => implRead_any x w (by unfold maxLen; omega) ht
  have HX := hid hx
  have HY := hid hy
  have HBK := hid hbk
  clear hx hy hbk
  cases b
  · have HXS : Hid (x = s) := by show _ = _; rw [HX.out]; exact if_neg (by rw [← HBK.out]; decide)
    have he : (x.toList == s.toList) = true := by rw [HXS.out]; simp
    obtain ⟨k, hk⟩ : ∃ k, k = sizeR (logS s) := ⟨_, rfl⟩
    rw [← hk] at R1
    clear hk
    cases hcn : ((k : Int) != (s.size : Int))
    all_goals
      go_wp2_with fail
      refine (CI.out _ (HT.out.below HB1.out)).mono ?_
      rintro e w2 ⟨rfl, hb⟩
      have HB2 : Hid (Below w.heap.size w w2) := below_to HB1.out hb
      clear hb
      go_wp2_with fail
      refine (CS.out _).mono ?_
      rintro e w3 ⟨rfl, hb⟩
      have HB3 : Hid (Below w.heap.size w w3) := below_to HB2.out hb
      clear hb
      go_wp2_with fail
      refine (R1.out _ (HT.out.below HB3.out)).mono ?_
      rintro e w4 ⟨v1, rfl, hrow1, hb⟩
      have HB4 : Hid (Below w.heap.size w w4) := below_to HB3.out hb
      clear hb hrow1
      go_wp2_with fail
      refine (R2.out _ (HT.out.below HB4.out)).mono ?_
      rintro e w5 ⟨v2, rfl, hrow2, hb⟩
      have HB5 : Hid (Below w.heap.size w w5) := below_to HB4.out hb
      clear hb hrow2
      go_wp2_with fail
      refine (CA.out _ (HT.out.below HB5.out)).mono ?_
      rintro e w6 ⟨rfl, hb⟩
      have HB6 : Hid (Below w.heap.size w w6) := below_to HB5.out hb
      clear hb
      go_wp2
      go_ret
      exact ⟨rfl, HB6.out⟩
  · have hok : addOk s r = true := HBK.out.symm
    have hs6 : s.size ≤ 6000 ∧ s.size + (putR r).size ≤ 6000 ∧ recOk r = true := by
      simp [addOk] at hok
      exact ⟨by omega, hok.2, hok.1⟩
    have hls : logS s = readS s := if_pos hs6.1
    by_cases hw : sizeR (readS s) = s.size
    · obtain ⟨j, hj⟩ : ∃ j, j = tearN n (putR r).size := ⟨_, rfl⟩
      have hxe : x = s ++ (putR r).extract 0 j := by rw [HX.out, hj]; exact if_pos hok
      have hye : y = s ++ putR r := by rw [HY.out]; exact if_pos hok
      have hjle : j ≤ (putR r).size := by rw [hj]; exact tear_le _ _
      have hxz : x.size = s.size + j := by rw [hxe, ByteArray.size_append, ByteArray.size_extract]; omega
      have hxl : x.data.toList = s.data.toList ++ (putR r).data.toList.take j := by rw [hxe, app_data, ext_data]
      have hlx : logS x = readS x := if_pos (by omega)
      have hrs := readS_size s
      have hP : (readS s).length ≤ 6000 := by omega
      rw [hls, hw] at R1
      rw [hlx] at R2
      by_cases hfull : j = (putR r).size
      · have hxy : x = y := by
          rw [hxe, hye, hfull]; simp
        obtain ⟨e1, e2⟩ := read_whole hw hs6.2.2 (x := x) (by rw [hxy, hye, app_data])
        rw [e1] at R2
        rw [e2] at R2
        obtain ⟨P, hPe⟩ : ∃ P, P = readS s := ⟨_, rfl⟩
        rw [← hPe] at R1 R2 hP
        have hlen : (P ++ [r]).length = P.length + 1 := by simp
        rw [hlen] at R2
        have heq : (x.toList == y.toList) = true := by rw [hxy]; simp
        clear hok hs6 hls hw hxe hye hjle hxz hxl hlx hrs e1 e2 hPe hlen hj hfull hxy
        go_wp2_with fail
        refine (CI.out _ (HT.out.below HB1.out)).mono ?_
        rintro e w2 ⟨rfl, hb⟩
        have HB2 : Hid (Below w.heap.size w w2) := below_to HB1.out hb
        clear hb
        go_wp2_with fail
        refine (CS.out _).mono ?_
        rintro e w3 ⟨rfl, hb⟩
        have HB3 : Hid (Below w.heap.size w w3) := below_to HB2.out hb
        clear hb
        go_wp2_with fail
        refine (R1.out _ (HT.out.below HB3.out)).mono ?_
        rintro e w4 ⟨v1, rfl, hrow1, hb⟩
        have HB4 : Hid (Below w.heap.size w w4) := below_to HB3.out hb
        obtain ⟨o1, c1, rfl⟩ := row_shape hrow1
        clear hb hrow1
        go_wp2_with fail
        refine (R2.out _ (HT.out.below HB4.out)).mono ?_
        rintro e w5 ⟨v2, rfl, hrow2, hb⟩
        have HB5 : Hid (Below w.heap.size w w5) := below_to HB4.out hb
        obtain ⟨o2, c2, rfl⟩ := row_shape hrow2
        clear hb hrow2
        go_wp2_with fail
        refine (CA.out _ (HT.out.below HB5.out)).mono ?_
        rintro e w6 ⟨rfl, hb⟩
        have HB6 : Hid (Below w.heap.size w w6) := below_to HB5.out hb
        clear hb
        go_wp2
        go_ret
        exact ⟨rfl, HB6.out⟩
      · have hjlt : j < (putR r).size := by omega
        have e1 := read_torn hw hs6.2.2 hjlt hxl
        rw [e1, hw] at R2
        obtain ⟨P, hPe⟩ : ∃ P, P = readS s := ⟨_, rfl⟩
        rw [← hPe] at R1 R2 hP
        have heq : (x.toList == y.toList) = false := by
          rw [beq_eq_false_iff_ne]
          intro e
          have e2 := congrArg List.length e
          have e3 : y.size = s.size + (putR r).size := by rw [hye, ByteArray.size_append]
          rw [len_toList, len_toList] at e2
          omega
        clear hok hs6 hls hw hxe hye hjle hxz hxl hlx hrs e1 hPe hj hfull hjlt
        go_wp2_with fail
        refine (CI.out _ (HT.out.below HB1.out)).mono ?_
        rintro e w2 ⟨rfl, hb⟩
        have HB2 : Hid (Below w.heap.size w w2) := below_to HB1.out hb
        clear hb
        go_wp2_with fail
        refine (CS.out _).mono ?_
        rintro e w3 ⟨rfl, hb⟩
        have HB3 : Hid (Below w.heap.size w w3) := below_to HB2.out hb
        clear hb
        go_wp2_with fail
        refine (R1.out _ (HT.out.below HB3.out)).mono ?_
        rintro e w4 ⟨v1, rfl, hrow1, hb⟩
        have HB4 : Hid (Below w.heap.size w w4) := below_to HB3.out hb
        obtain ⟨o1, c1, rfl, _, _, ht1⟩ := texts_of hrow1
        have HT1 := hid ht1
        clear hb hrow1 ht1
        go_wp2_with fail
        refine (R2.out _ (HT.out.below HB4.out)).mono ?_
        rintro e w5 ⟨v2, rfl, hrow2, hb⟩
        have HB5 : Hid (Below w.heap.size w w5) := below_to HB4.out hb
        have HT1' := hid (HT1.out.below hb)
        obtain ⟨o2, c2, rfl, _, _, ht2⟩ := texts_of hrow2
        have HT2 := hid ht2
        clear hb hrow2 ht2 HT1
        go_wp2_with fail
        refine (CA.out _ (HT.out.below HB5.out)).mono ?_
        rintro e w6 ⟨rfl, hb⟩
        have HB6 : Hid (Below w.heap.size w w6) := below_to HB5.out hb
        have CF : Hid (Calls Tryd.prog 9 #[.slice o2 P.length c2, .slice o1 P.length c1] w6 fun e w' => e = .returned (.bool true) ∧ Below w6.heap.size w6 w') := fmTexts_same _ _ _ _ P w6 (by omega) (HT2.out.below hb) (HT1'.out.below hb)
        clear hb HT2 HT1'
        go_wp2_with fail
        refine CF.out.mono ?_
        rintro e w7 ⟨rfl, hb⟩
        have HB7 : Hid (Below w.heap.size w w7) := below_to HB6.out hb
        clear hb CF
        go_wp2
        go_ret
        exact ⟨rfl, HB7.out⟩
    · rw [hls] at R1
      obtain ⟨k, hk⟩ : ∃ k, k = sizeR (readS s) := ⟨_, rfl⟩
      have hcn : ((k : Int) != (s.size : Int)) = true := by rw [bne_iff_ne]; omega
      rw [← hk] at R1
      clear hk hw hok hs6 hls
      go_wp2_with fail
      refine (CI.out _ (HT.out.below HB1.out)).mono ?_
      rintro e w2 ⟨rfl, hb⟩
      have HB2 : Hid (Below w.heap.size w w2) := below_to HB1.out hb
      clear hb
      go_wp2_with fail
      refine (CS.out _).mono ?_
      rintro e w3 ⟨rfl, hb⟩
      have HB3 : Hid (Below w.heap.size w w3) := below_to HB2.out hb
      clear hb
      go_wp2_with fail
      refine (R1.out _ (HT.out.below HB3.out)).mono ?_
      rintro e w4 ⟨v1, rfl, hrow1, hb⟩
      have HB4 : Hid (Below w.heap.size w w4) := below_to HB3.out hb
      clear hb hrow1
      go_wp2_with fail
      refine (R2.out _ (HT.out.below HB4.out)).mono ?_
      rintro e w5 ⟨v2, rfl, hrow2, hb⟩
      have HB5 : Hid (Below w.heap.size w w5) := below_to HB4.out hb
      clear hb hrow2
      go_wp2_with fail
      refine (CA.out _ (HT.out.below HB5.out)).mono ?_
      rintro e w6 ⟨rfl, hb⟩
      have HB6 : Hid (Below w.heap.size w w6) := below_to HB5.out hb
      clear hb
      go_wp2
      go_ret
      exact ⟨rfl, HB6.out⟩

end Go.Proofs.YtmafkelegjjnfaeDoor
