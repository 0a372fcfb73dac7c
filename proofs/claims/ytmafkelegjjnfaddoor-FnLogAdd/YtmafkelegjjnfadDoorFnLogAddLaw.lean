/- DERIVED. The law FnLogAdd at every code. -/
import Derived.Test.YtmafkelegjjnfadDoorDrawLog
import Derived.Test.YtmafkelegjjnfadDoorLogRead
import Derived.Test.YtmafkelegjjnfadDoorLogFlat
import Derived.Test.YtmafkelegjjnfadDoorFmTexts
namespace Go.Proofs.YtmafkelegjjnfadDoor
open Go.RowKit

theorem below_to {w w1 w2 : World} (h : Below w.heap.size w w1) (k : Below w1.heap.size w1 w2) : Below w.heap.size w w2 := h.trans (k.mono h.size)

set_option maxRecDepth 100000 in
set_option maxHeartbeats 3200000 in
theorem law_any (oa : Option Addr) (len cap : Nat) (w : World) (h : CodeAt w oa len) (hc : len ≤ cap) (hm : cap ≤ maxLen) (ht : Tab w) :
    Calls Tryd.prog 3 #[.slice oa len cap] w fun e w' => e = .returned (.bool true) ∧ Below w.heap.size w w' := by
  have hm' : cap ≤ 2 ^ 63 - 1 := hm
  have HC := hid h
  have HT := hid ht
  clear h ht
  by_cases hl : 1048576 < (len : Int)
  · go_enter Tryd.func3, Tryd.ntmps3
    go_wp2
    go_ret
    exact ⟨rfl, Below.refl _ _⟩
  go_enter Tryd.func3, Tryd.ntmps3
  go_wp2_with fail
  refine (drawLogAdd_any oa len cap _ HC.out hc hm).mono ?_
  rintro e w1 ⟨⟨s, r, rfl, hs, hr⟩, hb⟩
  have HB1 := hid hb
  clear hb
  obtain ⟨x, hx⟩ : ∃ x, x = addS s r := ⟨_, rfl⟩
  obtain ⟨b, hbk⟩ : ∃ b, b = addOk s r := ⟨_, rfl⟩
  have CS : Hid (∀ w, Calls Tryd.prog 6 #[.string s, .string r] w fun e w' => e = .returned (.tuple #[.string x, .bool b]) ∧ Below w.heap.size w w') := fun w => by rw [hx, hbk]; exact specAdd_any s r w (by omega) (by omega)
  have CI : Hid (∀ w, Tab w → Calls Tryd.prog 5 #[.string s, .string r] w fun e w' => e = .returned (.tuple #[.string x, .bool b]) ∧ Below w.heap.size w w') := fun w ht => by rw [hx, hbk]; exact implAdd_any s r w (by omega) (by omega) ht
  have HX := hid hx
  have HBK := hid hbk
  clear hx hbk
  cases b
  · have HXS : Hid (x = s) := by show _ = _; rw [HX.out]; exact if_neg (by rw [← HBK.out]; decide)
    go_wp2_with fail
    refine (CI.out _ (HT.out.below HB1.out)).mono ?_
    rintro e w2 ⟨rfl, hb⟩
    have HB2 : Hid (Below w.heap.size w w2) := below_to HB1.out hb
    clear hb
    go_wp2_with fail
    refine (CS.out _).mono ?_
    rintro e w3 ⟨rfl, hb⟩
    have HB3 : Hid (Below w.heap.size w w3) := below_to HB2.out hb
    clear hb
    have he : (x.toList == s.toList) = true := by rw [HXS.out]; simp
    go_wp2
    go_ret
    exact ⟨rfl, HB3.out⟩
  · have hok : addOk s r = true := HBK.out.symm
    have hs6 : s.size ≤ 6000 ∧ s.size + (putR r).size ≤ 6000 ∧ recOk r = true := by
      simp [addOk] at hok
      exact ⟨by omega, hok.2, hok.1⟩
    have hxe : x = s ++ putR r := by rw [HX.out]; exact if_pos hok
    have hxl : x.data.toList = s.data.toList ++ (putR r).data.toList := by rw [hxe, app_data]
    have hxz : x.size = s.size + (putR r).size := by rw [hxe, ByteArray.size_append]
    have hls : logS s = readS s := if_pos hs6.1
    have hlx : logS x = readS x := if_pos (by omega)
    have hmore := read_more s x (putR r).data.toList hxl
    have hxx : x.extract 0 s.size = s := by
      apply Go.WideShapes.bytes_inj
      rw [← mkB_list (x.extract 0 s.size).data.toList, mkB_data]
      have e := mkB_extract x 0 s.size
      rw [List.drop_zero] at e
      rw [← e, mkB_list, hxl]
      have : s.data.toList.length = s.size := by simp
      rw [← this, List.take_left]
    have hrs := readS_size s
    have hrx := readS_size x
    have R1 : Hid (∀ w, Tab w → Calls Tryd.prog 7 #[.string s] w fun e w' => ∃ v, e = .returned (.tuple #[v, .int .i64 (sizeR (readS s) : Nat)]) ∧ w'.ownsRow w.heap.size 9 1 v (readS s).length ((readS s).map Value.string) ∧ Below w.heap.size w w') := fun w ht => by
      have := implRead_any s w (by unfold maxLen; omega) ht
      rw [hls] at this; exact this
    have R2 : Hid (∀ w, Tab w → Calls Tryd.prog 7 #[.string x] w fun e w' => ∃ v, e = .returned (.tuple #[v, .int .i64 (sizeR (readS x) : Nat)]) ∧ w'.ownsRow w.heap.size 9 1 v (readS x).length ((readS x).map Value.string) ∧ Below w.heap.size w w') := fun w ht => by
      have := implRead_any x w (by unfold maxLen; omega) ht
      rw [hlx] at this; exact this
    by_cases hw : sizeR (readS s) = s.size
    · obtain ⟨e1, e2⟩ := read_whole hw hs6.2.2 hxl
      rw [e1] at R2
      rw [e2] at R2
      rw [hw] at R1
      have hP : (readS s).length ≤ 6000 := by omega
      obtain ⟨P, hPe⟩ : ∃ P, P = readS s := ⟨_, rfl⟩
      rw [← hPe] at R1 R2 hP
      have HXX := hid hxx
      have hsx : s.size ≤ x.size := by omega
      clear hok hs6 hxe hxl hxz hls hlx hmore hrs hrx e1 e2 hPe hw hxx
      go_wp2_with fail
      refine (CI.out _ (HT.out.below HB1.out)).mono ?_
      rintro e w2 ⟨rfl, hb⟩
      have HB2 : Hid (Below w.heap.size w w2) := below_to HB1.out hb
      clear hb
      go_wp2_with fail
      refine (CS.out _).mono ?_
      rintro e w3 ⟨rfl, hb⟩
      have HB3 : Hid (Below w.heap.size w w3) := below_to HB2.out hb
      clear hb
      go_wp2_with fail
      refine (R1.out _ (HT.out.below HB3.out)).mono ?_
      rintro e w4 ⟨v1, rfl, hrow1, hb⟩
      have HB4 : Hid (Below w.heap.size w w4) := below_to HB3.out hb
      obtain ⟨o1, c1, rfl, _, _, ht1⟩ := texts_of hrow1
      have HT1 := hid ht1
      clear hb hrow1 ht1
      go_wp2_with fail
      refine (R2.out _ (HT.out.below HB4.out)).mono ?_
      rintro e w5 ⟨v2, rfl, hrow2, hb⟩
      have HB5 : Hid (Below w.heap.size w w5) := below_to HB4.out hb
      have HT1' := hid (HT1.out.below hb)
      obtain ⟨o2, c2, rfl, hcl2, hcm2, ht2⟩ := texts_of hrow2
      have hlen : (P ++ [r]).length = P.length + 1 := by simp
      have HT2 := hid ht2
      obtain ⟨g2, rfl, _, hcell⟩ := ht2 P.length (by rw [hlen]; omega)
      have hcell' : w5.cell? ⟨g2, P.length, none⟩ = some (.string r) := by rw [hcell]; simp
      rw [hlen] at hcl2 ⊢
      have CF : Hid (Calls Tryd.prog 8 #[.slice (some ⟨g2, 0, none⟩) P.length c2, .slice o1 P.length c1] w5 fun e w' => e = .returned (.bool true) ∧ Below w5.heap.size w5 w') := fmTexts_same _ _ _ _ P w5 (by omega) HT2.out.front HT1'.out
      have hcm : c2 ≤ 9223372036854775807 := hcm2
      clear hb hrow2 ht2 hcell HT1
      have hxx' := HXX.out
      have hsI : (s.size : Int) ≤ (x.size : Int) := by omega
      go_wp2_with fail
      refine CF.out.mono ?_
      rintro e w6 ⟨rfl, hb⟩
      have HB6 : Hid (Below w.heap.size w w6) := below_to HB5.out hb
      have hcell6 : w6.cell? ⟨g2, P.length, none⟩ = some (.string r) := by
        obtain ⟨g, e, hg, _⟩ := HT2.out P.length (by simp)
        injection e with e
        injection e with e
        subst e
        rw [hb.cell (p := ⟨g2, P.length, none⟩) hg]; exact hcell'
      clear hb hcell' CF
      go_wp2
      go_ret
      exact ⟨rfl, HB6.out⟩
    · have hw' : ((sizeR (readS s) : Nat) : Int) ≠ (s.size : Int) := by omega
      obtain ⟨m, hmm⟩ := hmore
      have hle : sizeR (readS s) ≤ sizeR (readS x) := by rw [hmm, sizeR_append]; omega
      obtain ⟨n, hn⟩ : ∃ n, n = sizeR (readS s) := ⟨_, rfl⟩
      obtain ⟨k, hk⟩ : ∃ k, k = sizeR (readS x) := ⟨_, rfl⟩
      rw [← hn] at R1 hw' hle
      rw [← hk] at R2 hle
      have hneq : ((n : Int) != (s.size : Int)) = true := by rw [bne_iff_ne]; exact hw'
      clear hok hs6 hxe hxl hxz hls hlx hmm hrs hrx hn hk hw hxx hw'
      by_cases hkn : k = n
      · subst hkn
        go_wp2_with fail
        refine (CI.out _ (HT.out.below HB1.out)).mono ?_
        rintro e w2 ⟨rfl, hb⟩
        have HB2 : Hid (Below w.heap.size w w2) := below_to HB1.out hb
        clear hb
        go_wp2_with fail
        refine (CS.out _).mono ?_
        rintro e w3 ⟨rfl, hb⟩
        have HB3 : Hid (Below w.heap.size w w3) := below_to HB2.out hb
        clear hb
        go_wp2_with fail
        refine (R1.out _ (HT.out.below HB3.out)).mono ?_
        rintro e w4 ⟨v1, rfl, hrow1, hb⟩
        have HB4 : Hid (Below w.heap.size w w4) := below_to HB3.out hb
        clear hb hrow1
        go_wp2_with fail
        refine (R2.out _ (HT.out.below HB4.out)).mono ?_
        rintro e w5 ⟨v2, rfl, hrow2, hb⟩
        have HB5 : Hid (Below w.heap.size w w5) := below_to HB4.out hb
        clear hb hrow2
        go_wp2
        go_ret
        exact ⟨rfl, HB5.out⟩
      · have hgt : (k : Int) > (n : Int) := by omega
        have hkn' : ((k : Int) == (n : Int)) = false := by rw [beq_eq_false_iff_ne]; omega
        go_wp2_with fail
        refine (CI.out _ (HT.out.below HB1.out)).mono ?_
        rintro e w2 ⟨rfl, hb⟩
        have HB2 : Hid (Below w.heap.size w w2) := below_to HB1.out hb
        clear hb
        go_wp2_with fail
        refine (CS.out _).mono ?_
        rintro e w3 ⟨rfl, hb⟩
        have HB3 : Hid (Below w.heap.size w w3) := below_to HB2.out hb
        clear hb
        go_wp2_with fail
        refine (R1.out _ (HT.out.below HB3.out)).mono ?_
        rintro e w4 ⟨v1, rfl, hrow1, hb⟩
        have HB4 : Hid (Below w.heap.size w w4) := below_to HB3.out hb
        clear hb hrow1
        go_wp2_with fail
        refine (R2.out _ (HT.out.below HB4.out)).mono ?_
        rintro e w5 ⟨v2, rfl, hrow2, hb⟩
        have HB5 : Hid (Below w.heap.size w w5) := below_to HB4.out hb
        clear hb hrow2
        go_wp2
        go_ret
        exact ⟨rfl, HB5.out⟩

end Go.Proofs.YtmafkelegjjnfadDoor
