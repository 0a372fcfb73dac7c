/- DERIVED. The walks of reading one record: the model's. -/
import Derived.Test.YtmafkelegjjnfacDoorLogOne
import Derived.Test.YtmafkelegjjnfacDoorLogWalks
import Derived.Test.YtmafkelegjjnfacDoorCutSpec
import Derived.Test.YtmafkelegjjnfacDoorNumWalks
import Derived.Test.YtmafkelegjjnfacDoorNumImpl
import Derived.Deep.QuietTactic
import Derived.BigQuiet
namespace Go.Proofs.YtmafkelegjjnfacDoor
open Go.RowKit

/-- What reading one record answers. -/
def OneOut (s x : ByteArray) (m : Int) : Prop := (oneR s = none ∧ x = ⟨#[]⟩ ∧ m = 0) ∨ ∃ r, oneR s = some r ∧ x = r ∧ m = ((putR r).size : Int)

theorem oneL_no (a b : List UInt8) (h : ¬ (1 ≤ numOf a ∧ numOf a < b.length ∧ b[(numOf a).toNat]? = some 59 ∧ recOk (mkB (b.take (numOf a).toNat)) = true)) : oneL a b = none := if_neg h

theorem mkB_ext (b : List UInt8) (k : Nat) : (mkB b).extract 0 k = mkB (b.take k) := by
  rw [← mkB_extract]
  simp [mkB_list]

theorem mkB_at (b : List UInt8) (k : Nat) (h : k < (mkB b).size) : b[k]? = some (mkB b)[k] := by
  have hb : b.length = (mkB b).size := (mkB_size b).symm
  rw [List.getElem?_eq_getElem (by omega)]
  simp [mkB, ByteArray.getElem_eq_getElem_data]

set_option maxRecDepth 100000 in
set_option maxHeartbeats 1600000 in
theorem l10One_any (s : ByteArray) (w : World) (hs : s.size ≤ 6000) :
    Calls Tryd.prog 13 #[.string s] w fun e w' => (∃ x m, e = .returned (.tuple #[.string x, .int .i64 m]) ∧ Hid (OneOut s x m)) ∧ Below w.heap.size w w' := by
  have hsm : s.size ≤ maxLen := by unfold maxLen; omega
  rcases first_at 58 s.data.toList with hmiss | ⟨a, b, hsl, ha⟩
  · have HM : Hid (oneR s = none) := oneR_miss hmiss
    have hR := cut_none 58 1 [] s.data.toList hmiss
    rw [List.nil_append] at hR
    have CC := cut_spec s 58 58 1 w hsm rfl (by decide)
    rw [hR] at CC
    have HCC := hid CC
    clear CC hR hmiss
    go_enter Tryd.func13, Tryd.ntmps13
    go_wp2_with fail
    refine HCC.out.mono ?_
    rintro e w1 ⟨v, rfl, hrow, hb⟩
    have HB := hid hb
    obtain ⟨g, cp, rfl, _, hgw, _, hcpm, hcells⟩ := srow_cells hrow (by simp)
    have c0 : w1.cell? ⟨g, 0, none⟩ = some (.string s) := by
      have := hcells 0 (strV s.data.toList) (by simp)
      rw [this, strV, mkB_data]
    have hlen : [s.data.toList].length = 1 := rfl
    rw [hlen]
    clear hb hrow hcells HCC hlen
    go_wp2_with (go_at_call 18; refine (l1Num_any _ _ hsm).mono ?_; rintro e w' ⟨rfl, rfl⟩)
    go_ret2
    exact ⟨⟨⟨#[]⟩, 0, rfl, hid (Or.inl ⟨HM.out, rfl, rfl⟩)⟩, HB.out⟩
  · have HL : Hid (oneR s = oneL a b) := oneR_hit hsl ha
    have hR : cutL 58 1 [] s.data.toList = [a, b] := by
      rw [hsl, cut_at 58 0 [] a b ha, cut_zero]
      simp
    have CC := cut_spec s 58 58 1 w hsm rfl (by decide)
    rw [hR] at CC
    have HCC := hid CC
    have hsz : a.length + b.length + 1 = s.size := by
      have := congrArg List.length hsl
      simp at this
      omega
    obtain ⟨N, hN⟩ : ∃ N, N = numOf a := ⟨_, rfl⟩
    have hbd := numOf_bd a
    have hA := mkB_size a
    have hBs := mkB_size b
    have CN : Hid (∀ w, Calls Tryd.prog 18 #[.string (mkB a)] w fun e w' => e = .returned (.int .i64 N) ∧ w' = w) := fun w => by
      have := l1Num_any (mkB a) w (by unfold maxLen; omega)
      rw [mkB_list, ← hN] at this
      exact this
    obtain ⟨A, hAe⟩ : ∃ A, A = mkB a := ⟨_, rfl⟩
    obtain ⟨B, hBe⟩ : ∃ B, B = mkB b := ⟨_, rfl⟩
    have h2 : Hid (∀ w v, World.ownsRow w (w.heap.size) 0 0 v 0 [] → True) := fun _ _ _ => trivial
    rw [← hN] at hbd
    rw [← hAe] at hA CN
    rw [← hBe] at hBs
    have hAI : A.size ≤ 6000 := by omega
    have hBI : B.size ≤ 6000 := by omega
    have HA := hid hA
    have HBS := hid hBs
    have HN := hid hN
    have HBE := hid hBe
    have HAE := hid hAe
    clear CC hR ha hsl hN h2 hA hBs
    have hlen : [a, b].length = 2 := rfl
    -- the end at which nothing was read
    have NO : Hid (¬ (1 ≤ N ∧ N < b.length ∧ b[N.toNat]? = some 59 ∧ recOk (mkB (b.take N.toNat)) = true) → OneOut s ⟨#[]⟩ 0) := fun h => Or.inl ⟨by rw [HL.out]; exact oneL_no a b (by rw [← HN.out]; exact h), rfl, rfl⟩
    go_enter Tryd.func13, Tryd.ntmps13
    go_wp2_with fail
    refine HCC.out.mono ?_
    rintro e w1 ⟨v, rfl, hrow, hb⟩
    have HB := hid hb
    obtain ⟨g, cp, rfl, _, hgw, _, hcpm, hcells⟩ := srow_cells hrow (by simp)
    have c0 : w1.cell? ⟨g, 0, none⟩ = some (.string A) := by rw [hcells 0 (strV a) (by simp), hAe]; rfl
    have c1 : w1.cell? ⟨g, 1, none⟩ = some (.string B) := by rw [hcells 1 (strV b) (by simp), hBe]; rfl
    rw [hlen]
    clear hb hrow hcells HCC hlen hAe hBe
    by_cases h1 : N < 1
    · have d1 : decide (N < 1) = true := by simpa using h1
      go_wp2_with (go_at_call 18; refine (CN.out _).mono ?_; rintro e w' ⟨rfl, rfl⟩)
      go_ret2
      exact ⟨⟨⟨#[]⟩, 0, rfl, hid (NO.out (fun h => by omega))⟩, HB.out⟩
    obtain ⟨k, rfl⟩ : ∃ k : Nat, N = (k : Int) := ⟨N.toNat, by omega⟩
    have d1 : decide ((k : Int) < 1) = false := by simpa using h1
    by_cases h3 : (B.size : Int) ≤ (k : Int)
    · have d3 : decide (B.size ≤ k) = true := by simpa using h3
      have HS3 := hid h3
      go_wp2_with (go_at_call 18; refine (CN.out _).mono ?_; rintro e w' ⟨rfl, rfl⟩)
      go_ret2
      exact ⟨⟨⟨#[]⟩, 0, rfl, hid (NO.out (fun h => by have := HBS.out; have := HS3.out; omega))⟩, HB.out⟩
    have d3 : decide (B.size ≤ k) = false := by simpa using h3
    have hkb : k < B.size := by omega
    have hkI : (k : Int) < (B.size : Int) := by omega
    have HBK : Hid (b[k]? = some B[k]) := by
      have := mkB_at b k (by rw [← HBE.out]; exact hkb)
      show _ = _
      rw [this]
      congr 1
      simp [HBE.out]
    have HEX : Hid (B.extract 0 k = mkB (b.take k)) := by show _ = _; rw [HBE.out, mkB_ext]
    by_cases h5 : B[k] = 59
    · have e5 : ((B[k].toNat : Int) != 59) = false := by rw [h5]; rfl
      have H5 := hid h5
      clear h5
      have hkle : k ≤ B.size := by omega
      cases hrec : recOk (B.extract 0 k)
      · have HRC := hid hrec
        have CR : Hid (∀ w, Calls Tryd.prog 19 #[.string (B.extract 0 k)] w fun e w' => e = .returned (.bool false) ∧ w' = w) := fun w => by
          have := recordOk_any (B.extract 0 k) w (by rw [ByteArray.size_extract]; unfold maxLen; omega)
          rw [hrec] at this; exact this
        clear hrec
        go_wp2_with (first
          | (go_at_call 18; refine (CN.out _).mono ?_; rintro e w' ⟨rfl, rfl⟩)
          | (go_at_call 19; refine (CR.out _).mono ?_; rintro e w' ⟨rfl, rfl⟩))
        go_ret2
        refine ⟨⟨⟨#[]⟩, 0, rfl, hid (NO.out (fun h => ?_))⟩, HB.out⟩
        have e := h.2.2.2
        rw [show ((k : Nat) : Int).toNat = k from rfl, ← HEX.out, HRC.out] at e
        cases e
      · have HRC := hid hrec
        have CR : Hid (∀ w, Calls Tryd.prog 19 #[.string (B.extract 0 k)] w fun e w' => e = .returned (.bool true) ∧ w' = w) := fun w => by
          have := recordOk_any (B.extract 0 k) w (by rw [ByteArray.size_extract]; unfold maxLen; omega)
          rw [hrec] at this; exact this
        have HO : Hid (OneOut s (B.extract 0 k) ((A.size : Int) + (k : Int) + 2)) := by
          refine Or.inr ⟨B.extract 0 k, ?_, rfl, ?_⟩
          · rw [HL.out]
            unfold oneL
            rw [← HN.out, show ((k : Nat) : Int).toNat = k from rfl, if_pos ⟨by omega, by have := HBS.out; omega, by rw [HBK.out, H5.out], by rw [← HEX.out]; exact HRC.out⟩, HEX.out]
          · rw [putR_size]
            have e1 : (B.extract 0 k).size = k := by rw [ByteArray.size_extract]; omega
            have e2 : decS k = A := by
              have := dec_numOf a (isNum_of (by rw [← HN.out]; omega))
              rw [← HN.out, show ((k : Nat) : Int).toNat = k from rfl] at this
              rw [HAE.out, ← this]; rfl
            rw [e1, e2]
            omega
        clear hrec
        go_wp2_with (first
          | (go_at_call 18; refine (CN.out _).mono ?_; rintro e w' ⟨rfl, rfl⟩)
          | (go_at_call 19; refine (CR.out _).mono ?_; rintro e w' ⟨rfl, rfl⟩))
        go_quiet (fail)
        go_wp2
        go_ret2
        exact ⟨⟨_, _, rfl, HO⟩, below_drewN HB.out _⟩
    · have e5 : ((B[k].toNat : Int) != 59) = true := by
        rw [bne_iff_ne]
        intro e
        exact h5 (UInt8.toNat_inj.mp (by have : (59 : UInt8).toNat = 59 := rfl; omega))
      have H5 := hid h5
      clear h5
      go_wp2_with (go_at_call 18; refine (CN.out _).mono ?_; rintro e w' ⟨rfl, rfl⟩)
      go_ret2
      refine ⟨⟨⟨#[]⟩, 0, rfl, hid (NO.out (fun h => ?_))⟩, HB.out⟩
      have e := h.2.2.1
      rw [show ((k : Nat) : Int).toNat = k from rfl, HBK.out] at e
      injection e with e
      exact H5.out e

end Go.Proofs.YtmafkelegjjnfacDoor
