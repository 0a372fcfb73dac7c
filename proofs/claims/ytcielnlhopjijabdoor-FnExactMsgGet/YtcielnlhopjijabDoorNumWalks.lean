/- DERIVED. The walks over numbers in a text: the program's and the model's. -/
import Derived.Test.YtcielnlhopjijabDoorOk
import Derived.Test.YtcielnlhopjijabDoorNumPlain
namespace Go.Proofs.YtcielnlhopjijabDoor
open Go.RowKit

set_option maxHeartbeats 400000 in
theorem figure_any (c : Int) (w : World) :
    Calls Tryd.prog 66 #[.int .u8 c] w fun e w' => e = .returned (.bool (figB c)) ∧ w' = w := by
  unfold figB
  by_cases h : 48 ≤ c
  all_goals
    go_enter Tryd.func66, Tryd.ntmps66
    go_wp2
    go_ret
    refine ⟨?_, rfl⟩
    first | (simp [h]; done) | (simp; omega)

set_option maxHeartbeats 400000 in
theorem leadF_any (s : ByteArray) (w : World) (hs : s.size ≤ maxLen) :
    Calls Tryd.prog 74 #[.string s, .func (.func 66) #[] #[]] w fun e w' => e = .returned (.string (s.extract 0 (leadF s.data.toList))) ∧ w' = w := by
  unfold maxLen at hs
  go_enter Tryd.func74, Tryd.ntmps74
  go_wp2
  go_loop [8] (fun i => ∃ k : Nat, k ≤ s.size ∧ i = .int .i64 k ∧ figAll (s.data.toList.take k) = true) (fun i => s.size - (intOf i).toNat)
  case atStart => exact ⟨0, Nat.zero_le _, rfl, rfl⟩
  case round =>
    obtain ⟨k, hk, rfl, hl⟩ := hrel
    have HL : Hid (figAll (s.data.toList.take k) = true) := hl
    clear hl
    by_cases hlt : k < s.size
    · have HS : Hid (figAll (s.data.toList.take (k + 1)) = (figAll (s.data.toList.take k) && figB (s[k].toNat : Int))) := figAll_snoc s k hlt
      cases hc : figB (s[k].toNat : Int)
      · go_wp2_with (go_at_call 66; refine (figure_any _ _).mono ?_; rintro e w' ⟨rfl, rfl⟩)
        go_ret
        refine ⟨?_, rfl⟩
        rw [leadF_none s.data.toList k (by simpa using hlt) HL.out (by exact hc)]
        rfl
      · go_wp2_with (go_at_call 66; refine (figure_any _ _).mono ?_; rintro e w' ⟨rfl, rfl⟩)
        go_round
        case rel => exact ⟨k + 1, by omega, by go_num, by rw [HS.out, HL.out, hc]; rfl⟩
        case measure => simp [intOf]; omega
    · go_wp2
      go_ret
      refine ⟨?_, rfl⟩
      have e1 := HL.out
      rw [lowAll_whole s k (by omega)] at e1
      rw [leadF_all _ e1]
      simp

theorem leadF_yes (s : ByteArray) (w : World) (hs : s.size ≤ maxLen) (h : figAll s.data.toList = true) :
    Calls Tryd.prog 74 #[.string s, .func (.func 66) #[] #[]] w fun e w' => e = .returned (.string s) ∧ w' = w := by
  refine (leadF_any s w hs).mono ?_
  rintro e w' ⟨rfl, rfl⟩
  rw [leadF_all _ h]
  simp

theorem leadF_no (s : ByteArray) (w : World) (r : ByteArray) (hs : s.size ≤ maxLen) (hr : r = s.extract 0 (leadF s.data.toList)) :
    Calls Tryd.prog 74 #[.string s, .func (.func 66) #[] #[]] w fun e w' => e = .returned (.string r) ∧ w' = w := by
  subst hr
  exact leadF_any s w hs

theorem leadF_ne (s : ByteArray) (h : figAll s.data.toList = false) : ((s.extract 0 (leadF s.data.toList)).toList == s.toList) = false := by
  have := leadF_lt _ h
  rw [beq_eq_false_iff_ne]
  intro e
  have e2 := congrArg List.length e
  have e3 : (s.extract 0 (leadF s.data.toList)).size = s.size := by rw [len_toList, len_toList] at e2; exact e2
  have e4 : s.data.toList.length = s.size := by simp
  rw [ByteArray.size_extract] at e3
  omega

set_option maxHeartbeats 400000 in
theorem l1Num_any (s : ByteArray) (w : World) (hs : s.size ≤ maxLen) :
    Calls Tryd.prog 21 #[.string s] w fun e w' => e = .returned (.int .i64 (numOf s.data.toList)) ∧ w' = w := by
  unfold maxLen at hs
  have hlen : s.data.toList.length = s.size := by simp
  go_enter Tryd.func21, Tryd.ntmps21
  go_wp2
  go_loop [3, 4] (fun n i => ∃ k : Nat, k ≤ s.size ∧ k ≤ 6 ∧ i = .int .i64 k ∧ figAll (s.data.toList.take k) = true ∧ n = .int .i64 (numVal (s.data.toList.take k))) (fun _ i => s.size - (intOf i).toNat)
  case atStart => exact ⟨0, Nat.zero_le _, by decide, rfl, rfl, rfl⟩
  case round =>
    obtain ⟨k, hk, hk6, rfl, hl, rfl⟩ := hrel
    have hbd := numVal_bd _ hl (by rw [List.length_take]; omega)
    have HL : Hid (figAll (s.data.toList.take k) = true) := hl
    clear hl
    have HLEN : Hid (s.data.toList.length = s.size) := hlen
    clear hlen
    by_cases hlt : k < s.size
    · have HS : Hid (figAll (s.data.toList.take (k + 1)) = (figAll (s.data.toList.take k) && figB (s[k].toNat : Int))) := figAll_snoc s k hlt
      have HV : Hid (numVal (s.data.toList.take (k + 1)) = numVal (s.data.toList.take k) * 10 + ((s[k].toNat : Int) - 48)) := numVal_snoc s k hlt
      have bad : figB (s[k].toNat : Int) = false → numOf s.data.toList = -1 := fun h => numOf_no _ (isNum_fig _ (figAll_take_false s (k + 1) (by rw [HS.out, h]; simp)))
      have BAD := hid bad
      clear bad
      by_cases h48 : (s[k].toNat : Int) < 48
      · go_wp2
        go_ret
        exact ⟨by rw [BAD.out (by simp [figB]; omega)]; rfl, rfl⟩
      · by_cases h57 : 57 < (s[k].toNat : Int)
        · go_wp2
          go_ret
          exact ⟨by rw [BAD.out (by simp [figB]; omega)]; rfl, rfl⟩
        · by_cases h6 : 6 ≤ (k : Int)
          · go_wp2
            go_ret
            exact ⟨by rw [numOf_no _ (isNum_long _ (by rw [HLEN.out]; omega))]; rfl, rfl⟩
          · go_wp2
            go_round
            case rel => exact ⟨k + 1, by omega, by omega, by go_num, by rw [HS.out, HL.out]; simp [figB]; omega, by rw [HV.out]⟩
            case measure => simp [intOf]; omega
    · have HE : Hid (figAll s.data.toList = true) := by have e1 := HL.out; rw [lowAll_whole s k (by omega)] at e1; exact e1
      have HT : Hid (s.data.toList.take k = s.data.toList) := lowAll_whole s k (by omega)
      by_cases hz : s.size = 0
      · have e : s = ByteArray.empty := by simpa using hz
        subst e
        go_wp2
        go_ret
        exact ⟨rfl, rfl⟩
      · have hz' : ((s.size : Int) == 0) = false := by simpa using hz
        have h0 : 0 < s.size := by omega
        have HZ := hid hz
        clear hz
        by_cases h1 : 1 < (s.size : Int)
        · cases h48 : ((s[0].toNat : Int) == 48)
          · have HG : Hid (numOf s.data.toList = numVal (s.data.toList.take k)) := by
              show _ = _
              rw [HT.out, numOf, if_pos (isNum_good s HZ.out (by omega) HE.out (Or.inr (by intro c; rw [c] at h48; simp at h48)))]
            go_wp2
            go_ret
            exact ⟨by rw [HG.out]; rfl, rfl⟩
          · go_wp2
            go_ret
            exact ⟨by rw [numOf_no _ (isNum_nought s (by omega) (by simp at h48; omega))]; rfl, rfl⟩
        · have HG : Hid (numOf s.data.toList = numVal (s.data.toList.take k)) := by
            show _ = _
            rw [HT.out, numOf, if_pos (isNum_good s HZ.out (by omega) HE.out (Or.inl (by omega)))]
          go_wp2
          go_ret
          exact ⟨by rw [HG.out]; rfl, rfl⟩

end Go.Proofs.YtcielnlhopjijabDoor
