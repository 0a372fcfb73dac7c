/- DERIVED. The walks over numbers in a text: the program's and the model's. -/
import Derived.Test.YtplbfllhimcpiaaGreatDoorOk
import Derived.Test.YtplbfllhimcpiaaGreatDoorNumPlain
namespace Go.Proofs.YtplbfllhimcpiaaGreatDoor
open Go.RowKit

set_option maxHeartbeats 400000 in
theorem figure_any (c : Int) (w : World) :
    Calls Tryz.prog 136 #[.int .u8 c] w fun e w' => e = .returned (.bool (figB c)) ∧ w' = w := by
  unfold figB
  by_cases h : 48 ≤ c
  all_goals
    go_enter Tryz.func136, Tryz.ntmps136
    go_wp2
    go_ret
    refine ⟨?_, rfl⟩
    first | (simp [h]; done) | (simp; omega)

set_option maxHeartbeats 400000 in
theorem leadF_any (s : ByteArray) (w : World) (hs : s.size ≤ maxLen) :
    Calls Tryz.prog 140 #[.string s, .func (.func 136) #[] #[]] w fun e w' => e = .returned (.string (s.extract 0 (leadF s.data.toList))) ∧ w' = w := by
  unfold maxLen at hs
  go_enter Tryz.func140, Tryz.ntmps140
  go_wp2
  go_loop [8] (fun i => ∃ k : Nat, k ≤ s.size ∧ i = .int .i64 k ∧ figAll (s.data.toList.take k) = true) (fun i => s.size - (intOf i).toNat)
  case atStart => exact ⟨0, Nat.zero_le _, rfl, rfl⟩
  case round =>
    obtain ⟨k, hk, rfl, hl⟩ := hrel
    have HL : Hid (figAll (s.data.toList.take k) = true) := hl
    clear hl
    by_cases hlt : k < s.size
    · have HS : Hid (figAll (s.data.toList.take (k + 1)) = (figAll (s.data.toList.take k) && figB (s[k].toNat : Int))) := figAll_snoc s k hlt
      cases hc : figB (s[k].toNat : Int)
      · go_wp2_with (go_at_call 136; refine (figure_any _ _).mono ?_; rintro e w' ⟨rfl, rfl⟩)
        go_ret
        refine ⟨?_, rfl⟩
        rw [leadF_none s.data.toList k (by simpa using hlt) HL.out (by exact hc)]
        rfl
      · go_wp2_with (go_at_call 136; refine (figure_any _ _).mono ?_; rintro e w' ⟨rfl, rfl⟩)
        go_round
        case rel => exact ⟨k + 1, by omega, by go_num, by rw [HS.out, HL.out, hc]; rfl⟩
        case measure => simp [intOf]; omega
    · go_wp2
      go_ret
      refine ⟨?_, rfl⟩
      have e1 := HL.out
      rw [lowAll_whole s k (by omega)] at e1
      rw [leadF_all _ e1]
      simp

theorem leadF_yes (s : ByteArray) (w : World) (hs : s.size ≤ maxLen) (h : figAll s.data.toList = true) :
    Calls Tryz.prog 140 #[.string s, .func (.func 136) #[] #[]] w fun e w' => e = .returned (.string s) ∧ w' = w := by
  refine (leadF_any s w hs).mono ?_
  rintro e w' ⟨rfl, rfl⟩
  rw [leadF_all _ h]
  simp

theorem leadF_no (s : ByteArray) (w : World) (r : ByteArray) (hs : s.size ≤ maxLen) (hr : r = s.extract 0 (leadF s.data.toList)) :
    Calls Tryz.prog 140 #[.string s, .func (.func 136) #[] #[]] w fun e w' => e = .returned (.string r) ∧ w' = w := by
  subst hr
  exact leadF_any s w hs

theorem leadF_ne (s : ByteArray) (h : figAll s.data.toList = false) : ((s.extract 0 (leadF s.data.toList)).toList == s.toList) = false := by
  have := leadF_lt _ h
  rw [beq_eq_false_iff_ne]
  intro e
  have e2 := congrArg List.length e
  have e3 : (s.extract 0 (leadF s.data.toList)).size = s.size := by rw [len_toList, len_toList] at e2; exact e2
  have e4 : s.data.toList.length = s.size := by simp
  rw [ByteArray.size_extract] at e3
  omega

end Go.Proofs.YtplbfllhimcpiaaGreatDoor
