/- DERIVED. The walk of numberOf. -/
import Derived.Test.YtplbfllhimcpiaaGreatDoorNumWalks
namespace Go.Proofs.YtplbfllhimcpiaaGreatDoor
open Go.RowKit

theorem numberOf_set (l : List UInt8) (h : isNum l = false) : (if isNum l = true then numOf l else 0) = 0 := by rw [h]; rfl

set_option maxHeartbeats 600000 in
theorem number_no (s : ByteArray) (w : World) (hs : s.size ≤ maxLen) (h : isNum s.data.toList = false) :
    Calls Tryz.prog 131 #[.string s] w fun e w' => e = .returned (.tuple #[.int .i64 0, .bool false]) ∧ w' = w := by
  have hs' : s.size ≤ 2 ^ 63 - 1 := hs
  have hlen : s.data.toList.length = s.size := by simp
  by_cases h0 : s.toList.isEmpty = true
  · go_enter Tryz.func131, Tryz.ntmps131
    go_wp2
    go_ret2
    exact ⟨rfl, rfl⟩
  · have h0' : s.toList.isEmpty = false := by simpa using h0
    clear h0
    have hp : 0 < s.size := by
      have : s.size ≠ 0 := by intro e; rw [← len_toList] at e; simp at e; simp [e] at h0'
      omega
    by_cases h6 : 6 < (s.size : Int)
    · go_enter Tryz.func131, Tryz.ntmps131
      go_wp2
      go_ret2
      exact ⟨rfl, rfl⟩
    · cases hf : figAll s.data.toList
      · have hne := leadF_ne s hf
        obtain ⟨r, hr⟩ : ∃ r, r = s.extract 0 (leadF s.data.toList) := ⟨_, rfl⟩
        rw [← hr] at hne
        have HR : Hid (r = s.extract 0 (leadF s.data.toList)) := hr
        clear hr hf hlen h
        go_enter Tryz.func131, Tryz.ntmps131
        go_wp2_with (go_at_call 140; refine (leadF_no _ _ r hs HR.out).mono ?_; rintro e w' ⟨rfl, rfl⟩)
        go_ret2
        exact ⟨rfl, rfl⟩
      · have h48 : ((s[0].toNat : Int) == 48) = true ∧ 1 < (s.size : Int) := by
          rcases Classical.em (s.size ≤ 1 ∨ s[0].toNat ≠ 48) with g | g
          · rw [isNum_good s (by omega) (by omega) hf g] at h; cases h
          · simp only [not_or, Decidable.not_not] at g
            refine ⟨?_, by omega⟩
            rw [beq_iff_eq]; omega
        obtain ⟨h48, h1⟩ := h48
        have HF := hid hf
        clear hf hlen h
        go_enter Tryz.func131, Tryz.ntmps131
        go_wp2_with (go_at_call 140; refine (leadF_yes _ _ hs HF.out).mono ?_; rintro e w' ⟨rfl, rfl⟩)
        go_ret2
        exact ⟨rfl, rfl⟩

set_option maxHeartbeats 600000 in
theorem number_yes (s : ByteArray) (w : World) (h : isNum s.data.toList = true) :
    Calls Tryz.prog 131 #[.string s] w fun e w' => e = .returned (.tuple #[.int .i64 (numOf s.data.toList), .bool true]) ∧ w' = w := by
  have hlen : s.data.toList.length = s.size := by simp
  have hv : numOf s.data.toList = numVal s.data.toList := by unfold numOf; rw [if_pos h]
  rw [hv]
  have h6 : ¬ 6 < (s.size : Int) := by
    intro c; rw [isNum_long _ (by omega)] at h; cases h
  have hs : s.size ≤ maxLen := by unfold maxLen; omega
  have hp : 0 < s.size := by
    rcases Nat.eq_zero_or_pos s.size with e | e
    · have : s = ByteArray.empty := by simpa using e
      subst this; cases h
    · exact e
  have h0' : s.toList.isEmpty = false := by
    rw [List.isEmpty_eq_false_iff]; intro e; have e2 := len_toList s; rw [e] at e2; simp at e2; omega
  have hf : figAll s.data.toList = true := by
    cases hf : figAll s.data.toList
    · rw [isNum_fig _ hf] at h; cases h
    · rfl
  have HG : Hid (∀ k, k ≤ s.size → 0 ≤ numVal (s.data.toList.take k) ∧ numVal (s.data.toList.take k) ≤ 999999) := by
    intro k hk
    refine numVal_bd _ ?_ (by rw [List.length_take]; omega)
    cases hc : figAll (s.data.toList.take k)
    · rw [figAll_take_false s k hc] at hf; cases hf
    · rfl
  have HC : Hid (∀ k, (hk : k < s.size) → 48 ≤ (s[k].toNat : Int) ∧ (s[k].toNat : Int) ≤ 57) := by
    intro k hk
    have e := figAll_snoc s k hk
    have e2 : figAll (s.data.toList.take (k + 1)) = true := by
      cases hc : figAll (s.data.toList.take (k + 1))
      · rw [figAll_take_false s _ hc] at hf; cases hf
      · rfl
    rw [e2] at e
    have e3 : figB (s[k].toNat : Int) = true := by
      cases hc : figB (s[k].toNat : Int)
      · rw [hc] at e; simp at e
      · rfl
    simpa [figB] using e3
  have hnought : ((s[0].toNat : Int) == 48) = true → ¬ 1 < (s.size : Int) := by
    intro a b
    rw [isNum_nought s (by omega) (by simp at a; omega)] at h; cases h
  have HF := hid hf
  have HN := hid hnought
  clear hf hlen h hv hnought
  have rest : ∀ w, ((s[0].toNat : Int) == 48) = false ∨ ¬ 1 < (s.size : Int) → Calls Tryz.prog 131 #[.string s] w fun e w' => e = .returned (.tuple #[.int .i64 (numVal s.data.toList), .bool true]) ∧ w' = w := by
    intro w hh
    cases h48 : ((s[0].toNat : Int) == 48)
    all_goals
      first
      | (have h1 : ¬ 1 < (s.size : Int) := HN.out h48)
      | skip
      clear hh
      go_enter Tryz.func131, Tryz.ntmps131
      go_wp2_with (go_at_call 140; refine (leadF_yes _ _ hs HF.out).mono ?_; rintro e w' ⟨rfl, rfl⟩)
      go_loop [4, 31] (fun n i => ∃ k : Nat, k ≤ s.size ∧ i = .int .i64 k ∧ n = .int .i64 (numVal (s.data.toList.take k))) (fun _ i => s.size - (intOf i).toNat)
      case atStart => exact ⟨0, Nat.zero_le _, rfl, rfl⟩
      case round =>
        obtain ⟨k, hk, rfl, rfl⟩ := hrel
        have hbd := HG.out k hk
        by_cases hlt : k < s.size
        · have hcd := HC.out k hlt
          have HV : Hid (numVal (s.data.toList.take (k + 1)) = numVal (s.data.toList.take k) * 10 + ((s[k].toNat : Int) - 48)) := numVal_snoc s k hlt
          go_wp2
          go_round
          case rel => exact ⟨k + 1, by omega, by go_num, by rw [HV.out]⟩
          case measure => simp [intOf]; omega
        · have HT : Hid (s.data.toList.take k = s.data.toList) := lowAll_whole s k (by omega)
          go_wp2
          go_ret2
          exact ⟨by rw [show numVal s.data.toList = numVal (s.data.toList.take k) by rw [HT.out]]; rfl, rfl⟩
  refine rest w ?_
  cases h48 : ((s[0].toNat : Int) == 48)
  · exact Or.inl rfl
  · exact Or.inr (HN.out h48)

end Go.Proofs.YtplbfllhimcpiaaGreatDoor
