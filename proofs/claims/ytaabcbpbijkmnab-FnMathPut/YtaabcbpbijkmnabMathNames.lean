/- DERIVED. The walks over names and what they say: isNameByte, leading, NameOk, textOf, signedOf. -/
import Derived.Test.YtaabcbpbijkmnabMathPlain
import Derived.Test.YtaabcbpbijkmnabNumImpl
import Derived.Test.YtaabcbpbijkmnabRd
namespace Go.Proofs.Ytaabcbpbijkmnab
open Go.RowKit

set_option maxHeartbeats 800000 in
theorem nameByte_any (c : Int) (w : World) :
    Calls Try.prog 52 #[.int .u8 c] w fun e w' => e = .returned (.bool (nameB c)) ∧ w' = w := by
  have CS : Hid (∀ W, Calls Try.prog 57 #[.int .u8 c] W fun e w' => e = .returned (.bool (lowB c)) ∧ w' = W) := fun W => small_any c W
  have CF : Hid (∀ W, Calls Try.prog 58 #[.int .u8 c] W fun e w' => e = .returned (.bool (figB c)) ∧ w' = W) := fun W => figure_any c W
  unfold nameB
  cases h1 : lowB c
  · rw [h1] at CS
    by_cases h2 : (65 : Int) ≤ c ∧ c ≤ 90
    · obtain ⟨h2a, h2b⟩ := h2
      rw [decide_eq_true h2a, decide_eq_true h2b]
      go_enter Try.func52, Try.ntmps52
      go_wp2_with fail
      refine (CS.out _).mono ?_
      rintro e w1 ⟨rfl, rfl⟩
      go_wp2
      go_ret
      exact ⟨rfl, rfl⟩
    · have h2' : (decide ((65 : Int) ≤ c) && decide (c ≤ 90)) = false := by
        cases hx : (decide ((65 : Int) ≤ c) && decide (c ≤ 90))
        · rfl
        · rw [Bool.and_eq_true, decide_eq_true_eq, decide_eq_true_eq] at hx; exact absurd hx h2
      rw [h2']
      cases h3 : figB c
      · rw [h3] at CF
        by_cases h4 : c = 95
        · have h4' : (c == 95) = true := by rw [beq_iff_eq]; exact h4
          rw [decide_eq_true h4]
          by_cases h5 : (65 : Int) ≤ c
          · have h6 : ¬ c ≤ 90 := fun h => h2 ⟨h5, h⟩
            clear h4 h2
            go_enter Try.func52, Try.ntmps52
            go_wp2_with fail
            refine (CS.out _).mono ?_
            rintro e w1 ⟨rfl, rfl⟩
            go_wp2_with fail
            refine (CF.out _).mono ?_
            rintro e w1 ⟨rfl, rfl⟩
            go_wp2
            go_ret
            exact ⟨rfl, rfl⟩
          · omega
        · have h4' : (c == 95) = false := by rw [beq_eq_false_iff_ne]; exact h4
          rw [decide_eq_false h4]
          clear h4
          by_cases h5 : (65 : Int) ≤ c
          · have h6 : ¬ c ≤ 90 := fun h => h2 ⟨h5, h⟩
            clear h2
            go_enter Try.func52, Try.ntmps52
            go_wp2_with fail
            refine (CS.out _).mono ?_
            rintro e w1 ⟨rfl, rfl⟩
            go_wp2_with fail
            refine (CF.out _).mono ?_
            rintro e w1 ⟨rfl, rfl⟩
            go_wp2
            go_ret
            exact ⟨by rw [show decide (c ≤ 90) = false from decide_eq_false (by omega)]; rfl, rfl⟩
          · clear h2
            go_enter Try.func52, Try.ntmps52
            go_wp2_with fail
            refine (CS.out _).mono ?_
            rintro e w1 ⟨rfl, rfl⟩
            go_wp2_with fail
            refine (CF.out _).mono ?_
            rintro e w1 ⟨rfl, rfl⟩
            go_wp2
            go_ret
            exact ⟨rfl, rfl⟩
      · rw [h3] at CF
        by_cases h5 : (65 : Int) ≤ c
        · have h6 : ¬ c ≤ 90 := fun h => h2 ⟨h5, h⟩
          clear h2
          go_enter Try.func52, Try.ntmps52
          go_wp2_with fail
          refine (CS.out _).mono ?_
          rintro e w1 ⟨rfl, rfl⟩
          go_wp2_with fail
          refine (CF.out _).mono ?_
          rintro e w1 ⟨rfl, rfl⟩
          go_wp2
          go_ret
          exact ⟨rfl, rfl⟩
        · clear h2
          go_enter Try.func52, Try.ntmps52
          go_wp2_with fail
          refine (CS.out _).mono ?_
          rintro e w1 ⟨rfl, rfl⟩
          go_wp2_with fail
          refine (CF.out _).mono ?_
          rintro e w1 ⟨rfl, rfl⟩
          go_wp2
          go_ret
          exact ⟨rfl, rfl⟩
  · rw [h1] at CS
    go_enter Try.func52, Try.ntmps52
    go_wp2_with fail
    refine (CS.out _).mono ?_
    rintro e w1 ⟨rfl, rfl⟩
    go_wp2
    go_ret
    exact ⟨rfl, rfl⟩

set_option maxHeartbeats 400000 in
theorem leadN_any (s : ByteArray) (w : World) (hs : s.size ≤ maxLen) :
    Calls Try.prog 51 #[.string s, .func (.func 52) #[] #[]] w fun e w' => e = .returned (.string (s.extract 0 (leadN s.data.toList))) ∧ w' = w := by
  unfold maxLen at hs
  go_enter Try.func51, Try.ntmps51
  go_wp2
  go_loop [8] (fun i => ∃ k : Nat, k ≤ s.size ∧ i = .int .i64 k ∧ nameAll (s.data.toList.take k) = true) (fun i => s.size - (intOf i).toNat)
  case atStart => exact ⟨0, Nat.zero_le _, rfl, rfl⟩
  case round =>
    obtain ⟨k, hk, rfl, hl⟩ := hrel
    have HL : Hid (nameAll (s.data.toList.take k) = true) := hl
    clear hl
    by_cases hlt : k < s.size
    · have HS : Hid (nameAll (s.data.toList.take (k + 1)) = (nameAll (s.data.toList.take k) && nameB (s[k].toNat : Int))) := nameAll_snoc s k hlt
      cases hc : nameB (s[k].toNat : Int)
      · go_wp2_with (go_at_call 52; refine (nameByte_any _ _).mono ?_; rintro e w' ⟨rfl, rfl⟩)
        go_ret
        refine ⟨?_, rfl⟩
        rw [leadN_none s.data.toList k (by simpa using hlt) HL.out (by exact hc)]
        rfl
      · go_wp2_with (go_at_call 52; refine (nameByte_any _ _).mono ?_; rintro e w' ⟨rfl, rfl⟩)
        go_round
        case rel => exact ⟨k + 1, by omega, by go_num, by rw [HS.out, HL.out, hc]; rfl⟩
        case measure => simp [intOf]; omega
    · go_wp2
      go_ret
      refine ⟨?_, rfl⟩
      have e1 := HL.out
      rw [lowAll_whole s k (by omega)] at e1
      rw [leadN_all _ e1]
      simp

theorem leadN_lt (l : List UInt8) (h : nameAll l = false) : leadN l < l.length := by
  induction l with
  | nil => simp [nameAll] at h
  | cons c l ih =>
    rw [leadN]
    split
    · rename_i hc
      have : nameAll l = false := by
        cases hx : nameAll l
        · rfl
        · simp [nameAll, hc] at h; simp [nameAll] at hx
          obtain ⟨x, hx1, hx2⟩ := h
          have := hx x hx1; rw [hx2] at this; cases this
      have := ih this
      simp; exact this
    · simp

theorem leadN_ne (s : ByteArray) (h : nameAll s.data.toList = false) : ((s.extract 0 (leadN s.data.toList)).toList == s.toList) = false := by
  have hl := leadN_lt _ h
  rw [beq_eq_false_iff_ne]
  intro e
  have := congrArg List.length e
  rw [len_toList, len_toList] at this
  simp at this hl
  omega

set_option maxHeartbeats 800000 in
theorem nameOk_any (s : ByteArray) (w : World) (hs : s.size ≤ maxLen) :
    Calls Try.prog 54 #[.string s] w fun e w' => e = .returned (.bool (nameOkL s.data.toList)) ∧ w' = w := by
  have hlen : s.data.toList.length = s.size := by simp
  by_cases h0 : s.size = 0
  · have e0 : s = ⟨#[]⟩ := by
      cases s with | mk d => simp at h0; rw [h0]; rfl
    subst e0
    go_enter Try.func54, Try.ntmps54
    go_wp2
    go_ret
    exact ⟨rfl, rfl⟩
  · have h0' : s.toList.isEmpty = false := by
      cases hx : s.toList with
      | nil => have := len_toList s; rw [hx] at this; simp at this; omega
      | cons c l => rfl
    have hem : s.data.toList.isEmpty = false := by
      cases hx : s.data.toList with
      | nil => rw [hx] at hlen; simp at hlen; omega
      | cons c l => rfl
    have hlt0 : 0 < s.size := by omega
    have hhd : s.data.toList.headD 0 = s[0]'hlt0 := by
      have : s.data.toList = (s[0]'hlt0) :: s.data.toList.drop 1 := by
        have := restL_cons s 0 hlt0
        simpa [restL] using this
      rw [this]; rfl
    unfold nameOkL
    rw [hem, hlen, hhd]
    by_cases h6 : s.size ≤ 6
    · have h6' : ¬ (6 : Int) < (s.size : Int) := by omega
      have h6'' : (s.size : Int) ≤ 6 := by omega
      rw [decide_eq_true h6]
      cases hn : nameAll s.data.toList
      · have CL : Hid (∀ W, Calls Try.prog 51 #[.string s, .func (.func 52) #[] #[]] W fun e w' => e = .returned (.string (s.extract 0 (leadN s.data.toList))) ∧ w' = W) := fun W => leadN_any s W hs
        have hne := leadN_ne s hn
        obtain ⟨r, hr⟩ : ∃ r, r = s.extract 0 (leadN s.data.toList) := ⟨_, rfl⟩
        rw [← hr] at CL hne
        clear hr hem hhd hn hlen
        go_enter Try.func54, Try.ntmps54
        go_wp2_with fail
        refine (CL.out _).mono ?_
        rintro e w1 ⟨rfl, rfl⟩
        go_wp2
        go_ret
        exact ⟨rfl, rfl⟩
      · have CL : Hid (∀ W, Calls Try.prog 51 #[.string s, .func (.func 52) #[] #[]] W fun e w' => e = .returned (.string s) ∧ w' = W) := fun W => by
          have := leadN_any s W hs
          rw [leadN_all _ hn, hlen, extract_all] at this
          exact this
        have hee : (s.toList == s.toList) = true := by simp
        have CF : Hid (∀ W, Calls Try.prog 58 #[.int .u8 ((s[0]'hlt0).toNat : Int)] W fun e w' => e = .returned (.bool (figB ((s[0]'hlt0).toNat : Int))) ∧ w' = W) := fun W => figure_any _ W
        obtain ⟨f, hf⟩ : ∃ f, f = figB ((s[0]'hlt0).toNat : Int) := ⟨_, rfl⟩
        rw [← hf] at CF ⊢
        clear hem hhd hn hlen hf
        cases f
        · go_enter Try.func54, Try.ntmps54
          go_wp2_with fail
          refine (CL.out _).mono ?_
          rintro e w1 ⟨rfl, rfl⟩
          go_wp2_with fail
          refine (CF.out _).mono ?_
          rintro e w1 ⟨rfl, rfl⟩
          go_wp2
          go_ret
          exact ⟨rfl, rfl⟩
        · go_enter Try.func54, Try.ntmps54
          go_wp2_with fail
          refine (CL.out _).mono ?_
          rintro e w1 ⟨rfl, rfl⟩
          go_wp2_with fail
          refine (CF.out _).mono ?_
          rintro e w1 ⟨rfl, rfl⟩
          go_wp2
          go_ret
          exact ⟨rfl, rfl⟩
    · have h6' : (6 : Int) < (s.size : Int) := by omega
      have h6'' : ¬ (s.size : Int) ≤ 6 := by omega
      rw [decide_eq_false h6]
      clear hem hhd hlen
      go_enter Try.func54, Try.ntmps54
      go_wp2
      go_ret
      exact ⟨rfl, rfl⟩

end Go.Proofs.Ytaabcbpbijkmnab
