/- DERIVED. The walk of the method 'ok': a statement that leaves its order open. -/
import Derived.Test.YtahhjhhnjpbocacWalks
import Derived.Deep.QuietTactic
import Derived.BigQuiet
namespace Go.Proofs.Ytahhjhhnjpbocac
open Go.RowKit

theorem len_toList (s : ByteArray) : s.toList.length = s.size := by
  rw [ByteArray.toList_eq]; simp

theorem lead_yes (s : ByteArray) (w : World) (hs : s.size ≤ maxLen) (h : lowAll s.data.toList = true) :
    Calls Try.prog 29 #[.string s, .func (.func 30) #[] #[]] w fun e w' => e = .returned (.string s) ∧ w' = w := by
  refine (lead_any s w hs).mono ?_
  rintro e w' ⟨rfl, rfl⟩
  rw [lead_all _ h]
  simp

theorem lead_no (s : ByteArray) (w : World) (r : ByteArray) (hs : s.size ≤ maxLen) (hr : r = s.extract 0 (lead s.data.toList)) :
    Calls Try.prog 29 #[.string s, .func (.func 30) #[] #[]] w fun e w' => e = .returned (.string r) ∧ w' = w := by
  subst hr
  exact lead_any s w hs

theorem lead_ne (s : ByteArray) (h : lowAll s.data.toList = false) : ((s.extract 0 (lead s.data.toList)).toList == s.toList) = false := by
  have := lead_lt _ h
  rw [beq_eq_false_iff_ne]
  intro e
  have e2 := congrArg List.length e
  have e3 : (s.extract 0 (lead s.data.toList)).size = s.size := by rw [len_toList, len_toList] at e2; exact e2
  have e4 : s.data.toList.length = s.size := by simp
  rw [ByteArray.size_extract] at e3
  omega

set_option maxHeartbeats 400000 in
theorem ok_any (s : ByteArray) (n : Int) (w : World) (hs : s.size ≤ maxLen) :
    Calls Try.prog 17 #[.agg #[.string s, .int .i64 n]] w fun e w' => e = .returned (.bool (okB s n)) ∧ ∃ nq, w' = (w.alloc (.cells #[.string s, .int .i64 n] 29)).drewN nq := by
  by_cases h0 : s.toList.isEmpty = true
  · have e0 : s.size = 0 := by rw [← len_toList]; simpa using h0
    go_enter Try.func17, Try.ntmps17
    go_wp2
    go_quiet ((go_at_call 29; exact Calls.quiet_of_same (lead_any _ _ hs)))
    go_wp2
    go_ret
    exact ⟨by simp [okB, inB, e0], nq, rfl⟩
  · have h0' : s.toList.isEmpty = false := by simpa using h0
    clear h0
    by_cases h6 : (s.size : Int) ≤ 6
    · have d6 : decide ((s.size : Int) ≤ 6) = true := by simpa using h6
      cases hl : lowAll s.data.toList
      · have hne := lead_ne s hl
        have HL : Hid (lowAll s.data.toList = false) := hl
        clear hl
        obtain ⟨r, hr⟩ : ∃ r, r = s.extract 0 (lead s.data.toList) := ⟨_, rfl⟩
        rw [← hr] at hne
        have HR : Hid (r = s.extract 0 (lead s.data.toList)) := hr
        clear hr
        go_enter Try.func17, Try.ntmps17
        go_wp2
        go_quiet ((go_at_call 29; exact Calls.quiet_of_same (lead_no _ _ r hs HR.out)))
        go_wp2
        go_ret
        refine ⟨?_, nq, rfl⟩
        simp [okB, HL.out]
      · have HL : Hid (lowAll s.data.toList = true) := hl
        clear hl
        have hsz : (1 : Int) ≤ s.size := by
          have : s.size ≠ 0 := by intro e; rw [← len_toList] at e; simp at e; simp [e] at h0'
          omega
        have HI : Hid (inB s.size 1 6 = true) := by show inB _ _ _ = true; simp [inB]; omega
        by_cases hn : 0 ≤ n
        · have dn : decide (0 ≤ n) = true := by simpa using hn
          go_enter Try.func17, Try.ntmps17
          go_wp2
          go_quiet ((go_at_call 29; exact Calls.quiet_of_same (lead_yes _ _ hs HL.out)))
          go_wp2
          go_ret
          refine ⟨?_, nq, rfl⟩
          simp [okB, HL.out, HI.out]; simp [inB, hn]
        · have dn : decide (0 ≤ n) = false := by simpa using hn
          go_enter Try.func17, Try.ntmps17
          go_wp2
          go_quiet ((go_at_call 29; exact Calls.quiet_of_same (lead_yes _ _ hs HL.out)))
          go_wp2
          go_ret
          refine ⟨?_, nq, rfl⟩
          simp [okB, HL.out, HI.out]; simp [inB]; omega
    · have d6 : decide ((s.size : Int) ≤ 6) = false := by simpa using h6
      go_enter Try.func17, Try.ntmps17
      go_wp2
      go_quiet ((go_at_call 29; exact Calls.quiet_of_same (lead_any _ _ hs)))
      go_wp2
      go_ret
      refine ⟨?_, nq, rfl⟩
      simp [okB, inB]; omega

theorem hid {p : Prop} (h : p) : Hid p := h

theorem bcell {W w1 : World} (hb : Below W.heap.size W w1) : (∀ b o, b < W.heap.size → w1.cell? ⟨b, o, none⟩ = W.cell? ⟨b, o, none⟩) ∧ (∀ b o, b < W.heap.size → w1.frozen? ⟨b, o, none⟩ = W.frozen? ⟨b, o, none⟩) :=
  ⟨fun b o h => hb.cell (p := ⟨b, o, none⟩) h, fun b o h => hb.frozen (p := ⟨b, o, none⟩) h⟩

theorem ok_below (s : ByteArray) (n : Int) (w : World) (hs : s.size ≤ maxLen) :
    Calls Try.prog 17 #[.agg #[.string s, .int .i64 n]] w fun e w' => e = .returned (.bool (okB s n)) ∧ Below w.heap.size w w' := by
  refine (ok_any s n w hs).mono ?_
  rintro e w' ⟨rfl, nq, rfl⟩
  exact ⟨rfl, below_drewN ((Below.refl _ _).alloc (Nat.le_refl _) _) _⟩

theorem l1Ok_below (s : ByteArray) (n : Int) (w : World) (hs : s.size ≤ maxLen) :
    Calls Try.prog 28 #[.agg #[.string s, .int .i64 n]] w fun e w' => e = .returned (.bool (okB s n)) ∧ Below w.heap.size w w' := by
  refine (l1Ok_any s n w hs).mono ?_
  rintro e w' ⟨rfl, rfl⟩
  exact ⟨rfl, (Below.refl _ _).alloc (Nat.le_refl _) _⟩

end Go.Proofs.Ytahhjhhnjpbocac
