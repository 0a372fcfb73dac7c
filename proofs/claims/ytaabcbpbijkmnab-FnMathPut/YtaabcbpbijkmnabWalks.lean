/- DERIVED. The walks: each function on the road of the law, by a contract of its own. -/
import Derived.Test.YtaabcbpbijkmnabRows
import Derived.Test.YtaabcbpbijkmnabPlain
import Derived.WalkKit
import Derived.WalkSpells
import Derived.WalkLawsBesides
namespace Go.Proofs.Ytaabcbpbijkmnab
open Go.RowKit

set_option maxHeartbeats 400000 in
theorem letter_any (c : Int) (w : World) :
    Calls Try.prog 61 #[.int .u8 c] w fun e w' => e = .returned (.bool (lowB c)) ∧ w' = w := by
  unfold lowB
  by_cases h : 97 ≤ c
  all_goals
    go_enter Try.func61, Try.ntmps61
    go_wp2
    go_ret
    refine ⟨?_, rfl⟩
    first | (simp [h]; done) | (simp; omega)

set_option maxHeartbeats 400000 in
theorem small_any (c : Int) (w : World) :
    Calls Try.prog 57 #[.int .u8 c] w fun e w' => e = .returned (.bool (lowB c)) ∧ w' = w := by
  unfold lowB
  by_cases h : 97 ≤ c
  all_goals
    go_enter Try.func57, Try.ntmps57
    go_wp2
    go_ret
    refine ⟨?_, rfl⟩
    first | (simp [h]; done) | (simp; omega)

set_option maxHeartbeats 400000 in
theorem in_any (n a b : Int) (w : World) :
    Calls Try.prog 28 #[.int .i64 n, .int .i64 a, .int .i64 b] w fun e w' => e = .returned (.bool (inB n a b)) ∧ w' = w := by
  unfold inB
  by_cases h : a ≤ n
  all_goals
    go_enter Try.func28, Try.ntmps28
    go_wp2
    go_ret
    refine ⟨?_, rfl⟩
    first | (simp [h]; done) | (simp; omega)

theorem extract_all (s : ByteArray) : s.extract 0 s.size = s := by
  simp

set_option maxHeartbeats 400000 in
theorem lead_any (s : ByteArray) (w : World) (hs : s.size ≤ maxLen) :
    Calls Try.prog 51 #[.string s, .func (.func 57) #[] #[]] w fun e w' => e = .returned (.string (s.extract 0 (lead s.data.toList))) ∧ w' = w := by
  unfold maxLen at hs
  go_enter Try.func51, Try.ntmps51
  go_wp2
  go_loop [8] (fun i => ∃ k : Nat, k ≤ s.size ∧ i = .int .i64 k ∧ lowAll (s.data.toList.take k) = true) (fun i => s.size - (intOf i).toNat)
  case atStart => exact ⟨0, Nat.zero_le _, rfl, rfl⟩
  case round =>
    obtain ⟨k, hk, rfl, hl⟩ := hrel
    have HL : Hid (lowAll (s.data.toList.take k) = true) := hl
    clear hl
    by_cases hlt : k < s.size
    · have HS : Hid (lowAll (s.data.toList.take (k + 1)) = (lowAll (s.data.toList.take k) && lowB (s[k].toNat : Int))) := lowAll_snoc s k hlt
      cases hc : lowB (s[k].toNat : Int)
      · go_wp2_with (go_at_call 57; refine (small_any _ _).mono ?_; rintro e w' ⟨rfl, rfl⟩)
        go_ret
        refine ⟨?_, rfl⟩
        rw [lead_none s.data.toList k (by simpa using hlt) HL.out (by exact hc)]
        rfl
      · go_wp2_with (go_at_call 57; refine (small_any _ _).mono ?_; rintro e w' ⟨rfl, rfl⟩)
        go_round
        case rel => exact ⟨k + 1, by omega, by go_num, by rw [HS.out, HL.out, hc]; rfl⟩
        case measure => simp [intOf]; omega
    · go_wp2
      go_ret
      refine ⟨?_, rfl⟩
      have e1 := HL.out
      rw [lowAll_whole s k (by omega)] at e1
      rw [lead_all _ e1]
      simp

end Go.Proofs.Ytaabcbpbijkmnab
