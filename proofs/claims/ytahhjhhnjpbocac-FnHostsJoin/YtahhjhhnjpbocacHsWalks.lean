/- DERIVED. The walks that compare two hosts. -/
import Derived.Test.YtahhjhhnjpbocacOk
import Derived.Test.YtahhjhhnjpbocacHsPlain
import Derived.Deep.RegionWith
namespace Go.Proofs.Ytahhjhhnjpbocac
open Go.RowKit

set_option maxHeartbeats 400000 in
theorem less_any (s t : ByteArray) (n m : Int) (w : World) :
    Calls Try.prog 16 #[.agg #[.string s, .int .i64 n], .agg #[.string t, .int .i64 m]] w fun e w' => e = .returned (.bool (lessB s n t m)) ∧ Below w.heap.size w w' := by
  unfold lessB
  cases h : (s.toList == t.toList)
  all_goals
    go_enter Try.func16, Try.ntmps16
    go_wp2
    go_ret
    exact ⟨rfl, ((Below.refl _ _).alloc (Nat.le_refl _) _).alloc (by simp) _⟩

/-- How two texts, two numbers compare. -/
def cmpS (s t : ByteArray) : Int := if Op.bytesLess s.toList t.toList = true then -1 else if (s.toList == t.toList) = true then 0 else 1
def cmpN (n m : Int) : Int := if n < m then -1 else if m < n then 1 else 0

theorem cmp_parts (s t : ByteArray) (n m : Int) : cmpI s n t m = if (cmpS s t != 0) = true then cmpS s t else cmpN n m := by
  unfold cmpI cmpS cmpN
  cases h : Op.bytesLess s.toList t.toList
  · cases e : (s.toList == t.toList)
    · rfl
    · rfl
  · rfl

set_option maxHeartbeats 400000 in
theorem cmpS_any (s t : ByteArray) (w : World) :
    Calls Try.prog 26 #[.string s, .string t] w fun e w' => e = .returned (.int .i64 (cmpS s t)) ∧ w' = w := by
  unfold cmpS
  cases h : Op.bytesLess s.toList t.toList
  · cases e : (s.toList == t.toList)
    all_goals
      go_enter Try.func26, Try.ntmps26
      go_wp2
      go_ret
      exact ⟨rfl, rfl⟩
  · go_enter Try.func26, Try.ntmps26
    go_wp2
    go_ret
    exact ⟨rfl, rfl⟩

set_option maxHeartbeats 400000 in
theorem cmpN_any (n m : Int) (w : World) :
    Calls Try.prog 27 #[.int .i64 n, .int .i64 m] w fun e w' => e = .returned (.int .i64 (cmpN n m)) ∧ w' = w := by
  unfold cmpN
  by_cases h : n < m
  · go_enter Try.func27, Try.ntmps27
    go_wp2
    go_ret
    exact ⟨rfl, rfl⟩
  · by_cases h2 : m < n
    all_goals
      go_enter Try.func27, Try.ntmps27
      go_wp2
      go_ret
      exact ⟨rfl, rfl⟩

set_option maxHeartbeats 400000 in
theorem or_any (a b : Int) (B : Nat) (w : World) (h0 : w.cell? ⟨B, 0, none⟩ = some (.int .i64 a)) (h1 : w.cell? ⟨B, 1, none⟩ = some (.int .i64 b)) :
    Calls Try.prog 25 #[.slice (some ⟨B, 0, none⟩) 2 2] w fun e w' => e = .returned (.int .i64 (if (a != 0) = true then a else b)) ∧ w' = w := by
  go_enter Try.func25, Try.ntmps25
  go_wp2
  go_loop [8] (fun i => ∃ k : Nat, i = .int .i64 k ∧ (k = 0 ∨ k = 1 ∧ (a != 0) = false ∨ k = 2 ∧ (a != 0) = false ∧ (b != 0) = false)) (fun i => 2 - (intOf i).toNat)
  case atStart => exact ⟨0, rfl, Or.inl rfl⟩
  case round =>
    obtain ⟨k, rfl, hk⟩ := hrel
    rcases hk with rfl | ⟨rfl, ha⟩ | ⟨rfl, ha, hb⟩
    · cases ha : (a != 0)
      · go_wp2
        go_round
        case rel => exact ⟨1, rfl, by simp⟩
        case measure => simp [intOf]
      · go_wp2
        go_ret
        exact ⟨rfl, rfl⟩
    · cases hb : (b != 0)
      · go_wp2
        go_round
        case rel => exact ⟨2, rfl, by simpa using ha⟩
        case measure => simp [intOf]
      · go_wp2
        go_ret
        exact ⟨rfl, rfl⟩
    · have eb : b = 0 := by simpa using hb
      subst eb
      clear hb
      go_wp2
      go_ret
      exact ⟨rfl, rfl⟩

end Go.Proofs.Ytahhjhhnjpbocac
