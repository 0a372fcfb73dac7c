/- DERIVED. The walks of the signs between parts: mathSigns, takeSign, join. -/
import Derived.Test.YtaabcbpbijkmnabMathMem
import Derived.Laws.EntriesVeiled
namespace Go.Proofs.Ytaabcbpbijkmnab
open Go.RowKit

/-- The function that a sign stands for. -/
def signFn (c : UInt8) : Nat := if c = 43 then 44 else if c = 45 then 45 else if c = 42 then 46 else if c = 47 then 47 else 49

set_option maxHeartbeats 800000 in
theorem mathSigns_any (w : World) :
    Calls Try.prog 36 #[] w fun e w' => e = .returned (.agg #[.int .u8 43, .bool false, .func (.func 44) #[] #[], .int .u8 45, .bool false, .func (.func 45) #[] #[], .int .u8 42, .bool true, .func (.func 46) #[] #[], .int .u8 47, .bool true, .func (.func 47) #[] #[], .int .u8 37, .bool true, .func (.func 49) #[] #[]]) ∧ Below w.heap.size w w' := by
  go_enter Try.func36, Try.ntmps36
  go_wp2
  refine bodyPost_ret (v := _) (by simp [results, Try.results36, go_sem]; rfl) rfl ?_
  exact ⟨rfl, (Below.refl _ _).alloc (Nat.le_refl _) _⟩

set_option maxHeartbeats 800000 in
theorem plus_any (a b : Int) (w : World) (ha : -999999 ≤ a ∧ a ≤ 999999) (hb : -999999 ≤ b ∧ b ≤ 999999) :
    Calls Try.prog 44 #[.int .i64 a, .int .i64 b] w fun e w' => e = .returned (.int .i64 (a + b)) ∧ w' = w := by
  have hw : IntKind.i64.wrap (a + b) = a + b := by rw [IntKind.wrap_i64]; omega
  go_enter Try.func44, Try.ntmps44
  go_wp2
  go_ret
  exact ⟨by simp; try omega, rfl⟩

set_option maxHeartbeats 800000 in
theorem minus_any (a b : Int) (w : World) (ha : -999999 ≤ a ∧ a ≤ 999999) (hb : -999999 ≤ b ∧ b ≤ 999999) :
    Calls Try.prog 45 #[.int .i64 a, .int .i64 b] w fun e w' => e = .returned (.int .i64 (a - b)) ∧ w' = w := by
  have hw : IntKind.i64.wrap (a - b) = a - b := by rw [IntKind.wrap_i64]; omega
  go_enter Try.func45, Try.ntmps45
  go_wp2
  go_ret
  exact ⟨by simp; try omega, rfl⟩

theorem mul_bd (a b : Int) (ha : -999999 ≤ a ∧ a ≤ 999999) (hb : -999999 ≤ b ∧ b ≤ 999999) : -999998000001 ≤ a * b ∧ a * b ≤ 999998000001 := by
  have h1 := Int.mul_nonneg (show 0 ≤ 999999 - a by omega) (show 0 ≤ 999999 + b by omega)
  have h2 := Int.mul_nonneg (show 0 ≤ 999999 + a by omega) (show 0 ≤ 999999 - b by omega)
  have h3 := Int.mul_nonneg (show 0 ≤ 999999 - a by omega) (show 0 ≤ 999999 - b by omega)
  have h4 := Int.mul_nonneg (show 0 ≤ 999999 + a by omega) (show 0 ≤ 999999 + b by omega)
  simp only [Int.sub_mul, Int.mul_sub, Int.add_mul, Int.mul_add] at h1 h2 h3 h4
  omega

set_option maxHeartbeats 800000 in
theorem times_any (a b : Int) (w : World) (ha : -999999 ≤ a ∧ a ≤ 999999) (hb : -999999 ≤ b ∧ b ≤ 999999) :
    Calls Try.prog 46 #[.int .i64 a, .int .i64 b] w fun e w' => e = .returned (.int .i64 (a * b)) ∧ w' = w := by
  have hw : IntKind.i64.wrap (a * b) = a * b := by have := mul_bd a b ha hb; rw [IntKind.wrap_i64]; omega
  clear ha hb
  go_enter Try.func46, Try.ntmps46
  go_wp2
  go_ret
  exact ⟨by simp; try omega, rfl⟩

/-- What a reader panics with. -/
def faultV (c : Int) : Value := .iface 52 (.agg #[.int .i64 c])

/-- How a call ends: with a number, or with a fault. -/
def endE : Except Int Int → Ending
  | .ok z => .returned (.int .i64 z)
  | .error c => .panicked [{ v := faultV c, recovered := false }]

set_option maxHeartbeats 800000 in
theorem notZero_any (b : Int) (w : World) :
    Calls Try.prog 48 #[.int .i64 b] w fun e w' => e = endE (if b = 0 then .error 2 else .ok b) ∧ w' = w := by
  by_cases h : b = 0
  · have hb : (b == 0) = true := by rw [beq_iff_eq]; exact h
    rw [if_pos h]
    clear h
    go_enter Try.func48, Try.ntmps48
    go_wp2
    exact ⟨rfl, rfl, rfl⟩
  · have hb : (b == 0) = false := by rw [beq_eq_false_iff_ne]; exact h
    rw [if_neg h]
    clear h
    go_enter Try.func48, Try.ntmps48
    go_wp2
    go_ret
    exact ⟨rfl, rfl⟩

theorem tdiv_bd (a b : Int) (ha : -999999 ≤ a ∧ a ≤ 999999) : -999999 ≤ a.tdiv b ∧ a.tdiv b ≤ 999999 := by
  have h := Int.natAbs_tdiv_le_natAbs a b
  omega

theorem tmod_bd (a b : Int) (ha : -999999 ≤ a ∧ a ≤ 999999) : -999999 ≤ a.tmod b ∧ a.tmod b ≤ 999999 := by
  have h : (a.tmod b).natAbs ≤ a.natAbs := by rw [Int.natAbs_tmod]; exact Nat.mod_le _ _
  omega

set_option maxHeartbeats 800000 in
theorem quo_any (a b : Int) (w : World) (ha : -999999 ≤ a ∧ a ≤ 999999) :
    Calls Try.prog 47 #[.int .i64 a, .int .i64 b] w fun e w' => e = endE (if b = 0 then .error 2 else .ok (a.tdiv b)) ∧ w' = w := by
  have hw : IntKind.i64.wrap (a.tdiv b) = a.tdiv b := by have := tdiv_bd a b ha; rw [IntKind.wrap_i64]; omega
  clear ha
  by_cases h : b = 0
  · have C : Hid (∀ W, Calls Try.prog 48 #[.int .i64 b] W fun e w' => e = .panicked [{ v := faultV 2, recovered := false }] ∧ w' = W) := fun W => by have := notZero_any b W; rw [if_pos h] at this; exact this
    rw [if_pos h]
    clear h
    go_enter Try.func47, Try.ntmps47
    go_wp2_with fail
    refine (C.out _).mono ?_
    rintro e w1 ⟨rfl, rfl⟩
    exact ⟨rfl, rfl, rfl⟩
  · have C : Hid (∀ W, Calls Try.prog 48 #[.int .i64 b] W fun e w' => e = .returned (.int .i64 b) ∧ w' = W) := fun W => by have := notZero_any b W; rw [if_neg h] at this; exact this
    have hb : (b == 0) = false := by rw [beq_eq_false_iff_ne]; exact h
    rw [if_neg h]
    go_enter Try.func47, Try.ntmps47
    go_wp2_with fail
    refine (C.out _).mono ?_
    rintro e w1 ⟨rfl, rfl⟩
    go_wp2
    go_ret
    exact ⟨rfl, rfl⟩

set_option maxHeartbeats 800000 in
theorem rem_any (a b : Int) (w : World) (ha : -999999 ≤ a ∧ a ≤ 999999) :
    Calls Try.prog 49 #[.int .i64 a, .int .i64 b] w fun e w' => e = endE (if b = 0 then .error 2 else .ok (a.tmod b)) ∧ w' = w := by
  have hw : IntKind.i64.wrap (a.tmod b) = a.tmod b := by have := tmod_bd a b ha; rw [IntKind.wrap_i64]; omega
  clear ha
  by_cases h : b = 0
  · have C : Hid (∀ W, Calls Try.prog 48 #[.int .i64 b] W fun e w' => e = .panicked [{ v := faultV 2, recovered := false }] ∧ w' = W) := fun W => by have := notZero_any b W; rw [if_pos h] at this; exact this
    rw [if_pos h]
    clear h
    go_enter Try.func49, Try.ntmps49
    go_wp2_with fail
    refine (C.out _).mono ?_
    rintro e w1 ⟨rfl, rfl⟩
    exact ⟨rfl, rfl, rfl⟩
  · have C : Hid (∀ W, Calls Try.prog 48 #[.int .i64 b] W fun e w' => e = .returned (.int .i64 b) ∧ w' = W) := fun W => by have := notZero_any b W; rw [if_neg h] at this; exact this
    have hb : (b == 0) = false := by rw [beq_eq_false_iff_ne]; exact h
    rw [if_neg h]
    go_enter Try.func49, Try.ntmps49
    go_wp2_with fail
    refine (C.out _).mono ?_
    rintro e w1 ⟨rfl, rfl⟩
    go_wp2
    go_ret
    exact ⟨rfl, rfl⟩

/-- A sign at work. -/
def workP (c : UInt8) (a b : Int) : Except Int Int := if (c = 47 ∨ c = 37) ∧ b = 0 then .error 2 else .ok (opP c a b)

theorem work_any (c : UInt8) (a b : Int) (w : World) (ha : -999999 ≤ a ∧ a ≤ 999999) (hb : -999999 ≤ b ∧ b ≤ 999999) (hc : c = 43 ∨ c = 45 ∨ c = 42 ∨ c = 47 ∨ c = 37) :
    Calls Try.prog (signFn c) #[.int .i64 a, .int .i64 b] w fun e w' => e = endE (workP c a b) ∧ w' = w := by
  rcases hc with rfl | rfl | rfl | rfl | rfl
  · exact plus_any a b w ha hb
  · exact minus_any a b w ha hb
  · exact times_any a b w ha hb
  · have h := quo_any a b w ha
    have e : workP 47 a b = if b = 0 then .error 2 else .ok (a.tdiv b) := by
      unfold workP
      by_cases h0 : b = 0
      · rw [if_pos ⟨Or.inl rfl, h0⟩, if_pos h0]
      · rw [if_neg (fun c => h0 c.2), if_neg h0]; rfl
    rw [e]; exact h
  · have h := rem_any a b w ha
    have e : workP 37 a b = if b = 0 then .error 2 else .ok (a.tmod b) := by
      unfold workP
      by_cases h0 : b = 0
      · rw [if_pos ⟨Or.inr rfl, h0⟩, if_pos h0]
      · rw [if_neg (fun c => h0 c.2), if_neg h0]; rfl
    rw [e]; exact h

theorem opP_bd (c : UInt8) (a b : Int) (ha : -999999 ≤ a ∧ a ≤ 999999) (hb : -999999 ≤ b ∧ b ≤ 999999) : -999998000001 ≤ opP c a b ∧ opP c a b ≤ 999998000001 := by
  have h1 := mul_bd a b ha hb
  have h2 := tdiv_bd a b ha
  have h3 := tmod_bd a b ha
  unfold opP
  repeat' split
  all_goals omega

end Go.Proofs.Ytaabcbpbijkmnab
