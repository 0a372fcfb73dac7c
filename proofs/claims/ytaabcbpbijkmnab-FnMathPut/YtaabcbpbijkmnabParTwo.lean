/- DERIVED. The model's l2Two: what two numbers come to by a sign. -/
import Derived.Test.YtaabcbpbijkmnabOk
import Derived.Test.YtaabcbpbijkmnabMathPlain
namespace Go.Proofs.Ytaabcbpbijkmnab
open Go.RowKit

/-- What it answers. -/
def twoR : Except Int Int → Int × Int
  | .ok z => (z, 0)
  | .error e => (0, e)

theorem join_over {c : UInt8} {a b : Int} (h : ¬ ((c = 47 ∨ c = 37) ∧ b = 0)) (z : Int) (hz : opP c a b = z) : (inB z (-999999) 999999 = true → twoR (joinP true c a b) = (z, 0)) ∧ (inB z (-999999) 999999 = false → twoR (joinP true c a b) = (0, 3)) := by
  unfold joinP
  rw [if_neg (by decide), if_neg h, hz]
  unfold inB
  constructor
  · intro h2
    rw [Bool.and_eq_true, decide_eq_true_eq, decide_eq_true_eq] at h2
    rw [if_neg (by omega)]
    rfl
  · intro h2
    rw [if_pos (by rw [Bool.and_eq_false_iff, decide_eq_false_iff_not, decide_eq_false_iff_not] at h2; omega)]
    rfl

theorem join_zero {c : UInt8} {a : Int} (h : c = 47 ∨ c = 37) : twoR (joinP true c a 0) = (0, 2) := by
  unfold joinP
  rw [if_neg (by decide), if_pos ⟨h, rfl⟩]
  rfl

set_option maxRecDepth 100000 in
set_option maxHeartbeats 3200000 in
theorem l2Two_any (c : UInt8) (hc : c = 43 ∨ c = 45 ∨ c = 42 ∨ c = 47 ∨ c = 37) (a b : Int) (ha : -999999 ≤ a) (ha2 : a ≤ 999999) (hb : -999999 ≤ b) (hb2 : b ≤ 999999) (w : World) :
    Calls Try.prog 24 #[.int .u8 (c.toNat : Int), .int .i64 a, .int .i64 b] w fun e w' => e = .returned (.tuple #[.int .i64 (twoR (joinP true c a b)).1, .int .i64 (twoR (joinP true c a b)).2]) ∧ w' = w := by
  rcases hc with rfl | rfl | rfl | rfl | rfl
  · show Calls Try.prog 24 #[.int .u8 43, .int .i64 a, .int .i64 b] w _
    obtain ⟨z, hz⟩ : ∃ z, z = a + b := ⟨_, rfl⟩
    have hab1 : -2000000 ≤ z := by omega
    have hab2 : z ≤ 2000000 := by omega
    have HJ := hid (join_over (c := 43) (a := a) (b := b) (by intro h; rcases h.1 with h | h <;> exact absurd h (by decide)) z (by rw [hz]; rfl))
    have CI := hid (fun W => in_any z (-999999) 999999 W)
    have hz' : a + b = z := hz.symm
    clear hz
    cases hin : inB z (-999999) 999999 with
    | true =>
      rw [hin] at CI
      have HJ2 := hid (HJ.out.1 hin)
      rw [HJ2.out]
      clear hin HJ HJ2
      go_enter Try.func24, Try.ntmps24
      go_wp2_with fail
      refine (CI.out _).mono ?_
      rintro e w1 ⟨rfl, rfl⟩
      go_wp2
      go_ret2
      exact ⟨rfl, rfl⟩
    | false =>
      rw [hin] at CI
      have HJ2 := hid (HJ.out.2 hin)
      rw [HJ2.out]
      clear hin HJ HJ2
      go_enter Try.func24, Try.ntmps24
      go_wp2_with fail
      refine (CI.out _).mono ?_
      rintro e w1 ⟨rfl, rfl⟩
      go_wp2
      go_ret2
      exact ⟨rfl, rfl⟩
  · show Calls Try.prog 24 #[.int .u8 45, .int .i64 a, .int .i64 b] w _
    obtain ⟨z, hz⟩ : ∃ z, z = a - b := ⟨_, rfl⟩
    have hab1 : -2000000 ≤ z := by omega
    have hab2 : z ≤ 2000000 := by omega
    have HJ := hid (join_over (c := 45) (a := a) (b := b) (by intro h; rcases h.1 with h | h <;> exact absurd h (by decide)) z (by rw [hz]; rfl))
    have CI := hid (fun W => in_any z (-999999) 999999 W)
    have hz' : a - b = z := hz.symm
    clear hz
    cases hin : inB z (-999999) 999999 with
    | true =>
      rw [hin] at CI
      have HJ2 := hid (HJ.out.1 hin)
      rw [HJ2.out]
      clear hin HJ HJ2
      go_enter Try.func24, Try.ntmps24
      go_wp2_with fail
      refine (CI.out _).mono ?_
      rintro e w1 ⟨rfl, rfl⟩
      go_wp2
      go_ret2
      exact ⟨rfl, rfl⟩
    | false =>
      rw [hin] at CI
      have HJ2 := hid (HJ.out.2 hin)
      rw [HJ2.out]
      clear hin HJ HJ2
      go_enter Try.func24, Try.ntmps24
      go_wp2_with fail
      refine (CI.out _).mono ?_
      rintro e w1 ⟨rfl, rfl⟩
      go_wp2
      go_ret2
      exact ⟨rfl, rfl⟩
  · show Calls Try.prog 24 #[.int .u8 42, .int .i64 a, .int .i64 b] w _
    obtain ⟨z, hz⟩ : ∃ z, z = a * b := ⟨_, rfl⟩
    have hab : -999998000001 ≤ z ∧ z ≤ 999998000001 := by
      rw [hz]
      have h1 : a.natAbs ≤ 999999 := by omega
      have h2 : b.natAbs ≤ 999999 := by omega
      have h3 := Nat.mul_le_mul h1 h2
      rw [← Int.natAbs_mul] at h3
      omega
    obtain ⟨hab1, hab2⟩ := hab
    have HJ := hid (join_over (c := 42) (a := a) (b := b) (by intro h; rcases h.1 with h | h <;> exact absurd h (by decide)) z (by rw [hz]; rfl))
    have CI := hid (fun W => in_any z (-999999) 999999 W)
    have hz' : a * b = z := hz.symm
    clear hz
    cases hin : inB z (-999999) 999999 with
    | true =>
      rw [hin] at CI
      have HJ2 := hid (HJ.out.1 hin)
      rw [HJ2.out]
      clear hin HJ HJ2
      go_enter Try.func24, Try.ntmps24
      go_wp2_with fail
      refine (CI.out _).mono ?_
      rintro e w1 ⟨rfl, rfl⟩
      go_wp2
      go_ret2
      exact ⟨rfl, rfl⟩
    | false =>
      rw [hin] at CI
      have HJ2 := hid (HJ.out.2 hin)
      rw [HJ2.out]
      clear hin HJ HJ2
      go_enter Try.func24, Try.ntmps24
      go_wp2_with fail
      refine (CI.out _).mono ?_
      rintro e w1 ⟨rfl, rfl⟩
      go_wp2
      go_ret2
      exact ⟨rfl, rfl⟩
  · show Calls Try.prog 24 #[.int .u8 47, .int .i64 a, .int .i64 b] w _
    by_cases hb0 : b = 0
    · subst hb0
      have HJ := hid (join_zero (c := 47) (a := a) (by decide))
      rw [HJ.out]
      go_enter Try.func24, Try.ntmps24
      go_wp2
      go_ret2
      exact ⟨rfl, rfl⟩
    · have hb0' : (b == 0) = false := by rw [beq_eq_false_iff_ne]; exact hb0
      obtain ⟨z, hz⟩ : ∃ z, z = a.tdiv b := ⟨_, rfl⟩
      have hab : z.natAbs ≤ a.natAbs := by rw [hz]; exact Int.natAbs_tdiv_le_natAbs a b
      have hab1 : -999999 ≤ z := by omega
      have hab2 : z ≤ 999999 := by omega
      have HJ := hid (join_over (c := 47) (a := a) (b := b) (by intro h; exact hb0 h.2) z (by rw [hz]; rfl))
      have CI := hid (fun W => in_any z (-999999) 999999 W)
      have hz' : a.tdiv b = z := hz.symm
      clear hz
      cases hin : inB z (-999999) 999999 with
      | true =>
        rw [hin] at CI
        have HJ2 := hid (HJ.out.1 hin)
        rw [HJ2.out]
        clear hin HJ HJ2
        go_enter Try.func24, Try.ntmps24
        go_wp2_with fail
        refine (CI.out _).mono ?_
        rintro e w1 ⟨rfl, rfl⟩
        go_wp2
        go_ret2
        exact ⟨rfl, rfl⟩
      | false =>
        rw [hin] at CI
        have HJ2 := hid (HJ.out.2 hin)
        rw [HJ2.out]
        clear hin HJ HJ2
        go_enter Try.func24, Try.ntmps24
        go_wp2_with fail
        refine (CI.out _).mono ?_
        rintro e w1 ⟨rfl, rfl⟩
        go_wp2
        go_ret2
        exact ⟨rfl, rfl⟩
  · show Calls Try.prog 24 #[.int .u8 37, .int .i64 a, .int .i64 b] w _
    by_cases hb0 : b = 0
    · subst hb0
      have HJ := hid (join_zero (c := 37) (a := a) (by decide))
      rw [HJ.out]
      go_enter Try.func24, Try.ntmps24
      go_wp2
      go_ret2
      exact ⟨rfl, rfl⟩
    · have hb0' : (b == 0) = false := by rw [beq_eq_false_iff_ne]; exact hb0
      obtain ⟨z, hz⟩ : ∃ z, z = a.tmod b := ⟨_, rfl⟩
      have hab : z.natAbs ≤ a.natAbs := by rw [hz]; exact by rw [Int.natAbs_tmod]; exact Nat.mod_le _ _
      have hab1 : -999999 ≤ z := by omega
      have hab2 : z ≤ 999999 := by omega
      have HJ := hid (join_over (c := 37) (a := a) (b := b) (by intro h; exact hb0 h.2) z (by rw [hz]; rfl))
      have CI := hid (fun W => in_any z (-999999) 999999 W)
      have hz' : a.tmod b = z := hz.symm
      clear hz
      cases hin : inB z (-999999) 999999 with
      | true =>
        rw [hin] at CI
        have HJ2 := hid (HJ.out.1 hin)
        rw [HJ2.out]
        clear hin HJ HJ2
        go_enter Try.func24, Try.ntmps24
        go_wp2_with fail
        refine (CI.out _).mono ?_
        rintro e w1 ⟨rfl, rfl⟩
        go_wp2
        go_ret2
        exact ⟨rfl, rfl⟩
      | false =>
        rw [hin] at CI
        have HJ2 := hid (HJ.out.2 hin)
        rw [HJ2.out]
        clear hin HJ HJ2
        go_enter Try.func24, Try.ntmps24
        go_wp2_with fail
        refine (CI.out _).mono ?_
        rintro e w1 ⟨rfl, rfl⟩
        go_wp2
        go_ret2
        exact ⟨rfl, rfl⟩

end Go.Proofs.Ytaabcbpbijkmnab
