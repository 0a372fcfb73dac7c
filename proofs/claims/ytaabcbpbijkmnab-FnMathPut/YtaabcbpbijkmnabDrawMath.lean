/- DERIVED. The walks of what draws sums. -/
import Derived.Test.YtaabcbpbijkmnabBent
namespace Go.Proofs.Ytaabcbpbijkmnab
open Go.RowKit

theorem Drawn.trans2 {R : Nat} {oa : Option Addr} {len cap q q' : Nat} {w w1 w2 : World} (h : Drawn R oa len cap q w w1) (k : Drawn R oa len cap q' w1 w2) : Drawn R oa len cap q' w w2 := ⟨k.1, h.2.trans k.2⟩

/-- A sum of so many levels is drawn, within a size and a number of draws. -/
def MathAt (d : Int) (K D M : Nat) : Prop := ∀ (R : Nat) (oa : Option Addr) (len cap p : Nat) (w : World), RdAt w R oa len cap p → p ≤ M →
  Calls Try.prog 17 #[.pointer (some ⟨R, 0, none⟩), .int .i64 d] w fun e w' => (∃ s : ByteArray, e = .returned (.string s) ∧ s.size ≤ K) ∧ (∃ q, q ≤ p + D ∧ Drawn R oa len cap q w w')

set_option maxHeartbeats 800000 in
theorem math_zero : MathAt 0 6 1 900000 := by
  intro R oa len cap p w h hp
  have HR := hid h
  have hRo := h.old
  clear h
  go_enter Try.func17, Try.ntmps17
  go_wp2_with fail
  refine (of_any R _ 12 6 oa len cap p _ (HR.out.keep ((Below.refl _ _).alloc (Nat.le_refl _) _)) (by omega) (by decide) (by decide) ?_ ?_ ?_).mono ?_
  · simp
  · omega
  · exact strs_new _ _ _ 6 _ 12 (by simp) (by rfl) (by kernel_rfl)
  rintro e w1 ⟨⟨s, rfl, hs⟩, hd⟩
  have HD : Hid (Drawn R oa len cap (p + 1) w w1) := ⟨hd.1, (Keeps.of_below ((Below.refl _ _).alloc (Nat.le_refl _) _) hRo).trans hd.2⟩
  clear hd
  go_wp2
  refine bodyPost_ret (v := .string s) (by simp [results, Try.results17, go_sem]) rfl ⟨⟨s, rfl, hs⟩, p + 1, by omega, HD.out⟩

theorem size_par (s : ByteArray) : (⟨#[40]⟩ ++ s ++ ⟨#[41]⟩ : ByteArray).size = s.size + 2 := by
  rw [ByteArray.size_append, ByteArray.size_append, show (⟨#[40]⟩ : ByteArray).size = 1 from rfl, show (⟨#[41]⟩ : ByteArray).size = 1 from rfl]; omega

theorem size_neg (s : ByteArray) : (⟨#[45]⟩ ++ s : ByteArray).size = s.size + 1 := by
  rw [ByteArray.size_append, show (⟨#[45]⟩ : ByteArray).size = 1 from rfl]; omega

set_option maxHeartbeats 1600000 in
theorem math_step (x : Int) (K D M : Nat) (hx : 1 ≤ x) (hx3 : x ≤ 3) (hK : K ≤ 1000) (M' : Nat) (hM : M' + D + 2 ≤ M) (hM2 : M ≤ 900000) (ih : MathAt (x - 1) K D M) : MathAt x (2 * K + 3) (2 * D + 2) M' := by
  intro R oa len cap p w h hp
  have HR := hid h
  have IH := hid ih
  clear h ih
  have hx0 : (x == 0) = false := by rw [beq_eq_false_iff_ne]; omega
  go_enter Try.func17, Try.ntmps17
  go_wp2_with fail
  refine (pick_any R oa len cap p 5 _ HR.out (by omega) (by decide)).mono ?_
  rintro e w1 ⟨⟨y, rfl, hy0, hy1⟩, hd⟩
  have HD1 := hid hd
  clear hd HR
  by_cases h0 : y = 0
  · subst h0
    go_wp2_with fail
    refine (IH.out R oa len cap (p + 1) _ HD1.out.1 (by omega)).mono ?_
    rintro e w2 ⟨⟨s, rfl, hs⟩, q, hq, hd⟩
    have HD2 : Hid (Drawn R oa len cap q w w2) := HD1.out.trans2 hd
    clear hd HD1
    go_wp2
    refine bodyPost_ret (v := .string (⟨#[40]⟩ ++ s ++ ⟨#[41]⟩)) (by simp [results, Try.results17, go_sem]) rfl ⟨⟨_, rfl, ?_⟩, q, by omega, HD2.out⟩
    rw [size_par]; omega
  · by_cases h1 : y = 1
    · subst h1
      go_wp2_with fail
      refine (IH.out R oa len cap (p + 1) _ HD1.out.1 (by omega)).mono ?_
      rintro e w2 ⟨⟨s, rfl, hs⟩, q, hq, hd⟩
      have HD2 : Hid (Drawn R oa len cap q w w2) := HD1.out.trans2 hd
      clear hd HD1
      go_wp2
      refine bodyPost_ret (v := .string (⟨#[45]⟩ ++ s)) (by simp [results, Try.results17, go_sem]) rfl ⟨⟨_, rfl, ?_⟩, q, by omega, HD2.out⟩
      rw [size_neg]; omega
    · have h0' : (y == 0) = false := by rw [beq_eq_false_iff_ne]; exact h0
      have h1' : (y == 1) = false := by rw [beq_eq_false_iff_ne]; exact h1
      go_wp2_with fail
      refine (IH.out R oa len cap (p + 1) _ HD1.out.1 (by omega)).mono ?_
      rintro e w2 ⟨⟨s, rfl, hs⟩, q, hq, hd⟩
      have HD2 : Hid (Drawn R oa len cap q w w2) := HD1.out.trans2 hd
      have hRo2 := hd.1.old
      clear hd HD1
      go_wp2_with fail
      refine (of_any R _ 6 3 oa len cap q _ (HD2.out.1.keep ((Below.refl _ _).alloc (Nat.le_refl _) _)) (by omega) (by decide) (by decide) ?_ ?_ ?_).mono ?_
      · simp
      · omega
      · exact strs_new _ _ _ 3 _ 6 (by simp) (by rfl) (by kernel_rfl)
      rintro e w3 ⟨⟨t, rfl, ht⟩, hd⟩
      have HD3 : Hid (Drawn R oa len cap (q + 1) w w3) := ⟨hd.1, HD2.out.2.trans ((Keeps.of_below ((Below.refl _ _).alloc (Nat.le_refl _) _) hRo2).trans hd.2)⟩
      clear hd HD2
      go_wp2_with fail
      refine (IH.out R oa len cap (q + 1) _ HD3.out.1 (by omega)).mono ?_
      rintro e w4 ⟨⟨u, rfl, hu⟩, q2, hq2, hd⟩
      have HD4 : Hid (Drawn R oa len cap q2 w w4) := HD3.out.trans2 hd
      clear hd HD3
      go_wp2
      refine bodyPost_ret (v := .string (s ++ t ++ u)) (by simp [results, Try.results17, go_sem]) rfl ⟨⟨_, rfl, ?_⟩, q2, by omega, HD4.out⟩
      rw [ByteArray.size_append, ByteArray.size_append]; omega

theorem math_at0 : MathAt 0 100 30 1000 := fun R oa len cap p w h hp => (math_zero R oa len cap p w h (by omega)).mono fun _ _ ⟨⟨s, e, hs⟩, q, hq, hd⟩ => ⟨⟨s, e, by omega⟩, q, by omega, hd⟩
theorem math_one : MathAt 1 15 4 800000 := math_step 1 6 1 900000 (by decide) (by decide) (by decide) 800000 (by decide) (by decide) math_zero
theorem math_two : MathAt 2 33 10 700000 := math_step 2 15 4 800000 (by decide) (by decide) (by decide) 700000 (by decide) (by decide) math_one
theorem math_three : MathAt 3 69 22 600000 := math_step 3 33 10 700000 (by decide) (by decide) (by decide) 600000 (by decide) (by decide) math_two
theorem math_at1 : MathAt 1 100 30 1000 := fun R oa len cap p w h hp => (math_one R oa len cap p w h (by omega)).mono fun _ _ ⟨⟨s, e, hs⟩, q, hq, hd⟩ => ⟨⟨s, e, by omega⟩, q, by omega, hd⟩
theorem math_at2 : MathAt 2 100 30 1000 := fun R oa len cap p w h hp => (math_two R oa len cap p w h (by omega)).mono fun _ _ ⟨⟨s, e, hs⟩, q, hq, hd⟩ => ⟨⟨s, e, by omega⟩, q, by omega, hd⟩
theorem math_at3 : MathAt 3 100 30 1000 := fun R oa len cap p w h hp => (math_three R oa len cap p w h (by omega)).mono fun _ _ ⟨⟨s, e, hs⟩, q, hq, hd⟩ => ⟨⟨s, e, by omega⟩, q, by omega, hd⟩

theorem math_at (x : Int) (h0 : 0 ≤ x) (h3 : x ≤ 3) : MathAt x 100 30 1000 := by
  have : x = 0 ∨ x = 1 ∨ x = 2 ∨ x = 3 := by omega
  rcases this with rfl | rfl | rfl | rfl
  · exact math_at0
  · exact math_at1
  · exact math_at2
  · exact math_at3

set_option maxHeartbeats 1600000 in
theorem drawMathOk_any (oa : Option Addr) (len cap : Nat) (w : World) (h : CodeAt w oa len) (hc : len ≤ cap) (hm : cap ≤ maxLen) :
    Calls Try.prog 8 #[.slice oa len cap] w fun e w' => (∃ s : ByteArray, e = .returned (.string s) ∧ s.size ≤ 200010) ∧ Below w.heap.size w w' := by
  have HC := hid h
  clear h
  go_enter Try.func8, Try.ntmps8
  go_wp2_with fail
  refine (open_any oa len cap _ HC.out hc hm).mono ?_
  rintro e w1 ⟨rfl, ⟨l, c, hr⟩, hb⟩
  have HR := hid hr
  have HB := hid hb
  clear hr hb
  go_wp2_with fail
  refine (pick_any w.heap.size oa l c 0 12 _ HR.out (by omega) (by decide)).mono ?_
  rintro e w2 ⟨⟨y, rfl, hy0, hy1⟩, hd⟩
  have HD1 := hid hd
  clear hd
  by_cases h0 : y = 0
  · subst h0
    go_wp2_with fail
    refine (of_any w.heap.size _ 14 15 oa l c 1 _ (HD1.out.1.keep ((Below.refl _ _).alloc (Nat.le_refl _) _)) (by omega) (by decide) (by decide) ?_ ?_ ?_).mono ?_
    · simp
    · have := HD1.out.1.old; omega
    · exact strs_new _ _ _ 15 _ 14 (by simp) (by rfl) (by kernel_rfl)
    rintro e w3 ⟨⟨t, rfl, ht⟩, hd⟩
    have HD2 := hid hd
    clear hd
    go_wp2
    refine bodyPost_ret (v := .string t) (by simp [results, Try.results8, go_sem]) rfl ⟨⟨t, rfl, by omega⟩, ?_⟩
    exact HD2.out.2.below _ _ (Nat.le_refl _) (Below.alloc (HD1.out.2.below _ _ (Nat.le_refl _) HB.out) (by have := HD1.out.1.old; omega) _)
  · by_cases h1 : y = 1
    · subst h1
      go_wp2_with fail
      refine (math_at 2 (by decide) (by decide) w.heap.size oa l c 1 _ HD1.out.1 (by omega)).mono ?_
      rintro e w3 ⟨⟨t, rfl, ht⟩, q, hq, hd⟩
      have HD2 := hid (HD1.out.trans2 hd)
      clear hd
      go_wp2_with fail
      refine (bent_any w.heap.size oa l c q t _ HD2.out.1 (by omega) (by omega)).mono ?_
      rintro e w4 ⟨⟨u, rfl, hu⟩, q2, hd⟩
      have HD3 := hid (HD2.out.trans2 hd)
      clear hd
      go_wp2
      refine bodyPost_ret (v := .string u) (by simp [results, Try.results8, go_sem]) rfl ⟨⟨u, rfl, hu⟩, HD3.out.2.below _ _ (Nat.le_refl _) HB.out⟩
    · have h0' : (y == 0) = false := by rw [beq_eq_false_iff_ne]; exact h0
      have h1' : (y == 1) = false := by rw [beq_eq_false_iff_ne]; exact h1
      go_wp2_with fail
      refine (pick_any w.heap.size oa l c 1 4 _ HD1.out.1 (by omega) (by decide)).mono ?_
      rintro e w3 ⟨⟨z, rfl, hz0, hz1⟩, hd⟩
      have HD2 := hid (HD1.out.trans2 hd)
      clear hd
      go_wp2_with fail
      refine (math_at z hz0 (by omega) w.heap.size oa l c 2 _ HD2.out.1 (by omega)).mono ?_
      rintro e w4 ⟨⟨u, rfl, hu⟩, q2, hq2, hd⟩
      have HD3 := hid (HD2.out.trans2 hd)
      clear hd
      go_wp2
      refine bodyPost_ret (v := .string u) (by simp [results, Try.results8, go_sem]) rfl ⟨⟨u, rfl, by omega⟩, HD3.out.2.below _ _ (Nat.le_refl _) HB.out⟩

end Go.Proofs.Ytaabcbpbijkmnab
