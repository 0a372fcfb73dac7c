/- DERIVED. PatMatch of the model and of the program: both answer what a star stands for. -/
import Derived.Test.YtkcmcbkhkabhdaaDoorPatSpec
import Derived.Test.YtkcmcbkhkabhdaaDoorPatImpl
namespace Go.Proofs.YtkcmcbkhkabhdaaDoor
open Go.RowKit

/-- What PatMatch answers. -/
def PatSo (p s : List UInt8) : Prop := p.length ≤ 20 ∧ s.length ≤ 50 ∧ Mt p s

theorem p_below_drewN {B : Nat} {w w' : World} (h : Below B w w') (n : Nat) : Below B w (w'.drewN n) := ⟨h.1, h.2, h.3, h.4, h.5⟩

set_option maxRecDepth 100000 in
set_option maxHeartbeats 800000 in
theorem patSpec_any (p s : ByteArray) (b : Bool) (w : World) (hp : p.size ≤ maxLen) (hs : s.size ≤ maxLen) (hb : b = true ↔ PatSo p.data.toList s.data.toList) :
    Calls Tryd.prog 6 #[.string p, .string s] w fun e w' => e = .returned (.bool b) ∧ Below w.heap.size w w' := by
  have hp' : p.size ≤ 2 ^ 63 - 1 := hp
  have hs' : s.size ≤ 2 ^ 63 - 1 := hs
  have lp : p.data.toList.length = p.size := by simp
  have ls : s.data.toList.length = s.size := by simp
  unfold PatSo at hb
  rw [lp, ls] at hb
  by_cases h1 : p.size ≤ 20
  · by_cases h2 : s.size ≤ 50
    · have HC : Hid (∀ w0 v, Marks w0 v p → Calls Tryd.prog 10 #[.string p, v, .string s] w0 fun e w' => e = .returned (.bool b) ∧ ∃ nq, w' = w0.drewN nq) :=
        fun w0 v hm => star_spec p s v b w0 (by omega) (by omega) hm (by rw [hb]; simp [h1, h2])
      clear hb lp ls
      go_enter Tryd.func6, Tryd.ntmps6
      go_wp2_with (go_at_call 11; refine (stars_spec p _ (by omega)).mono ?_; rintro e w1 ⟨v, rfl, hown, hB⟩; have HM := hidP (marks_of hown); have HB := hidP hB; clear hown hB)
      go_wp2_with (go_at_call 10; refine (HC.out _ _ HM.out).mono ?_; rintro e w2 ⟨rfl, nq, rfl⟩)
      refine bodyPost_ret (v := .bool b) (by simp [results, Tryd.results6, go_sem]) rfl ⟨rfl, p_below_drewN HB.out _⟩
    · have HN : Hid (b = false) := by
        cases b
        · rfl
        · exact absurd (hb.1 rfl).2.1 h2
      clear hb lp ls
      go_enter Tryd.func6, Tryd.ntmps6
      go_wp2
      refine bodyPost_ret (v := .bool false) (by simp [results, Tryd.results6, go_sem]) rfl ⟨by rw [HN.out], Below.refl _ _⟩
  · have HN : Hid (b = false) := by
      cases b
      · rfl
      · exact absurd (hb.1 rfl).1 h1
    clear hb lp ls
    go_enter Tryd.func6, Tryd.ntmps6
    go_wp2
    refine bodyPost_ret (v := .bool false) (by simp [results, Tryd.results6, go_sem]) rfl ⟨by rw [HN.out], Below.refl _ _⟩

set_option maxRecDepth 100000 in
set_option maxHeartbeats 800000 in
theorem patImpl_any (p s : ByteArray) (b : Bool) (w : World) (hp : p.size ≤ maxLen) (hs : s.size ≤ maxLen) (hb : b = true ↔ PatSo p.data.toList s.data.toList) :
    Calls Tryd.prog 5 #[.string p, .string s] w fun e w' => e = .returned (.bool b) ∧ ∃ nq, w' = w.drewN nq := by
  have hp' : p.size ≤ 2 ^ 63 - 1 := hp
  have hs' : s.size ≤ 2 ^ 63 - 1 := hs
  have lp : p.data.toList.length = p.size := by simp
  have ls : s.data.toList.length = s.size := by simp
  unfold PatSo at hb
  rw [lp, ls] at hb
  by_cases h1 : p.size ≤ 20
  · by_cases h2 : s.size ≤ 50
    · have HC : Hid (∀ w0, Calls Tryd.prog 9 #[.string p, .string s] w0 fun e w' => e = .returned (.bool b) ∧ ∃ nq, w' = w0.drewN nq) :=
        fun w0 => matches_any p s b w0 (by omega) (by omega) (by rw [hb]; simp [h1, h2])
      clear hb lp ls
      go_enter Tryd.func5, Tryd.ntmps5
      go_wp2_with (go_at_call 9; refine (HC.out _).mono ?_; rintro e w2 ⟨rfl, nq, rfl⟩)
      refine bodyPost_ret (v := .bool b) (by simp [results, Tryd.results5, go_sem]) rfl ⟨rfl, _, rfl⟩
    · have HN : Hid (b = false) := by
        cases b
        · rfl
        · exact absurd (hb.1 rfl).2.1 h2
      clear hb lp ls
      go_enter Tryd.func5, Tryd.ntmps5
      go_wp2
      refine bodyPost_ret (v := .bool false) (by simp [results, Tryd.results5, go_sem]) rfl ⟨by rw [HN.out], 0, rfl⟩
  · have HN : Hid (b = false) := by
      cases b
      · rfl
      · exact absurd (hb.1 rfl).1 h1
    clear hb lp ls
    go_enter Tryd.func5, Tryd.ntmps5
    go_wp2
    refine bodyPost_ret (v := .bool false) (by simp [results, Tryd.results5, go_sem]) rfl ⟨by rw [HN.out], 0, rfl⟩

end Go.Proofs.YtkcmcbkhkabhdaaDoor
