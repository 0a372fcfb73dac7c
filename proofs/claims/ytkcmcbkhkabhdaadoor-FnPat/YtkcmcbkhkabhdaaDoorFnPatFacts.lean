/- DERIVED. Facts on patterns that the promise asks for: nothing of the program. -/
import Derived.Test.YtkcmcbkhkabhdaaDoorPatMatch
namespace Go.Proofs.YtkcmcbkhkabhdaaDoor
open Go.RowKit

theorem mt_front {P S : List UInt8} (h : Mt P S) : Mt (42 :: P) S := (mt_star _ _).2 ⟨0, by simpa using h⟩

theorem mt_behind {P S : List UInt8} (T : List UInt8) (h : Mt P S) : Mt (P ++ [42]) (S ++ T) := by
  induction P generalizing S with
  | nil =>
    rw [mt_nil] at h
    subst h
    exact (mt_star _ _).2 ⟨T.length, by simp [Mt]⟩
  | cons c P ih =>
    by_cases hc : c = 42
    · subst hc
      obtain ⟨k, m⟩ := (mt_star _ _).1 h
      refine (mt_star _ _).2 ⟨min k S.length, ?_⟩
      rw [List.drop_append_of_le_length (by omega)]
      refine ih ?_
      rcases Nat.lt_or_ge k S.length with hk | hk
      · rw [show min k S.length = k by omega]; exact m
      · rw [List.drop_of_length_le hk] at m
        rw [show min k S.length = S.length by omega, List.drop_length]
        exact m
    · obtain ⟨t, rfl, m⟩ := (mt_lit c P S hc).1 h
      exact (mt_lit c _ _ hc).2 ⟨t ++ T, rfl, ih m⟩

theorem mt_any (S : List UInt8) : Mt [42] S := (mt_star _ _).2 ⟨S.length, by simp [Mt]⟩

theorem mt_none {P S : List UInt8} (h : ∀ a ∈ P, a ≠ 42) : Mt P S ↔ P = S := by
  have := mt_plain P [] S h
  rw [List.append_nil] at this
  rw [this]
  constructor
  · rintro ⟨T, e, m⟩
    rw [mt_nil] at m
    subst m
    rw [e]; simp
  · rintro rfl
    exact ⟨[], by simp, rfl⟩

theorem mt_both {P S : List UInt8} (h : Mt P S) : Mt (42 :: P ++ [42]) (120 :: S ++ [121]) := by
  have h1 : Mt (P ++ [42]) (S ++ [121]) := mt_behind [121] h
  exact (mt_star _ _).2 ⟨1, by simpa using h1⟩

theorem mt_x {P S : List UInt8} (h : Mt P S) : Mt (120 :: P) (120 :: S) := (mt_same 120 P S (by decide)).2 h

def hasStar (l : List UInt8) : Bool := l.any fun c => (c.toNat : Int) == 42

theorem hasStar_no {l : List UInt8} (h : hasStar l = false) : ∀ a ∈ l, a ≠ 42 := by
  intro a ha e
  subst e
  unfold hasStar at h
  rw [List.any_eq_false] at h
  exact absurd (h 42 ha) (by decide)

end Go.Proofs.YtkcmcbkhkabhdaaDoor
