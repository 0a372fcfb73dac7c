/- DERIVED. Plain functions and facts on lists of hosts: nothing of the program. -/
import Derived.Test.YtahhjhhnjpbocacPlain
namespace Go.Proofs.Ytahhjhhnjpbocac

/-- One host comes ahead of another one. -/
def lessB (s : ByteArray) (n : Int) (t : ByteArray) (m : Int) : Bool :=
  if (s.toList == t.toList) = true then decide (n < m) else Op.bytesLess s.toList t.toList

/-- How two hosts compare: -1, 0 or 1. -/
def cmpI (s : ByteArray) (n : Int) (t : ByteArray) (m : Int) : Int :=
  if Op.bytesLess s.toList t.toList = true then -1 else if (s.toList == t.toList) = true then (if n < m then -1 else if m < n then 1 else 0) else 1

theorem bytesLess_irrefl (l : List UInt8) : Op.bytesLess l l = false := by
  induction l with
  | nil => rfl
  | cons a t ih => simp [Op.bytesLess, ih]

theorem cmpI_less (s : ByteArray) (n : Int) (t : ByteArray) (m : Int) : decide (0 ≤ cmpI s n t m) = !lessB s n t m := by
  unfold cmpI lessB
  cases h : Op.bytesLess s.toList t.toList
  · cases e : (s.toList == t.toList)
    · rfl
    · by_cases h1 : n < m
      · simp [h1]
      · by_cases h2 : m < n <;> simp [h1, h2]
  · have e : (s.toList == t.toList) = false := by
      cases e : (s.toList == t.toList)
      · rfl
      · rw [beq_iff_eq] at e; rw [e, bytesLess_irrefl] at h; cases h
    rw [e]; rfl

/-- The first k hosts are ok, ascending. -/
def okUpto (S : Nat → ByteArray) (M : Nat → Int) : Nat → Bool
  | 0 => true
  | k + 1 => okUpto S M k && (okB (S k) (M k) && (decide (k = 0) || lessB (S (k - 1)) (M (k - 1)) (S k) (M k)))

theorem okUpto_le (S : Nat → ByteArray) (M : Nat → Int) {k n : Nat} (h : k ≤ n) (hk : okUpto S M k = false) : okUpto S M n = false := by
  induction n with
  | zero => have : k = 0 := by omega
            subst this; exact hk
  | succ n ih =>
    by_cases e : k = n + 1
    · subst e; exact hk
    · simp [okUpto, ih (by omega)]

/-- Hosts are ok. -/
def listOk (S : Nat → ByteArray) (M : Nat → Int) (n : Nat) : Bool := okUpto S M n && decide ((n : Int) ≤ 30)

end Go.Proofs.Ytahhjhhnjpbocac
