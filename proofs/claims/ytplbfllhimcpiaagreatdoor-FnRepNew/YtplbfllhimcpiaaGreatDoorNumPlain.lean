/- DERIVED. Plain functions and facts on numbers in a text: nothing of the program. -/
import Derived.Test.YtplbfllhimcpiaaGreatDoorPlain
namespace Go.Proofs.YtplbfllhimcpiaaGreatDoor

/-- A figure. -/
def figB (c : Int) : Bool := decide (48 ≤ c) && decide (c ≤ 57)

def figAll (l : List UInt8) : Bool := l.all fun c => figB (c.toNat : Int)

theorem figAll_snoc (s : ByteArray) (k : Nat) (h : k < s.size) : figAll (s.data.toList.take (k + 1)) = (figAll (s.data.toList.take k) && figB (s[k].toNat : Int)) := by
  rw [take_snoc s k h]; simp [figAll]

theorem figAll_take_false (s : ByteArray) (k : Nat) (h : figAll (s.data.toList.take k) = false) : figAll s.data.toList = false := by
  unfold figAll at *
  rw [List.all_eq_false] at *
  obtain ⟨x, hx, hf⟩ := h
  exact ⟨x, List.mem_of_mem_take hx, hf⟩

/-- How long the longest beginning of figures is. -/
def leadF : List UInt8 → Nat
  | [] => 0
  | c :: t => if figB (c.toNat : Int) = true then leadF t + 1 else 0

theorem leadF_none (l : List UInt8) (k : Nat) (hk : k < l.length) (h : figAll (l.take k) = true) (hc : figB (l[k].toNat : Int) = false) : leadF l = k := by
  induction l generalizing k with
  | nil => simp at hk
  | cons a t ih =>
    cases k with
    | zero => simp at hc; simp [leadF, hc]
    | succ k =>
      simp [figAll] at h
      have := ih k (by simpa using hk) (by simpa [figAll] using h.2) (by simpa using hc)
      simp [leadF, h.1, this]

theorem leadF_all (l : List UInt8) (h : figAll l = true) : leadF l = l.length := by
  induction l with
  | nil => rfl
  | cons a t ih =>
    simp [figAll] at h
    simp [leadF, h.1, ih (by simpa [figAll] using h.2)]

theorem leadF_lt (l : List UInt8) (h : figAll l = false) : leadF l < l.length := by
  induction l with
  | nil => simp [figAll] at h
  | cons a t ih =>
    cases hc : figB (a.toNat : Int)
    · simp [leadF, hc]
    · have : leadF t < t.length := ih (by simpa [figAll, hc] using h)
      simp [leadF, hc]; exact this

/-- What figures come to. -/
def numVal (l : List UInt8) : Int := l.foldl (fun n c => n * 10 + ((c.toNat : Int) - 48)) 0

theorem numVal_snoc (s : ByteArray) (k : Nat) (h : k < s.size) : numVal (s.data.toList.take (k + 1)) = numVal (s.data.toList.take k) * 10 + ((s[k].toNat : Int) - 48) := by
  rw [take_snoc s k h]; simp [numVal, List.foldl_append]

theorem fold_bd (l : List UInt8) (n : Int) (m : Nat) (h : figAll l = true) (h0 : 0 ≤ n) (h1 : n + 1 ≤ 10 ^ m) :
    0 ≤ l.foldl (fun n c => n * 10 + ((c.toNat : Int) - 48)) n ∧ l.foldl (fun n c => n * 10 + ((c.toNat : Int) - 48)) n + 1 ≤ 10 ^ (m + l.length) := by
  induction l generalizing n m with
  | nil => exact ⟨h0, h1⟩
  | cons a t ih =>
    simp [figAll, figB] at h
    obtain ⟨⟨ha, hb⟩, ht⟩ := h
    have e : (10 : Int) ^ (m + 1) = 10 ^ m * 10 := Int.pow_succ 10 m
    have := ih (n * 10 + ((a.toNat : Int) - 48)) (m + 1) (by simpa [figAll, figB] using ht) (by omega) (by rw [e]; omega)
    simp only [List.foldl_cons, List.length_cons]
    rw [show m + (t.length + 1) = m + 1 + t.length by omega]
    exact this

theorem numVal_bd (l : List UInt8) (h : figAll l = true) (h6 : l.length ≤ 6) : 0 ≤ numVal l ∧ numVal l ≤ 999999 := by
  have := fold_bd l 0 0 h (by decide) (by decide)
  unfold numVal
  rw [Nat.zero_add] at this
  have hp : (10 : Int) ^ l.length ≤ 10 ^ 6 := by
    have : (10 : Nat) ^ l.length ≤ 10 ^ 6 := Nat.pow_le_pow_right (by decide) h6
    exact_mod_cast this
  have e6 : (10 : Int) ^ 6 = 1000000 := by decide
  omega

/-- The figures of a text are a number: 1 to 6 of them, without needless noughts ahead. -/
def isNum (l : List UInt8) : Bool := !l.isEmpty && (decide (l.length ≤ 6) && (figAll l && !(decide (1 < l.length) && (l.headD 0 == 48))))

/-- The number that a text says; -1, if it says none. -/
def numOf (l : List UInt8) : Int := if isNum l = true then numVal l else -1

theorem numOf_yes (l : List UInt8) (h : isNum l = true) : 0 ≤ numOf l ∧ numOf l ≤ 999999 := by
  unfold numOf; rw [if_pos h]
  simp only [isNum, Bool.and_eq_true, decide_eq_true_eq] at h
  exact numVal_bd l h.2.2.1 h.2.1

theorem numOf_no (l : List UInt8) (h : isNum l = false) : numOf l = -1 := by
  unfold numOf; rw [if_neg (by rw [h]; decide)]

theorem isNum_fig (l : List UInt8) (h : figAll l = false) : isNum l = false := by
  simp [isNum, h]

theorem isNum_long (l : List UInt8) (h : 6 < l.length) : isNum l = false := by
  have : decide (l.length ≤ 6) = false := by simpa using h
  simp [isNum, this]

theorem isNum_empty : isNum [] = false := rfl

theorem isNum_nought (s : ByteArray) (h1 : 1 < s.size) (h : (s[0]'(by omega)).toNat = 48) : isNum s.data.toList = false := by
  have hl : s.data.toList.length = s.size := by simp
  have e : s.data.toList.headD 0 = s[0]'(by omega) := by
    rw [List.headD_eq_head?_getD, List.head?_eq_getElem?, List.getElem?_eq_getElem (by omega)]; rfl
  have e2 : (s[0]'(by omega)) = (48 : UInt8) := UInt8.toNat_inj.mp h
  unfold isNum
  rw [e, e2, hl]
  simp [h1]

theorem isNum_good (s : ByteArray) (h0 : s.size ≠ 0) (h6 : s.size ≤ 6) (hf : figAll s.data.toList = true) (h : s.size ≤ 1 ∨ (s[0]'(by omega)).toNat ≠ 48) : isNum s.data.toList = true := by
  have hl : s.data.toList.length = s.size := by simp
  have e : s.data.toList.headD 0 = s[0]'(by omega) := by
    rw [List.headD_eq_head?_getD, List.head?_eq_getElem?, List.getElem?_eq_getElem (by omega)]; rfl
  have ne : s.data.toList.isEmpty = false := by
    rw [List.isEmpty_eq_false_iff]; intro e; rw [e] at hl; simp at hl; omega
  unfold isNum
  rw [e, hl, ne, hf]
  rcases h with h | h
  · simp [h6]; omega
  · have : (s[0]'(by omega)) ≠ (48 : UInt8) := fun c => h (by rw [c]; rfl)
    simp [h6, this]

end Go.Proofs.YtplbfllhimcpiaaGreatDoor
