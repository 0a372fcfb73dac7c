/- DERIVED. Plain functions and facts: how hosts are folded. Nothing of the program. -/
import Derived.Test.YtahhjhhnjpbocaaDoorHsPlain
import Derived.Lib.ItoaNum
namespace Go.Proofs.YtahhjhhnjpbocaaDoor

/-- How many from i on belong together, ahead of n: each one to the one ahead of it. -/
def stretchF (p : Nat → Bool) : Nat → Nat → Nat
  | 0, _ => 1
  | d + 1, i => if 0 < d ∧ p (i + 1) = true then stretchF p d (i + 1) + 1 else 1

def stretch (p : Nat → Bool) (i n : Nat) : Nat := stretchF p (n - i) i

theorem stretch_eqn (p : Nat → Bool) (i n : Nat) : stretch p i n = if _h : i + 1 < n ∧ p (i + 1) = true then stretch p (i + 1) n + 1 else 1 := by
  unfold stretch
  cases hd : n - i with
  | zero => rw [dif_neg (by omega)]; rfl
  | succ d =>
    rw [show n - (i + 1) = d by omega]
    show (if 0 < d ∧ p (i + 1) = true then stretchF p d (i + 1) + 1 else 1) = _
    by_cases h : 0 < d ∧ p (i + 1) = true
    · rw [if_pos h, dif_pos ⟨by omega, h.2⟩]
    · rw [if_neg h, dif_neg (fun c => h ⟨by omega, c.2⟩)]

/-- Step by step from i on, as long as it is ahead of n. -/
def stepsF {α : Type} (n : Nat) (k : Nat → Nat) (z : α) (f : Nat → α → α) : Nat → Nat → α
  | 0, _ => z
  | d + 1, i => if i < n then f i (stepsF n k z f d (i + k i)) else z

theorem stepsF_more {α : Type} (n : Nat) (k : Nat → Nat) (z : α) (f : Nat → α → α) (hk : ∀ i, 1 ≤ k i) (d e i : Nat) (hd : n - i ≤ d) (he : n - i ≤ e) : stepsF n k z f d i = stepsF n k z f e i := by
  induction d generalizing e i with
  | zero =>
    cases e with
    | zero => rfl
    | succ e => show z = if i < n then _ else z; rw [if_neg (by omega)]
  | succ d ih =>
    cases e with
    | zero => show (if i < n then _ else z) = z; rw [if_neg (by omega)]
    | succ e =>
      show (if i < n then f i (stepsF n k z f d (i + k i)) else z) = if i < n then f i (stepsF n k z f e (i + k i)) else z
      by_cases h : i < n
      · have := hk i
        rw [ih e (i + k i) (by omega) (by omega)]
      · rw [if_neg h, if_neg h]

theorem stepsF_eqn {α : Type} (n : Nat) (k : Nat → Nat) (z : α) (f : Nat → α → α) (hk : ∀ i, 1 ≤ k i) (i : Nat) : stepsF n k z f (n - i) i = if _h : i < n then f i (stepsF n k z f (n - (i + k i)) (i + k i)) else z := by
  by_cases h : i < n
  · rw [dif_pos h]
    obtain ⟨d, hd⟩ : ∃ d, n - i = d + 1 := ⟨n - i - 1, by omega⟩
    rw [hd]
    show (if i < n then f i (stepsF n k z f d (i + k i)) else z) = _
    have := hk i
    rw [if_pos h, stepsF_more n k z f hk d (n - (i + k i)) (i + k i) (by omega) (by omega)]
  · rw [dif_neg h, show n - i = 0 by omega]; rfl

theorem stretch_pos (p : Nat → Bool) (i n : Nat) : 1 ≤ stretch p i n := by
  rw [stretch_eqn]; split <;> omega

theorem stretch_le (p : Nat → Bool) (i n : Nat) (h : i < n) : i + stretch p i n ≤ n := by
  generalize hd : n - i = d
  induction d generalizing i with
  | zero => omega
  | succ d ih =>
    rw [stretch_eqn]
    split
    · rename_i hc
      have := ih (i + 1) hc.1 (by omega)
      omega
    · omega

/-- So many as belong together, and the next one does not. -/
theorem stretch_eq (p : Nat → Bool) (i n k : Nat) (hk : 1 ≤ k) (hall : ∀ j, i < j → j < i + k → p j = true) (hn : i + k ≤ n) (hend : i + k = n ∨ p (i + k) = false) : stretch p i n = k := by
  induction k generalizing i with
  | zero => omega
  | succ k ih =>
    rw [stretch_eqn]
    cases k with
    | zero =>
      rw [dif_neg]
      rintro ⟨h1, h2⟩
      rcases hend with h | h
      · omega
      · rw [h] at h2; cases h2
    | succ k =>
      rw [dif_pos ⟨by omega, hall (i + 1) (by omega) (by omega)⟩]
      rw [ih (i + 1) (by omega) (fun j h1 h2 => hall j (by omega) (by omega)) (by omega) (by rcases hend with h | h
                                                                                             · left; omega
                                                                                             · right; rw [← h]; congr 1; omega)]

theorem stretch_all (p : Nat → Bool) (i n j : Nat) (h1 : i < j) (h2 : j < i + stretch p i n) : p j = true := by
  generalize hd : n - i = d
  induction d generalizing i with
  | zero =>
    rw [stretch_eqn, dif_neg (by omega)] at h2
    omega
  | succ d ih =>
    rw [stretch_eqn] at h2
    split at h2
    · rename_i hc
      by_cases e : j = i + 1
      · rw [e]; exact hc.2
      · exact ih (i + 1) (by omega) (by omega) (by omega)
    · omega

/-- A name goes on; a number is the next one. -/
def sameP (S : Nat → ByteArray) (j : Nat) : Bool := (S j).toList == (S (j - 1)).toList
def nextP (M : Nat → Int) (j : Nat) : Bool := M j == M (j - 1) + 1

theorem same_chain (S : Nat → ByteArray) (i k : Nat) (hk : 1 ≤ k) (h : ∀ j, i < j → j < i + k → sameP S j = true) : (S (i + k - 1)).toList = (S i).toList := by
  induction k with
  | zero => omega
  | succ k ih =>
    by_cases e : k = 0
    · subst e; rfl
    · have h1 := ih (by omega) (fun j a b => h j a (by omega))
      have h2 := h (i + k) (by omega) (by omega)
      unfold sameP at h2
      rw [beq_iff_eq] at h2
      rw [show i + (k + 1) - 1 = i + k by omega, h2, h1]

theorem same_next (S : Nat → ByteArray) (i k : Nat) (hk : 1 ≤ k) (h : ∀ j, i < j → j < i + k → sameP S j = true) : sameP S (i + k) = ((S (i + k)).toList == (S i).toList) := by
  unfold sameP; rw [same_chain S i k hk h]

theorem next_chain (M : Nat → Int) (i k : Nat) (hk : 1 ≤ k) (h : ∀ j, i < j → j < i + k → nextP M j = true) : M (i + k - 1) = M i + (k - 1 : Int) := by
  induction k with
  | zero => omega
  | succ k ih =>
    by_cases e : k = 0
    · subst e; simp
    · have h1 := ih (by omega) (fun j a b => h j a (by omega))
      have h2 := h (i + k) (by omega) (by omega)
      unfold nextP at h2
      rw [beq_iff_eq] at h2
      rw [show i + (k + 1) - 1 = i + k by omega, h2, h1]
      omega

theorem next_next (M : Nat → Int) (i k : Nat) (hk : 1 ≤ k) (h : ∀ j, i < j → j < i + k → nextP M j = true) : nextP M (i + k) = (M (i + k) == M i + k) := by
  unfold nextP; rw [next_chain M i k hk h]; congr 1; omega

theorem stretch_more (p : Nat → Bool) (i k j : Nat) (h : ∀ j, i < j → j < i + k → p j = true) (hj : j = i + k) (hp : p j = true) : ∀ j, i < j → j < i + (k + 1) → p j = true := by
  intro x h1 h2
  by_cases e : x = j
  · rw [e]; exact hp
  · exact h x h1 (by omega)

/-- The decimals of a number. -/
def decL (n : Int) : List UInt8 := Lib.decDigits n.toNat

/-- One run of numbers. -/
def runL (M : Nat → Int) (i k : Nat) : List UInt8 := decL (M i) ++ (if 1 < k then 45 :: decL (M (i + k - 1)) else [])

/-- The numbers from i on, ahead of n. -/
def numsL (M : Nat → Int) (i n : Nat) : List UInt8 :=
  stepsF n (fun i => stretch (nextP M) i n) [] (fun i r => runL M i (stretch (nextP M) i n) ++ (if i + stretch (nextP M) i n < n then 44 :: r else [])) (n - i) i

theorem numsL_eqn (M : Nat → Int) (i n : Nat) : numsL M i n = if _h : i < n then runL M i (stretch (nextP M) i n) ++ (if i + stretch (nextP M) i n < n then 44 :: numsL M (i + stretch (nextP M) i n) n else []) else [] :=
  stepsF_eqn n _ _ _ (fun i => stretch_pos (nextP M) i n) i

/-- One name with its numbers. -/
def nameL (S : Nat → ByteArray) (M : Nat → Int) (i k : Nat) : List UInt8 :=
  if k = 1 then (S i).data.toList ++ decL (M i) else (S i).data.toList ++ (91 :: (numsL M i (i + k) ++ [93]))

/-- The hosts from i on, ahead of n, folded. -/
def foldL (S : Nat → ByteArray) (M : Nat → Int) (i n : Nat) : List UInt8 :=
  stepsF n (fun i => stretch (sameP S) i n) [] (fun i r => nameL S M i (stretch (sameP S) i n) ++ (if i + stretch (sameP S) i n < n then 44 :: r else [])) (n - i) i

theorem foldL_eqn (S : Nat → ByteArray) (M : Nat → Int) (i n : Nat) : foldL S M i n = if _h : i < n then nameL S M i (stretch (sameP S) i n) ++ (if i + stretch (sameP S) i n < n then 44 :: foldL S M (i + stretch (sameP S) i n) n else []) else [] :=
  stepsF_eqn n _ _ _ (fun i => stretch_pos (sameP S) i n) i

theorem stretch_shift (p : Nat → Bool) (a i n : Nat) : stretch (fun j => p (a + j)) i n = stretch p (a + i) (a + n) := by
  generalize hd : n - i = d
  induction d generalizing i with
  | zero => rw [stretch_eqn, dif_neg (by omega), stretch_eqn, dif_neg (by omega)]
  | succ d ih =>
    by_cases h : i + 1 < n ∧ p (a + (i + 1)) = true
    · have e1 : stretch (fun j => p (a + j)) i n = stretch (fun j => p (a + j)) (i + 1) n + 1 := by rw [stretch_eqn, dif_pos h]
      have e2 : stretch p (a + i) (a + n) = stretch p (a + i + 1) (a + n) + 1 := by rw [stretch_eqn, dif_pos ⟨by omega, by rw [Nat.add_assoc]; exact h.2⟩]
      rw [e1, e2, ih (i + 1) (by omega), Nat.add_assoc]
    · have e1 : stretch (fun j => p (a + j)) i n = 1 := by rw [stretch_eqn, dif_neg h]
      have e2 : stretch p (a + i) (a + n) = 1 := by rw [stretch_eqn, dif_neg (fun c => h ⟨by omega, by rw [← Nat.add_assoc]; exact c.2⟩)]
      rw [e1, e2]

/-- The numbers of a part of a list are the part's numbers. -/
theorem numsL_shift (M : Nat → Int) (a i n : Nat) : numsL (fun j => M (a + j)) i n = numsL M (a + i) (a + n) := by
  generalize hd : n - i = d
  induction d using Nat.strongRecOn generalizing i with
  | _ d ih =>
    by_cases h : i < n
    · have hp := stretch_pos (nextP (fun j => M (a + j))) i n
      have hs : stretch (nextP (fun j => M (a + j))) i n = stretch (nextP M) (a + i) (a + n) := by
        rw [← stretch_shift]
        have : ∀ j k, stretch (nextP fun j => M (a + j)) j k = stretch (fun j => nextP M (a + j)) j k := by
          intro j k
          generalize he : k - j = e
          induction e generalizing j with
          | zero => rw [stretch_eqn, dif_neg (by omega), stretch_eqn, dif_neg (by omega)]
          | succ e ihe =>
            have hq : nextP (fun j => M (a + j)) (j + 1) = nextP M (a + (j + 1)) := by
              unfold nextP; rw [show a + (j + 1) - 1 = a + (j + 1 - 1) by omega]
            by_cases hc : j + 1 < k ∧ nextP M (a + (j + 1)) = true
            · have e1 : stretch (nextP fun j => M (a + j)) j k = stretch (nextP fun j => M (a + j)) (j + 1) k + 1 := by rw [stretch_eqn, dif_pos ⟨hc.1, by rw [hq]; exact hc.2⟩]
              have e2 : stretch (fun j => nextP M (a + j)) j k = stretch (fun j => nextP M (a + j)) (j + 1) k + 1 := by rw [stretch_eqn, dif_pos hc]
              rw [e1, e2, ihe (j + 1) (by omega)]
            · have e1 : stretch (nextP fun j => M (a + j)) j k = 1 := by rw [stretch_eqn, dif_neg (fun c => hc ⟨c.1, by rw [← hq]; exact c.2⟩)]
              have e2 : stretch (fun j => nextP M (a + j)) j k = 1 := by rw [stretch_eqn, dif_neg hc]
              rw [e1, e2]
        exact this i n
      have e1 : numsL (fun j => M (a + j)) i n = runL (fun j => M (a + j)) i (stretch (nextP (fun j => M (a + j))) i n) ++ (if i + stretch (nextP (fun j => M (a + j))) i n < n then 44 :: numsL (fun j => M (a + j)) (i + stretch (nextP (fun j => M (a + j))) i n) n else []) := by rw [numsL_eqn, dif_pos h]
      have e2 : numsL M (a + i) (a + n) = runL M (a + i) (stretch (nextP M) (a + i) (a + n)) ++ (if a + i + stretch (nextP M) (a + i) (a + n) < a + n then 44 :: numsL M (a + i + stretch (nextP M) (a + i) (a + n)) (a + n) else []) := by rw [numsL_eqn, dif_pos (by omega)]
      rw [e1, e2]
      rw [← hs]
      have er : runL (fun j => M (a + j)) i (stretch (nextP (fun j => M (a + j))) i n) = runL M (a + i) (stretch (nextP (fun j => M (a + j))) i n) := by
        unfold runL; dsimp only; rw [show a + (i + stretch (nextP fun j => M (a + j)) i n - 1) = a + i + stretch (nextP fun j => M (a + j)) i n - 1 by omega]
      rw [er, ih (n - (i + stretch (nextP (fun j => M (a + j))) i n)) (by omega) _ rfl]
      by_cases hl : i + stretch (nextP (fun j => M (a + j))) i n < n
      · rw [if_pos hl, if_pos (by omega), Nat.add_assoc]
      · rw [if_neg hl, if_neg (by omega)]
    · rw [numsL_eqn, dif_neg h, numsL_eqn, dif_neg (by omega)]

/-- What is still to be written of the numbers, of the hosts. -/
def tailN (M : Nat → Int) (i n : Nat) : List UInt8 := if i < n then (if i = 0 then numsL M 0 n else 44 :: numsL M i n) else []
def tailF (S : Nat → ByteArray) (M : Nat → Int) (i n : Nat) : List UInt8 := if i < n then (if i = 0 then foldL S M 0 n else 44 :: foldL S M i n) else []

/-- The comma ahead. -/
def commaL (i : Nat) : List UInt8 := if i = 0 then [] else [44]

theorem tailN_step (M : Nat → Int) (i n : Nat) (h : i < n) : tailN M i n = commaL i ++ (runL M i (stretch (nextP M) i n) ++ tailN M (i + stretch (nextP M) i n) n) := by
  have hp := stretch_pos (nextP M) i n
  have e : numsL M i n = runL M i (stretch (nextP M) i n) ++ tailN M (i + stretch (nextP M) i n) n := by
    rw [numsL_eqn, dif_pos h]
    unfold tailN
    by_cases hl : i + stretch (nextP M) i n < n
    · rw [if_pos hl, if_pos hl, if_neg (by omega)]
    · rw [if_neg hl, if_neg hl]
  rw [← e]
  unfold tailN commaL
  rw [if_pos h]
  by_cases h0 : i = 0
  · subst h0; simp
  · simp [h0]

theorem tailF_step (S : Nat → ByteArray) (M : Nat → Int) (i n : Nat) (h : i < n) : tailF S M i n = commaL i ++ (nameL S M i (stretch (sameP S) i n) ++ tailF S M (i + stretch (sameP S) i n) n) := by
  have hp := stretch_pos (sameP S) i n
  have e : foldL S M i n = nameL S M i (stretch (sameP S) i n) ++ tailF S M (i + stretch (sameP S) i n) n := by
    rw [foldL_eqn, dif_pos h]
    unfold tailF
    by_cases hl : i + stretch (sameP S) i n < n
    · rw [if_pos hl, if_pos hl, if_neg (by omega)]
    · rw [if_neg hl, if_neg hl]
  rw [← e]
  unfold tailF commaL
  rw [if_pos h]
  by_cases h0 : i = 0
  · subst h0; simp
  · simp [h0]

theorem decL_len (n : Int) (h : n ≤ 999) : (decL n).length ≤ 1000 := by
  have hd : ∀ u : Nat, (Lib.decDigits u).length ≤ u + 1 := by
    intro u
    induction u using Nat.strongRecOn with
    | _ u ih =>
      rw [Lib.decDigits]
      by_cases h : u < 10
      · rw [dif_pos h]; simp
      · rw [dif_neg h]
        have := ih (u / 10) (by omega)
        simp only [List.length_append, List.length_singleton]
        omega
  have := hd n.toNat
  unfold decL
  omega

theorem runL_len (M : Nat → Int) (i k : Nat) (h : M i ≤ 999) (h2 : M (i + k - 1) ≤ 999) : (runL M i k).length ≤ 2001 := by
  have h3 := decL_len _ h
  have h4 := decL_len _ h2
  unfold runL
  rw [List.length_append]
  split
  · rw [List.length_cons]; omega
  · simp; omega

theorem numsL_len (M : Nat → Int) (i n : Nat) (hM : ∀ j, i ≤ j → j < n → M j ≤ 999) : (numsL M i n).length ≤ 2002 * (n - i) := by
  generalize hd : n - i = d
  induction d using Nat.strongRecOn generalizing i with
  | _ d ih =>
    by_cases h : i < n
    · have hp := stretch_pos (nextP M) i n
      have hl := stretch_le (nextP M) i n h
      have hr := runL_len M i (stretch (nextP M) i n) (hM i (by omega) h) (hM _ (by omega) (by omega))
      have := ih (n - (i + stretch (nextP M) i n)) (by omega) (i + stretch (nextP M) i n) (fun j a b => hM j (by omega) b) rfl
      rw [numsL_eqn, dif_pos h, List.length_append]
      by_cases hl : i + stretch (nextP M) i n < n
      · rw [if_pos hl, List.length_cons]; omega
      · rw [if_neg hl, List.length_nil]; omega
    · rw [numsL_eqn, dif_neg h]; simp

theorem nameL_len (S : Nat → ByteArray) (M : Nat → Int) (i k : Nat) (hk : 1 ≤ k) (hS : (S i).size ≤ 6) (hM : ∀ j, i ≤ j → j < i + k → M j ≤ 999) : (nameL S M i k).length ≤ 2010 * k := by
  have h1 := decL_len _ (hM i (by omega) (by omega))
  have h2 := numsL_len M i (i + k) hM
  have h3 : (S i).data.toList.length = (S i).size := by simp
  unfold nameL
  split
  · rw [List.length_append]; omega
  · rw [List.length_append, List.length_cons, List.length_append, List.length_singleton]; omega

theorem foldL_len (S : Nat → ByteArray) (M : Nat → Int) (i n : Nat) (hS : ∀ j, i ≤ j → j < n → (S j).size ≤ 6) (hM : ∀ j, i ≤ j → j < n → M j ≤ 999) : (foldL S M i n).length ≤ 2011 * (n - i) := by
  generalize hd : n - i = d
  induction d using Nat.strongRecOn generalizing i with
  | _ d ih =>
    by_cases h : i < n
    · have hp := stretch_pos (sameP S) i n
      have hl := stretch_le (sameP S) i n h
      have hr := nameL_len S M i (stretch (sameP S) i n) hp (hS i (by omega) h) (fun j a b => hM j a (by omega))
      have := ih (n - (i + stretch (sameP S) i n)) (by omega) (i + stretch (sameP S) i n) (fun j a b => hS j (by omega) b) (fun j a b => hM j (by omega) b) rfl
      rw [foldL_eqn, dif_pos h, List.length_append]
      by_cases hl : i + stretch (sameP S) i n < n
      · rw [if_pos hl, List.length_cons]; omega
      · rw [if_neg hl, List.length_nil]; omega
    · rw [foldL_eqn, dif_neg h]; simp

/-- A text of these bytes. -/
def mkS (l : List UInt8) : ByteArray := ⟨l.toArray⟩

theorem mkS_of {o : ByteArray} {l : List UInt8} (h : o.data.toList = l) : o = mkS l := by
  subst h; rfl

theorem cat_l (a b : ByteArray) : (a ++ b).data.toList = a.data.toList ++ b.data.toList := by simp

end Go.Proofs.YtahhjhhnjpbocaaDoor
