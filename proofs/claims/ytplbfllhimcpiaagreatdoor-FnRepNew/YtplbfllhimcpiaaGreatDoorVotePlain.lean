/- DERIVED. Votes, plain: nothing of the program. -/
import Derived.WalkKit
namespace Go.Proofs.YtplbfllhimcpiaaGreatDoor

def noVote (n : Int) : Bool := !(n == -1) && !(decide (0 ≤ n) && decide (n ≤ 127))

def okV (V : List Int) : Bool := decide (V.length ≤ 3) && !(V.any noVote)

/-- How a command ended, as far as is known. -/
def endI (n : Int) : Int := if n = -1 then 123 else n

def maxL : List Int → Int
  | [] => 0
  | a :: t => t.foldl max a

def minL : List Int → Int
  | [] => 0
  | a :: t => t.foldl min a

/-- What more than half are. -/
def isMost (V : List Int) (n : Int) : Bool := !(n == -1) && decide (2 * V.count n > V.length)

def mostL (V : List Int) : Int := match V.find? (isMost V) with
  | some n => n
  | none => 123

/-- What is decided. -/
def polS (p : Int) (V : List Int) : Int :=
  if V = [] ∨ okV V = false then -1
  else if p = 1 then maxL (V.map endI)
  else if p = 2 then minL (V.map endI)
  else if p = 3 then mostL V
  else -1

theorem noVote_iff (n : Int) : noVote n = false ↔ (-1 ≤ n ∧ n ≤ 127) := by
  unfold noVote
  constructor
  · intro h
    by_cases h1 : n = -1
    · omega
    · simp [h1] at h
      omega
  · intro h
    by_cases h1 : n = -1
    · simp [h1]
    · have h2 : 0 ≤ n := by omega
      have h3 : n ≤ 127 := h.2
      simp [h2, h3]

theorem any_take (V : List Int) (p : Int → Bool) (k : Nat) (h : k < V.length) : (V.take (k + 1)).any p = ((V.take k).any p || p V[k]) := by
  rw [List.take_succ_eq_append_getElem h, List.any_append]
  simp

theorem any_of (V : List Int) (p : Int → Bool) (k : Nat) (h : k < V.length) (hp : p V[k] = true) : V.any p = true := by
  rw [List.any_eq_true]
  exact ⟨V[k], List.getElem_mem h, hp⟩

theorem find_next (V : List Int) (p : Int → Bool) (k : Nat) (h : k < V.length) (h0 : (V.take k).find? p = none) (hp : p V[k] = false) : (V.take (k + 1)).find? p = none := by
  rw [List.take_succ_eq_append_getElem h, List.find?_append, h0]
  simp [hp]

theorem find_hit (V : List Int) (p : Int → Bool) (k : Nat) (h : k < V.length) (h0 : (V.take k).find? p = none) (hp : p V[k] = true) : V.find? p = some V[k] := by
  have e : V = V.take k ++ V[k] :: V.drop (k + 1) := by rw [List.getElem_cons_drop, List.take_append_drop]
  conv => lhs; rw [e]
  rw [List.find?_append, h0, Option.none_or, List.find?_cons, hp]

theorem find_end (V : List Int) (p : Int → Bool) (k : Nat) (h : V.length ≤ k) (h0 : (V.take k).find? p = none) : V.find? p = none := by
  rw [List.take_of_length_le h] at h0
  exact h0

theorem count_take (V : List Int) (n : Int) (k : Nat) (h : k < V.length) : (V.take (k + 1)).count n = (V.take k).count n + (if V[k] = n then 1 else 0) := by
  rw [List.take_succ_eq_append_getElem h, List.count_append]
  by_cases e : V[k] = n
  · simp [e]
  · simp [e]

theorem count_le_len (V : List Int) (n : Int) (k : Nat) : (V.take k).count n ≤ V.length := by
  have h1 := List.count_le_length (a := n) (l := V.take k)
  have h2 : (V.take k).length ≤ V.length := by rw [List.length_take]; omega
  omega

theorem fold_take (V : List Int) (f : Int → Int → Int) (a : Int) (k : Nat) (h : k < V.length) : (V.take (k + 1)).foldl f a = f ((V.take k).foldl f a) V[k] := by
  rw [List.take_succ_eq_append_getElem h, List.foldl_append]
  rfl

theorem maxL_take (V : List Int) (k : Nat) (h0 : 1 ≤ k) (h : k < V.length) : maxL (V.take (k + 1)) = max (maxL (V.take k)) V[k] := by
  cases V with
  | nil => simp at h
  | cons a t =>
    obtain ⟨j, rfl⟩ : ∃ j, k = j + 1 := ⟨k - 1, by omega⟩
    have hj : j < t.length := by simpa using h
    simp only [List.take_succ_cons, maxL, List.getElem_cons_succ]
    exact fold_take t max a j hj

theorem minL_take (V : List Int) (k : Nat) (h0 : 1 ≤ k) (h : k < V.length) : minL (V.take (k + 1)) = min (minL (V.take k)) V[k] := by
  cases V with
  | nil => simp at h
  | cons a t =>
    obtain ⟨j, rfl⟩ : ∃ j, k = j + 1 := ⟨k - 1, by omega⟩
    have hj : j < t.length := by simpa using h
    simp only [List.take_succ_cons, minL, List.getElem_cons_succ]
    exact fold_take t min a j hj

/-- The model's greatest and least. -/
def endJ (n : Int) : Int := if n < 0 then 123 else n
def hiF (m n : Int) : Int := if endJ n > m then endJ n else m
def loF (m n : Int) : Int := if endJ n < m then endJ n else m

theorem okV_all {V : List Int} (h : okV V = true) : V.length ≤ 3 ∧ ∀ n ∈ V, -1 ≤ n ∧ n ≤ 127 := by
  simp only [okV, Bool.and_eq_true, decide_eq_true_eq, Bool.not_eq_true'] at h
  refine ⟨h.1, fun n hn => ?_⟩
  rw [← noVote_iff]
  have := h.2
  rw [List.any_eq_false] at this
  simpa using this n hn

theorem hi_step (m n : Int) (hm : 0 ≤ m) (hn : -1 ≤ n) : hiF m n = max m (endI n) ∧ 0 ≤ hiF m n := by
  unfold hiF endJ endI
  split <;> split <;> (try split) <;> (constructor <;> omega)

theorem lo_step (m n : Int) (hn : -1 ≤ n) : loF m n = min m (endI n) := by
  unfold loF endJ endI
  split <;> split <;> (try split) <;> omega

theorem hi_max (V : List Int) (hn : V ≠ []) (h : okV V = true) : V.foldl hiF 0 = maxL (V.map endI) := by
  obtain ⟨hl, ha⟩ := okV_all h
  match V, hn, hl, ha with
  | [a], _, _, ha =>
    have h1 := ha a (by simp)
    simp only [List.foldl, List.map, maxL]
    unfold hiF endJ endI
    split <;> split <;> (try split) <;> omega
  | [a, b], _, _, ha =>
    have h1 := ha a (by simp)
    have h2 := ha b (by simp)
    have e1 := hi_step 0 a (by omega) h1.1
    have e2 := hi_step (hiF 0 a) b e1.2 h2.1
    simp only [List.foldl, List.map, maxL]
    rw [e2.1, e1.1]
    unfold endI
    split <;> split <;> omega
  | [a, b, c], _, _, ha =>
    have h1 := ha a (by simp)
    have h2 := ha b (by simp)
    have h3 := ha c (by simp)
    have e1 := hi_step 0 a (by omega) h1.1
    have e2 := hi_step (hiF 0 a) b e1.2 h2.1
    have e3 := hi_step (hiF (hiF 0 a) b) c e2.2 h3.1
    simp only [List.foldl, List.map, maxL]
    rw [e3.1, e2.1, e1.1]
    unfold endI
    split <;> split <;> split <;> omega
  | a :: b :: c :: d :: t, _, hl, _ => simp at hl

theorem lo_min (V : List Int) (hn : V ≠ []) (h : okV V = true) : V.foldl loF 127 = minL (V.map endI) := by
  obtain ⟨hl, ha⟩ := okV_all h
  match V, hn, hl, ha with
  | [a], _, _, ha =>
    have h1 := ha a (by simp)
    simp only [List.foldl, List.map, minL]
    rw [lo_step _ _ h1.1]
    unfold endI
    split <;> omega
  | [a, b], _, _, ha =>
    have h1 := ha a (by simp)
    have h2 := ha b (by simp)
    simp only [List.foldl, List.map, minL]
    rw [lo_step _ _ h1.1, lo_step _ _ h2.1]
    unfold endI
    split <;> split <;> omega
  | [a, b, c], _, _, ha =>
    have h1 := ha a (by simp)
    have h2 := ha b (by simp)
    have h3 := ha c (by simp)
    simp only [List.foldl, List.map, minL]
    rw [lo_step _ _ h1.1, lo_step _ _ h2.1, lo_step _ _ h3.1]
    unfold endI
    split <;> split <;> split <;> omega
  | a :: b :: c :: d :: t, _, hl, _ => simp at hl

/-- The model's test. -/
def isMostJ (V : List Int) (n : Int) : Bool := decide (2 * V.count n > V.length) && decide (0 ≤ n)

theorem most_same (V : List Int) (h : okV V = true) : V.find? (isMostJ V) = V.find? (isMost V) := by
  obtain ⟨_, ha⟩ := okV_all h
  have key : ∀ W : List Int, (∀ n ∈ W, -1 ≤ n) → W.find? (isMostJ V) = W.find? (isMost V) := by
    intro W
    induction W with
    | nil => intro _; rfl
    | cons a t ih =>
      intro hw
      have e : isMostJ V a = isMost V a := by
        have h1 := hw a (by simp)
        unfold isMostJ isMost
        rw [Bool.and_comm]
        congr 1
        rw [Bool.eq_iff_iff]
        simp
        omega
      rw [List.find?_cons, List.find?_cons, e, ih (fun n hn => hw n (by simp [hn]))]
  exact key V (fun n hn => (ha n hn).1)

end Go.Proofs.YtplbfllhimcpiaaGreatDoor
