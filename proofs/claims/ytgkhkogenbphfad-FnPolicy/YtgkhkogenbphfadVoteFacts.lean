/- DERIVED. What the law of votes says, plain: nothing of the program. -/
import Derived.Test.YtgkhkogenbphfadVotePlain
namespace Go.Proofs.Ytgkhkogenbphfad

theorem count_two (n m : Int) (h : n ≠ m) : ∀ V : List Int, V.count n + V.count m ≤ V.length
  | [] => by simp
  | a :: t => by
    have ih := count_two n m h t
    rw [List.count_cons, List.count_cons, List.length_cons]
    by_cases h1 : a = n
    · have h2 : ¬ a = m := fun e => h (h1.symm.trans e)
      simp [h1, h]
      omega
    · by_cases h2 : a = m
      · simp [h2, Ne.symm h]
        omega
      · simp [h1, h2]
        omega

theorem most_true {V : List Int} {n : Int} (h : isMost V n = true) : n ≠ -1 ∧ V.length < 2 * V.count n := by
  simpa [isMost] using h

theorem most_is {V : List Int} {n : Int} (h : isMost V n = true) : mostL V = n := by
  have h1 := most_true h
  have hmem : n ∈ V := List.count_pos_iff.1 (by omega)
  unfold mostL
  cases hf : V.find? (isMost V) with
  | none =>
    rw [List.find?_eq_none] at hf
    exact absurd h (hf n hmem)
  | some m =>
    have h2 := most_true (List.find?_some hf)
    by_cases e : m = n
    · exact e
    · have := count_two m n e V
      omega

theorem most_none {V : List Int} (h : ∀ n ∈ V, isMost V n = false) : mostL V = 123 := by
  unfold mostL
  rw [List.find?_eq_none.2 (fun n hn => by rw [h n hn]; exact Bool.false_ne_true)]

theorem most_rev_one (V : List Int) (n : Int) : isMost V.reverse n = isMost V n := by
  unfold isMost
  rw [List.count_reverse, List.length_reverse]

theorem most_rev (V : List Int) : mostL V.reverse = mostL V := by
  by_cases h : ∃ n, isMost V n = true
  · obtain ⟨n, hn⟩ := h
    rw [most_is hn, most_is (by rw [most_rev_one]; exact hn)]
  · have hf : ∀ n, isMost V n = false := fun n => by
      cases hn : isMost V n
      · rfl
      · exact absurd ⟨n, hn⟩ h
    rw [most_none (fun n _ => hf n), most_none (fun n _ => by rw [most_rev_one]; exact hf n)]

theorem ok_rev (V : List Int) : okV V.reverse = okV V := by
  unfold okV
  rw [List.length_reverse, List.any_reverse]

theorem max_rev (V : List Int) (hl : V.length ≤ 3) : maxL (V.reverse.map endI) = maxL (V.map endI) := by
  match V, hl with
  | [], _ => rfl
  | [a], _ => rfl
  | [a, b], _ => simp only [List.reverse_cons, List.reverse_nil, List.nil_append, List.cons_append, List.map, List.foldl, maxL]; omega
  | [a, b, c], _ => simp only [List.reverse_cons, List.reverse_nil, List.nil_append, List.cons_append, List.map, List.foldl, maxL]; omega
  | a :: b :: c :: d :: t, hl => simp at hl

theorem min_rev (V : List Int) (hl : V.length ≤ 3) : minL (V.reverse.map endI) = minL (V.map endI) := by
  match V, hl with
  | [], _ => rfl
  | [a], _ => rfl
  | [a, b], _ => simp only [List.reverse_cons, List.reverse_nil, List.nil_append, List.cons_append, List.map, List.foldl, minL]; omega
  | [a, b, c], _ => simp only [List.reverse_cons, List.reverse_nil, List.nil_append, List.cons_append, List.map, List.foldl, minL]; omega
  | a :: b :: c :: d :: t, hl => simp at hl

theorem pol_rev (p : Int) (V : List Int) (h : okV V = true) : polS p V.reverse = polS p V := by
  have hl := (okV_all h).1
  unfold polS
  rw [ok_rev, max_rev V hl, min_rev V hl, most_rev]
  simp only [List.reverse_eq_nil_iff]

theorem pol_pos {p : Int} {V : List Int} (h : 0 ≤ polS p V) : V ≠ [] ∧ okV V = true := by
  unfold polS at h
  split at h
  · omega
  · rename_i hn
    refine ⟨fun e => hn (Or.inl e), ?_⟩
    cases ho : okV V
    · exact absurd (Or.inr ho) hn
    · rfl

theorem count_three (a b c : Int) : ([a, b, c].count 0 = (if a = 0 then 1 else 0) + (if b = 0 then 1 else 0) + (if c = 0 then 1 else 0)) := by
  simp only [List.count_cons, List.count_nil, beq_iff_eq]
  omega
theorem count_pair (a b : Int) : ([a, b].count 0 = (if a = 0 then 1 else 0) + (if b = 0 then 1 else 0)) := by
  simp only [List.count_cons, List.count_nil, beq_iff_eq]
  omega
theorem count_single (a : Int) : ([a].count 0 = (if a = 0 then 1 else 0)) := by
  simp only [List.count_cons, List.count_nil, beq_iff_eq]
  omega

theorem all_zero (V : List Int) (hn : V ≠ []) (h : okV V = true) : maxL (V.map endI) = 0 ↔ V.count 0 = V.length := by
  obtain ⟨hl, ha⟩ := okV_all h
  match V, hn, hl, ha with
  | [a], _, _, ha =>
    have h1 := ha a (by simp)
    rw [count_single]
    simp only [List.map, List.foldl, maxL, List.length]
    unfold endI
    split <;> split <;> omega
  | [a, b], _, _, ha =>
    have h1 := ha a (by simp)
    have h2 := ha b (by simp)
    rw [count_pair]
    simp only [List.map, List.foldl, maxL, List.length]
    unfold endI
    split <;> split <;> split <;> split <;> omega
  | [a, b, c], _, _, ha =>
    have h1 := ha a (by simp)
    have h2 := ha b (by simp)
    have h3 := ha c (by simp)
    rw [count_three]
    simp only [List.map, List.foldl, maxL, List.length]
    unfold endI
    split <;> split <;> split <;> split <;> split <;> split <;> omega
  | a :: b :: c :: d :: t, _, hl, _ => simp at hl

theorem some_zero (V : List Int) (hn : V ≠ []) (h : okV V = true) : minL (V.map endI) = 0 ↔ 0 < V.count 0 := by
  obtain ⟨hl, ha⟩ := okV_all h
  match V, hn, hl, ha with
  | [a], _, _, ha =>
    have h1 := ha a (by simp)
    rw [count_single]
    simp only [List.map, List.foldl, minL]
    unfold endI
    split <;> split <;> omega
  | [a, b], _, _, ha =>
    have h1 := ha a (by simp)
    have h2 := ha b (by simp)
    rw [count_pair]
    simp only [List.map, List.foldl, minL]
    unfold endI
    split <;> split <;> split <;> split <;> omega
  | [a, b, c], _, _, ha =>
    have h1 := ha a (by simp)
    have h2 := ha b (by simp)
    have h3 := ha c (by simp)
    rw [count_three]
    simp only [List.map, List.foldl, minL]
    unfold endI
    split <;> split <;> split <;> split <;> split <;> split <;> omega
  | a :: b :: c :: d :: t, _, hl, _ => simp at hl

theorem most_zero (V : List Int) : mostL V = 0 ↔ V.length < 2 * V.count 0 := by
  constructor
  · intro h
    unfold mostL at h
    cases hf : V.find? (isMost V) with
    | none => rw [hf] at h; simp at h
    | some m =>
      rw [hf] at h
      have h' : m = 0 := h
      subst h'
      exact (most_true (List.find?_some hf)).2
  · intro h
    exact most_is (by simp [isMost]; omega)

theorem min_le_max (V : List Int) (hl : V.length ≤ 3) : minL (V.map endI) ≤ maxL (V.map endI) := by
  match V, hl with
  | [], _ => simp [minL, maxL]
  | [a], _ => simp [minL, maxL]
  | [a, b], _ => simp only [List.map, List.foldl, minL, maxL]; omega
  | [a, b, c], _ => simp only [List.map, List.foldl, minL, maxL]; omega
  | a :: b :: c :: d :: t, hl => simp at hl

theorem one_vote (V : List Int) (hn : V.length = 1) (h : okV V = true) : ∃ v, V = [v] ∧ ((v = -1 ∧ maxL (V.map endI) = 123) ∨ (0 ≤ v ∧ maxL (V.map endI) = v ∧ minL (V.map endI) = v ∧ mostL V = v)) := by
  obtain ⟨v, rfl⟩ := List.length_eq_one_iff.1 hn
  have h1 := (okV_all h).2 v (by simp)
  refine ⟨v, rfl, ?_⟩
  by_cases e : v = -1
  · left
    subst e
    exact ⟨rfl, rfl⟩
  · right
    refine ⟨by omega, ?_, ?_, ?_⟩
    · simp [maxL, endI, e]
    · simp [minL, endI, e]
    · exact most_is (by simp [isMost, e])

end Go.Proofs.Ytgkhkogenbphfad
