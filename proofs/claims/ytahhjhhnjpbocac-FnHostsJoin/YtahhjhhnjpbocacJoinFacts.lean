/- DERIVED. Plain: what holds of two lists that are joined. Nothing of the program. -/
import Derived.Test.YtahhjhhnjpbocacJoinPlain
namespace Go.Proofs.Ytahhjhhnjpbocac

theorem merge_len_le (f : Nat) (a b : Hs) : (mergeF f a b).length ≤ a.length + b.length := by
  induction f generalizing a b with
  | zero => exact Nat.zero_le _
  | succ f ih =>
    cases a with
    | nil =>
      cases b with
      | nil => exact Nat.zero_le _
      | cons y b => have := ih [] b; rw [mergeF]; simp at this ⊢; omega
    | cons x a =>
      cases b with
      | nil => have := ih a []; rw [mergeF]; simp at this ⊢; omega
      | cons y b =>
        rw [mergeF]
        split
        · have := ih a (y :: b); simp at this ⊢; omega
        · split
          · have := ih (x :: a) b; simp at this ⊢; omega
          · have := ih a b; simp at this ⊢; omega

theorem merge_len_ge (f : Nat) (a b : Hs) (hf : a.length + b.length ≤ f) : a.length ≤ (mergeF f a b).length := by
  induction f generalizing a b with
  | zero => omega
  | succ f ih =>
    cases a with
    | nil => exact Nat.zero_le _
    | cons x a =>
      cases b with
      | nil => have := ih a [] (by simp at hf ⊢; omega); rw [mergeF]; simp at this ⊢; omega
      | cons y b =>
        rw [mergeF]
        split
        · have := ih a (y :: b) (by simp at hf ⊢; omega); simp at this ⊢; omega
        · split
          · have := ih (x :: a) b (by simp at hf ⊢; omega); simp at this ⊢; omega
          · have := ih a b (by simp at hf ⊢; omega); simp at this ⊢; omega

theorem okH_mem (o : Hs) (h : okH o = true) : ∀ x ∈ o, okB x.1 x.2 = true := by
  intro x hx
  obtain ⟨i, hi, e⟩ := List.getElem_of_mem hx
  have := (okH_each o h).2 i hi
  rw [← e, sof_at o i hi]; exact this

theorem ok_of (o : Hs) (h30 : o.length ≤ 30) (hp : o.Pairwise fun x y => lessH x y = true) (he : ∀ x ∈ o, okB x.1 x.2 = true) : okH o = true := by
  unfold okH listOk
  rw [Bool.and_eq_true, decide_eq_true_eq]
  refine ⟨?_, by omega⟩
  have : ∀ k, k ≤ o.length → okUpto (Sof o) (Mof o) k = true := by
    intro k
    induction k with
    | zero => intro _; rfl
    | succ k ih =>
      intro hk
      have hlt : k < o.length := by omega
      have h1 := he o[k] (List.getElem_mem hlt)
      rw [sof_at o k hlt] at h1
      rw [okUpto, ih (by omega), h1]
      by_cases h0 : k = 0
      · simp [h0]
      · have h2 := List.pairwise_iff_getElem.1 hp (k - 1) k (by omega) hlt (by omega)
        rw [sof_at o k hlt, sof_at o (k - 1) (by omega)] at h2
        have h3 : lessB (Sof o (k - 1)) (Mof o (k - 1)) (Sof o k) (Mof o k) = true := h2
        simp [h0, h3]
  exact this _ (Nat.le_refl _)

theorem merge_ok (A B : Hs) (hA : okH A = true) (hB : okH B = true) (h : (mergeF (A.length + B.length) A B).length ≤ 30) : okH (mergeF (A.length + B.length) A B) = true := by
  refine ok_of _ h (merge_pw _ _ _ (ok_pw A hA) (ok_pw B hB)) (fun x hx => ?_)
  rcases merge_mem _ _ _ _ hx with h1 | h1
  · exact okH_mem A hA x h1
  · exact okH_mem B hB x h1

/-- All that the law says of a list that came of two. -/
theorem join_facts (A B : Hs) (h : joinH A B ≠ []) :
    okH (joinH A B) = true ∧ joinH B A = joinH A B ∧ joinH (joinH A B) A = joinH A B ∧ joinH B (joinH A B) = joinH A B ∧ (joinH A B).length ≤ A.length + B.length ∧ A.length ≤ (joinH A B).length ∧ (joinH A B).length ≤ 30 ∧ okH A = true ∧ okH B = true ∧ ∀ x ∈ joinH A B, x ∈ A ∨ x ∈ B := by
  have hc : okH A = true ∧ okH B = true ∧ (mergeF (A.length + B.length) A B).length ≤ 30 := by
    unfold joinH at h
    split at h
    · rename_i hc; exact hc
    · exact absurd rfl h
  have e : joinH A B = mergeF (A.length + B.length) A B := by unfold joinH; rw [if_pos hc]
  obtain ⟨hA, hB, h30⟩ := hc
  have hJ := merge_ok A B hA hB h30
  have pA := ok_pw A hA
  have pB := ok_pw B hB
  have hmem : ∀ x, x ∈ mergeF (A.length + B.length) A B ↔ x ∈ A ∨ x ∈ B := fun x => ⟨fun h => merge_mem _ _ _ x h, fun h => merge_mem' _ _ _ (Nat.le_refl _) x h⟩
  rw [e]
  obtain ⟨J, hJe⟩ : ∃ J, J = mergeF (A.length + B.length) A B := ⟨_, rfl⟩
  have hle := merge_len_le (A.length + B.length) A B
  have hge := merge_len_ge (A.length + B.length) A B (Nat.le_refl _)
  rw [← hJe] at h30 hJ hmem hle hge ⊢
  have pJ := ok_pw J hJ
  have same : ∀ X Y : Hs, okH X = true → okH Y = true → (∀ x, (x ∈ X ∨ x ∈ Y) ↔ x ∈ J) → joinH X Y = J := by
    intro X Y hX hY hm
    have e2 : mergeF (X.length + Y.length) X Y = J := by
      refine strict_ext _ _ (merge_pw _ _ _ (ok_pw X hX) (ok_pw Y hY)) pJ (fun x => ?_)
      rw [← hm x]
      exact ⟨fun h => merge_mem _ _ _ x h, fun h => merge_mem' _ _ _ (Nat.le_refl _) x h⟩
    unfold joinH
    rw [e2, if_pos ⟨hX, hY, h30⟩]
  refine ⟨hJ, same B A hB hA (fun x => ?_), same J A hJ hA (fun x => ?_), same B J hB hJ (fun x => ?_), hle, hge, h30, hA, hB, fun x hx => (hmem x).1 hx⟩
  · rw [hmem x]; exact Or.comm
  · rw [hmem x]; exact ⟨fun h => by rcases h with (h | h) | h <;> simp [h], fun h => Or.inl h⟩
  · rw [hmem x]; exact ⟨fun h => by rcases h with h | h | h <;> simp [h], fun h => Or.inr h⟩

end Go.Proofs.Ytahhjhhnjpbocac
