/- DERIVED. Decimals and numbers, there and back: plain. -/
import Derived.Test.YtplbfllhimcpiaaGreatDoorNumPlain
import Derived.Test.YtplbfllhimcpiaaGreatDoorDec
namespace Go.Proofs.YtplbfllhimcpiaaGreatDoor
open Go.RowKit

theorem dec_snoc (u : Nat) (h : ¬ u < 10) : Lib.decDigits u = Lib.decDigits (u / 10) ++ [UInt8.ofNat (48 + u % 10)] := by
  rw [Lib.decDigits, dif_neg h]

theorem dec_one (u : Nat) (h : u < 10) : Lib.decDigits u = [UInt8.ofNat (48 + u)] := by
  rw [Lib.decDigits, dif_pos h]

theorem toNat_fig (d : Nat) (h : d < 10) : (UInt8.ofNat (48 + d)).toNat = 48 + d := by
  rw [UInt8.toNat_ofNat']; omega

theorem figB_fig (d : Nat) (h : d < 10) : figB ((UInt8.ofNat (48 + d)).toNat : Int) = true := by
  rw [toNat_fig d h]; simp [figB]; omega

theorem figAll_dec (u : Nat) : figAll (Lib.decDigits u) = true := by
  induction u using Nat.strongRecOn with
  | _ u ih =>
    by_cases h : u < 10
    · rw [dec_one u h]; unfold figAll; rw [List.all_cons, figB_fig u h]; rfl
    · rw [dec_snoc u h]
      have h1 := ih (u / 10) (by omega)
      unfold figAll at *
      rw [List.all_append, h1]
      rw [List.all_cons, figB_fig (u % 10) (by omega)]; rfl

theorem numVal_snoc' (l : List UInt8) (c : UInt8) : numVal (l ++ [c]) = numVal l * 10 + ((c.toNat : Int) - 48) := by
  simp [numVal, List.foldl_append]

theorem numVal_dec (u : Nat) : numVal (Lib.decDigits u) = (u : Int) := by
  induction u using Nat.strongRecOn with
  | _ u ih =>
    by_cases h : u < 10
    · rw [dec_one u h]; simp only [numVal, List.foldl_cons, List.foldl_nil, toNat_fig u h]; omega
    · rw [dec_snoc u h, numVal_snoc', ih (u / 10) (by omega), toNat_fig (u % 10) (by omega)]; omega

theorem dec_ne (u : Nat) : Lib.decDigits u ≠ [] := by
  by_cases h : u < 10
  · rw [dec_one u h]; simp
  · rw [dec_snoc u h]; simp

theorem dec_head (u : Nat) (h : 1 ≤ u) : (Lib.decDigits u).headD 0 ≠ 48 := by
  induction u using Nat.strongRecOn with
  | _ u ih =>
    by_cases hs : u < 10
    · rw [dec_one u hs]
      intro e
      have e2 := congrArg UInt8.toNat e
      simp only [List.headD_cons, toNat_fig u hs] at e2
      have : (48 : UInt8).toNat = 48 := rfl
      omega
    · rw [dec_snoc u hs]
      have h1 := ih (u / 10) (by omega) (by omega)
      cases hd : Lib.decDigits (u / 10) with
      | nil => exact absurd hd (dec_ne _)
      | cons a t => rw [hd] at h1; simpa using h1

theorem dec_len_le (u k : Nat) (h : u < 10 ^ (k + 1)) : (Lib.decDigits u).length ≤ k + 1 := by
  induction k generalizing u with
  | zero => rw [dec_one u (by simpa using h)]; simp
  | succ k ih =>
    by_cases hs : u < 10
    · rw [dec_one u hs]; simp
    · rw [dec_snoc u hs]
      have := ih (u / 10) (by rw [Nat.pow_succ] at h; omega)
      simp; omega

theorem isNum_dec (u : Nat) (h : u ≤ 999999) : isNum (Lib.decDigits u) = true := by
  have h1 := dec_len_le u 5 (by omega)
  have hne : (Lib.decDigits u).isEmpty = false := by
    rw [List.isEmpty_eq_false_iff]; exact dec_ne u
  unfold isNum
  rw [figAll_dec, hne]
  by_cases hs : u < 10
  · rw [dec_one u hs]; rfl
  · have := dec_head u (by omega)
    have e : ((Lib.decDigits u).headD 0 == 48) = false := by rw [beq_eq_false_iff_ne]; exact this
    rw [e]; simp; omega

theorem numOf_dec (u : Nat) (h : u ≤ 999999) : numOf (Lib.decDigits u) = (u : Int) := by
  unfold numOf; rw [if_pos (isNum_dec u h), numVal_dec]

/-- A number that has figures alone is written so. -/
theorem dec_of_num (l : List UInt8) (hf : figAll l = true) (hne : l ≠ []) (hh : l.length ≤ 1 ∨ l.headD 0 ≠ 48) : Lib.decDigits (numVal l).toNat = l ∧ (2 ≤ l.length → 1 ≤ numVal l) ∧ 0 ≤ numVal l := by
  have hrev : ∀ n, ∀ l : List UInt8, l.length = n → figAll l = true → l ≠ [] → (l.length ≤ 1 ∨ l.headD 0 ≠ 48) → Lib.decDigits (numVal l).toNat = l ∧ ((2 ≤ l.length ∨ l.headD 0 ≠ 48) → 1 ≤ numVal l) ∧ 0 ≤ numVal l := by
    intro n
    induction n with
    | zero => intro l h1 _ h2; simp at h1; exact absurd h1 h2
    | succ n ih =>
      intro l hl hf hne hh
      obtain ⟨m, c, rfl⟩ : ∃ m c, l = m ++ [c] := ⟨l.dropLast, l.getLast hne, (List.dropLast_concat_getLast hne).symm⟩
      have hfm : figAll m = true ∧ figB (c.toNat : Int) = true := by
        unfold figAll at *
        rw [List.all_append, Bool.and_eq_true] at hf
        exact ⟨hf.1, by simpa using hf.2⟩
      have hc : 48 ≤ (c.toNat : Int) ∧ (c.toNat : Int) ≤ 57 := by simpa [figB] using hfm.2
      rw [numVal_snoc']
      have hcu : UInt8.ofNat (48 + (c.toNat - 48)) = c := by
        rw [show 48 + (c.toNat - 48) = c.toNat by omega]; simp
      cases m with
      | nil =>
        have e0 : numVal [] = 0 := rfl
        rw [e0]
        refine ⟨?_, ?_, by omega⟩
        · rw [show (0 * 10 + ((c.toNat : Int) - 48)).toNat = c.toNat - 48 by omega, dec_one _ (by omega), hcu]; rfl
        · intro h
          rcases h with h | h
          · simp at h
          · simp at h
            have : c.toNat ≠ 48 := fun e => h (UInt8.toNat_inj.mp (by rw [e]; rfl))
            omega
      | cons a t =>
        have hh' : (a :: t).headD 0 ≠ 48 := by
          rcases hh with h | h
          · simp at h
          · simpa using h
        obtain ⟨i1, i2, i3⟩ := ih (a :: t) (by simpa using hl) hfm.1 (by simp) (Or.inr hh')
        have hv := i2 (Or.inr hh')
        refine ⟨?_, fun _ => by omega, by omega⟩
        have e1 : (numVal (a :: t) * 10 + ((c.toNat : Int) - 48)).toNat = (numVal (a :: t)).toNat * 10 + (c.toNat - 48) := by omega
        rw [e1, dec_snoc _ (by omega), show ((numVal (a :: t)).toNat * 10 + (c.toNat - 48)) / 10 = (numVal (a :: t)).toNat by omega, show ((numVal (a :: t)).toNat * 10 + (c.toNat - 48)) % 10 = c.toNat - 48 by omega, i1, hcu]
  obtain ⟨a, b, c⟩ := hrev l.length l rfl hf hne hh
  exact ⟨a, fun h => b (Or.inl h), c⟩

theorem dec_numOf (l : List UInt8) (h : isNum l = true) : Lib.decDigits (numOf l).toNat = l := by
  unfold numOf; rw [if_pos h]
  unfold isNum at h
  simp only [Bool.and_eq_true, Bool.not_eq_true', decide_eq_true_eq] at h
  obtain ⟨h1, _, h3, h4⟩ := h
  refine (dec_of_num l h3 (by rw [List.isEmpty_eq_false_iff] at h1; exact h1) ?_).1
  by_cases hl : 1 < l.length
  · right
    intro e
    rw [e] at h4
    simp [hl] at h4
  · left; omega

end Go.Proofs.YtplbfllhimcpiaaGreatDoor
