/- DERIVED. Messages, plain: nothing of the program. -/
import Derived.Test.YtplbfllhimcpiaaGreatDoorPlain
import Derived.Test.YtplbfllhimcpiaaGreatDoorVotePlain
namespace Go.Proofs.YtplbfllhimcpiaaGreatDoor

/-- An entry: its number, its ballot, its votes. -/
abbrev Ent := Int × Int × List Int

def entOk (e : Ent) : Bool := inB e.1 0 11 && inB e.2.1 1 9999 && okV e.2.2 && !(decide (e.2.2.length = 0))

/-- The numbers ascend at place k. -/
def ascAt (L : List Ent) (k : Nat) : Bool := decide (k = 0) || decide ((L.getD (k - 1) (0, 0, [])).1 < (L.getD k (0, 0, [])).1)

def okTo (L : List Ent) : Nat → Bool
  | 0 => true
  | k + 1 => okTo L k && (entOk (L.getD k (0, 0, [])) && ascAt L k)

def listOkP (L : List Ent) : Bool := okTo L L.length

theorem okTo_le (L : List Ent) {j k : Nat} (h : k ≤ j) (hk : okTo L k = false) : okTo L j = false := by
  induction j with
  | zero =>
    have : k = 0 := by omega
    subst this
    exact hk
  | succ j ih =>
    rcases Nat.lt_or_ge j k with h1 | h1
    · have : k = j + 1 := by omega
      subst this
      exact hk
    · rw [okTo, ih h1]; rfl

theorem okTo_num (L : List Ent) : ∀ k, okTo L k = true → ∀ i, i < k → (i : Int) ≤ (L.getD i (0, 0, [])).1 ∧ (L.getD i (0, 0, [])).1 ≤ 11
  | 0, _, i, hi => absurd hi (Nat.not_lt_zero _)
  | k + 1, h, i, hi => by
    rw [okTo, Bool.and_eq_true, Bool.and_eq_true] at h
    obtain ⟨h1, h2, h3⟩ := h
    have ih := okTo_num L k h1
    rcases Nat.lt_or_ge i k with h4 | h4
    · exact ih i h4
    · have : i = k := by omega
      subst this
      have hb : 0 ≤ (L.getD i (0, 0, [])).1 ∧ (L.getD i (0, 0, [])).1 ≤ 11 := by
        simp only [entOk, inB, Bool.and_eq_true, decide_eq_true_eq] at h2
        omega
      by_cases h0 : i = 0
      · subst h0
        exact ⟨by omega, hb.2⟩
      · have h5 := (ih (i - 1) (by omega)).1
        simp only [ascAt, Bool.or_eq_true, decide_eq_true_eq] at h3
        rcases h3 with h3 | h3
        · exact absurd h3 h0
        · exact ⟨by omega, hb.2⟩

theorem list_short {L : List Ent} (h : listOkP L = true) : L.length ≤ 12 := by
  rcases Nat.lt_or_ge 12 L.length with h1 | h1
  · have := okTo_num L L.length h 12 h1
    omega
  · exact h1

/-- Where messages come from, and go to. -/
def party (n : Int) : Bool := inB n 0 2 || inB n 10 12

def msgOkP (kind from' to' ballot inst : Int) (V : List Int) (L : List Ent) : Bool :=
  inB kind 1 9 && party from' && party to' && inB ballot 0 9999 && inB inst 0 12 && okV V && listOkP L

end Go.Proofs.YtplbfllhimcpiaaGreatDoor
