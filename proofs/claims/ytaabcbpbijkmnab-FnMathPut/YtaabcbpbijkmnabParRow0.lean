/- DERIVED. The model's reader of sums: a row of parts, plainly. -/
import Derived.Test.YtaabcbpbijkmnabParLoops
namespace Go.Proofs.Ytaabcbpbijkmnab
open Go.RowKit

theorem MSt.le {w : World} {R base : Nat} {s : ByteArray} {d k : Nat} {ops : List Op3} {p : Nat} (h : MSt w R base s d k ops p) : p ≤ s.size := by
  obtain ⟨_, _, _, _, _, h5⟩ := h
  exact h5

/-- look, at a place from which one comes to the same byte. -/
theorem look_same (R base : Nat) (s : ByteArray) (hs : s.size ≤ 60) (hb : base ≤ R) (d k : Nat) (ops : List Op3) (q q1 : Nat) (lv : Int) (h1 : q1 = skipP s q) (hlv : lv = lookV s q) (W : World) (q' : Nat) (hq : skipP s q' = q1) (h : MSt W R base s d k ops q') :
    Calls Try.prog 21 #[.pointer (some ⟨R, 0, none⟩)] W fun e w' => e = .returned (.int .u8 lv) ∧ MSt w' R base s d k ops q1 ∧ Below base W w' := by
  have h2 := look_st R base s d k ops q' W (by unfold maxLen; omega) hb h
  have h3 : lookV s q' = lv := by rw [hlv]; unfold lookV; rw [hq, h1]
  rw [h3, hq] at h2
  exact h2

/-- So far in a row of parts. -/
def RowRel (s : ByteArray) (tight : Bool) (mp : Nat → MRes) (p R base d k e : Nat) (ops : List Op3) (w w' : World) (g : Nat) : Prop :=
  Below base w w' ∧ ((∃ ol q, MSt w' R base s d k (ops ++ ol) q ∧ s.size + 1 - q ≤ g ∧ loopM s tight mp g ol q = rowM s tight mp p) ∨ (MBad w' R base s d (e + 1) ∧ rowM s tight mp p = none))

theorem row_start {s : ByteArray} {tight : Bool} {mp : Nat → MRes} {p R base d k e : Nat} {ops : List Op3} {w w' : World} (hb : Below base w w') (h : AfterM w' R base s d k e ops (mp p)) : RowRel s tight mp p R base d k e ops w w' (s.size + 1) := by
  refine ⟨hb, ?_⟩
  unfold rowM
  cases hm : mp p with
  | none =>
    rw [hm] at h
    exact Or.inr ⟨MBad.more h (by omega), rfl⟩
  | some y =>
    obtain ⟨o, q⟩ := y
    rw [hm] at h
    exact Or.inl ⟨o, q, h, by omega, rfl⟩

theorem sign_none {s : ByteArray} {tight : Bool} {q : Nat} (h : (signP s tight q).1 = none) : (signP s tight q).2 = skipP s q ∧ ∀ x : UInt8, x ≠ 0 → signB tight x = true → (lookV s q == (x.toNat : Int)) = false := by
  unfold signP at h ⊢
  cases hc : atP s (skipP s q) with
  | none =>
    refine ⟨rfl, fun x hx hs => ?_⟩
    rw [look_is x hx, hc]
    rfl
  | some c =>
    rw [hc] at h
    dsimp only at h ⊢
    by_cases hsb : signB tight c = true
    · rw [if_pos hsb] at h; cases h
    · rw [if_neg hsb]
      refine ⟨rfl, fun x hx hs => ?_⟩
      rw [look_is x hx, hc]
      rw [decide_eq_false_iff_not]
      intro e
      injection e with e
      subst e
      exact hsb hs

theorem sign_some {s : ByteArray} {tight : Bool} {q : Nat} {c : UInt8} (h : (signP s tight q).1 = some c) : (signP s tight q).2 = skipP s q + 1 ∧ (c.toNat : Int) = lookV s q ∧ skipP s q < s.size := by
  unfold signP at h ⊢
  cases hc : atP s (skipP s q) with
  | none => rw [hc] at h; cases h
  | some c' =>
    rw [hc] at h
    dsimp only at h ⊢
    by_cases hsb : signB tight c' = true
    · rw [if_pos hsb] at h ⊢
      injection h with h
      subst h
      exact ⟨rfl, by unfold lookV; rw [hc], at_lt hc⟩
    · rw [if_neg hsb] at h; cases h

theorem loop_end {s : ByteArray} {tight : Bool} {mp : Nat → MRes} {g q : Nat} {ol : List Op3} (h : (signP s tight q).1 = none) : loopM s tight mp (g + 1) ol q = some (ol, skipP s q) := by
  rw [loopM, h, (sign_none h).1]

theorem loop_next {s : ByteArray} {tight : Bool} {mp : Nat → MRes} {g q : Nat} {ol : List Op3} {c : UInt8} (h : (signP s tight q).1 = some c) : loopM s tight mp (g + 1) ol q = match mp (skipP s q + 1) with
    | none => none
    | some (o, q2) => loopM s tight mp g (ol ++ (o ++ [(c, 0, ⟨#[]⟩)])) q2 := by
  rw [loopM, h, (sign_some h).1]
  dsimp only
  cases mp (skipP s q + 1) with
  | none => rfl
  | some y => rfl

theorem tight_signs {c : UInt8} (h : signB true c = true) : c = 42 ∨ c = 47 ∨ c = 37 := by
  unfold signB at h
  rw [if_pos rfl] at h
  simpa using h

theorem loose_signs {c : UInt8} (h : signB false c = true) : c = 43 ∨ c = 45 := by
  unfold signB at h
  rw [if_neg (by decide)] at h
  simpa using h

/-- What is said of a part in plain words: it goes on, and stays within the text. -/
def Onward (s : ByteArray) (mp : Nat → MRes) : Prop := ∀ p o q, p ≤ s.size → mp p = some (o, q) → p ≤ q ∧ q ≤ s.size

end Go.Proofs.Ytaabcbpbijkmnab
