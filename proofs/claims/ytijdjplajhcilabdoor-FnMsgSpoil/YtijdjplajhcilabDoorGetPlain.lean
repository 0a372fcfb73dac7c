/- DERIVED. How the program reads a message: plain; and that what was written is read back. -/
import Derived.Test.YtijdjplajhcilabDoorMathPlain
import Derived.Test.YtijdjplajhcilabDoorNumTrip
import Derived.Test.YtijdjplajhcilabDoorMsgText
import Derived.Test.YtijdjplajhcilabDoorEntText
import Derived.Test.YtijdjplajhcilabDoorPutSpec
namespace Go.Proofs.YtijdjplajhcilabDoor
open Go.RowKit

/-- A byte of a number. -/
def gNumB (c : UInt8) : Bool := figB (c.toNat : Int) || decide (c = 45)

def gRun (l : List UInt8) : List UInt8 := l.takeWhile gNumB
def gDrop (l : List UInt8) : List UInt8 := l.dropWhile gNumB
def gVal (l : List UInt8) : Int := (signedV (gRun l)).getD 0
def gOk (l : List UInt8) : Bool := (signedV (gRun l)).isSome

/-- Whether a byte comes next. -/
def gHas (c : UInt8) : List UInt8 → Bool
  | [] => false
  | x :: _ => decide (x = c)

/-- What is left, that byte being taken. -/
def gSkip (c : UInt8) : List UInt8 → List UInt8
  | [] => []
  | x :: t => if x = c then t else x :: t

def gVotes : Nat → List UInt8 → List Int × List UInt8
  | 0, l => ([], l)
  | f + 1, l => if gOk l = true then (if gHas 44 (gDrop l) = true then (gVal l :: (gVotes f (gSkip 44 (gDrop l))).1, (gVotes f (gSkip 44 (gDrop l))).2) else ([gVal l], gSkip 44 (gDrop l))) else ([], gDrop l)

/-- Votes, as many as come. -/
def gVs (l : List UInt8) : List Int × List UInt8 := gVotes (l.length + 1) l

def gEnts : Nat → List UInt8 → List Ent × List UInt8
  | 0, l => ([], l)
  | f + 1, l => if gOk l = true then
      (if gHas 59 (gVs (gSkip 58 (gDrop (gSkip 58 (gDrop l))))).2 = true then
        ((gVal l, gVal (gSkip 58 (gDrop l)), (gVs (gSkip 58 (gDrop (gSkip 58 (gDrop l))))).1) :: (gEnts f (gSkip 59 (gVs (gSkip 58 (gDrop (gSkip 58 (gDrop l))))).2)).1, (gEnts f (gSkip 59 (gVs (gSkip 58 (gDrop (gSkip 58 (gDrop l))))).2)).2)
      else ([(gVal l, gVal (gSkip 58 (gDrop l)), (gVs (gSkip 58 (gDrop (gSkip 58 (gDrop l))))).1)], gSkip 59 (gVs (gSkip 58 (gDrop (gSkip 58 (gDrop l))))).2))
    else ([], gDrop l)

def gEs (l : List UInt8) : List Ent × List UInt8 := gEnts (l.length + 1) l

/-- What is left behind so many parts. -/
def gRest (l : List UInt8) : Nat → List UInt8
  | 0 => l
  | k + 1 => gSkip 32 (gDrop (gRest l k))

/-- The number that a part is. -/
def gPart (l : List UInt8) (k : Nat) : Int := gVal (gRest l k)
def gV (l : List UInt8) : List Int := (gVs (gRest l 5)).1
def gL (l : List UInt8) : List Ent := (gEs (gSkip 32 (gVs (gRest l 5)).2)).1

theorem gSkip_cons (c x : UInt8) (t : List UInt8) : gSkip c (x :: t) = if x = c then t else x :: t := rfl

theorem gDrop_len (l : List UInt8) : (gDrop l).length ≤ l.length := by
  unfold gDrop
  exact (List.dropWhile_sublist _).length_le

theorem gSkip_len (c : UInt8) (l : List UInt8) : (gSkip c l).length ≤ l.length := by
  cases l with
  | nil => exact Nat.le_refl _
  | cons x t =>
    rw [gSkip_cons]
    split
    · simp
    · exact Nat.le_refl _

theorem gHas_len {c : UInt8} {l : List UInt8} (h : gHas c l = true) : (gSkip c l).length + 1 = l.length := by
  cases l with
  | nil => cases h
  | cons x t =>
    have : x = c := by simpa [gHas] using h
    rw [gSkip_cons, if_pos this]
    rfl

/-- More fuel than bytes changes nothing. -/
theorem gVotes_fuel : ∀ (f g : Nat) (l : List UInt8), l.length < f → l.length < g → gVotes f l = gVotes g l
  | 0, _, l, h, _ => absurd h (Nat.not_lt_zero _)
  | _ + 1, 0, l, _, h => absurd h (Nat.not_lt_zero _)
  | f + 1, g + 1, l, hf, hg => by
    unfold gVotes
    by_cases a : gOk l = true
    · rw [if_pos a, if_pos a]
      by_cases b : gHas 44 (gDrop l) = true
      · have := gHas_len b
        have h1 := gDrop_len l
        rw [if_pos b, if_pos b, gVotes_fuel f g _ (by omega) (by omega)]
      · rw [if_neg b, if_neg b]
    · rw [if_neg a, if_neg a]

theorem gVs_eq (l : List UInt8) : gVs l = if gOk l = true then (if gHas 44 (gDrop l) = true then (gVal l :: (gVs (gSkip 44 (gDrop l))).1, (gVs (gSkip 44 (gDrop l))).2) else ([gVal l], gSkip 44 (gDrop l))) else ([], gDrop l) := by
  show gVotes (l.length + 1) l = _
  rw [gVotes]
  by_cases b : gHas 44 (gDrop l) = true
  · have := gHas_len b
    have h1 := gDrop_len l
    rw [gVotes_fuel l.length ((gSkip 44 (gDrop l)).length + 1) _ (by omega) (by omega)]
    rfl
  · simp only [if_neg b]

theorem gVs_len (l : List UInt8) : (gVs l).2.length ≤ l.length ∧ (gVs l).1.length ≤ l.length + 1 := by
  obtain ⟨n, hn⟩ : ∃ n, n = l.length := ⟨_, rfl⟩
  induction n using Nat.strongRecOn generalizing l with
  | _ n ih =>
    rw [gVs_eq]
    have h1 := gDrop_len l
    have h2 := gSkip_len 44 (gDrop l)
    by_cases a : gOk l = true
    · rw [if_pos a]
      by_cases b : gHas 44 (gDrop l) = true
      · have h3 := gHas_len b
        obtain ⟨i1, i2⟩ := ih _ (by rw [hn]; omega) (gSkip 44 (gDrop l)) rfl
        rw [if_pos b]
        simp only [List.length_cons]
        omega
      · rw [if_neg b]
        simp only [List.length_singleton]
        omega
    · rw [if_neg a]
      simp only [List.length_nil]
      omega

theorem gEnts_fuel : ∀ (f g : Nat) (l : List UInt8), l.length < f → l.length < g → gEnts f l = gEnts g l
  | 0, _, l, h, _ => absurd h (Nat.not_lt_zero _)
  | _ + 1, 0, l, _, h => absurd h (Nat.not_lt_zero _)
  | f + 1, g + 1, l, hf, hg => by
    unfold gEnts
    by_cases a : gOk l = true
    · rw [if_pos a, if_pos a]
      by_cases b : gHas 59 (gVs (gSkip 58 (gDrop (gSkip 58 (gDrop l))))).2 = true
      · have := gHas_len b
        have h1 := gDrop_len l
        have h2 := gSkip_len 58 (gDrop l)
        have h3 := gDrop_len (gSkip 58 (gDrop l))
        have h4 := gSkip_len 58 (gDrop (gSkip 58 (gDrop l)))
        have h5 := (gVs_len (gSkip 58 (gDrop (gSkip 58 (gDrop l))))).1
        rw [if_pos b, if_pos b, gEnts_fuel f g _ (by omega) (by omega)]
      · rw [if_neg b, if_neg b]
    · rw [if_neg a, if_neg a]

/-- What is left of an entry: behind its number, behind its ballot, behind its votes. -/
def gA (l : List UInt8) : List UInt8 := gSkip 58 (gDrop l)
def gB (l : List UInt8) : List UInt8 := gSkip 58 (gDrop (gA l))
def gEnt (l : List UInt8) : Ent := (gVal l, gVal (gA l), (gVs (gB l)).1)

theorem gA_len (l : List UInt8) : (gA l).length ≤ l.length := Nat.le_trans (gSkip_len _ _) (gDrop_len _)
theorem gB_len (l : List UInt8) : (gB l).length ≤ l.length := Nat.le_trans (Nat.le_trans (gSkip_len _ _) (gDrop_len _)) (gA_len l)

theorem gEs_eq (l : List UInt8) : gEs l = if gOk l = true then (if gHas 59 (gVs (gB l)).2 = true then (gEnt l :: (gEs (gSkip 59 (gVs (gB l)).2)).1, (gEs (gSkip 59 (gVs (gB l)).2)).2) else ([gEnt l], gSkip 59 (gVs (gB l)).2)) else ([], gDrop l) := by
  show gEnts (l.length + 1) l = _
  rw [gEnts]
  by_cases b : gHas 59 (gVs (gB l)).2 = true
  · have := gHas_len b
    have h4 := gB_len l
    have h5 := (gVs_len (gB l)).1
    have e := gEnts_fuel l.length ((gSkip 59 (gVs (gB l)).2).length + 1) (gSkip 59 (gVs (gB l)).2) (by omega) (by omega)
    have b' : gHas 59 (gVs (gSkip 58 (gDrop (gSkip 58 (gDrop l))))).2 = true := b
    rw [if_pos b', if_pos b]
    show (if gOk l = true then (gEnt l :: (gEnts l.length (gSkip 59 (gVs (gB l)).2)).1, (gEnts l.length (gSkip 59 (gVs (gB l)).2)).2) else ([], gDrop l)) = _
    rw [e]
    rfl
  · have b' : ¬ gHas 59 (gVs (gSkip 58 (gDrop (gSkip 58 (gDrop l))))).2 = true := b
    rw [if_neg b', if_neg b]
    rfl

theorem gEs_len (l : List UInt8) : (gEs l).1.length ≤ l.length + 1 := by
  obtain ⟨n, hn⟩ : ∃ n, n = l.length := ⟨_, rfl⟩
  induction n using Nat.strongRecOn generalizing l with
  | _ n ih =>
    rw [gEs_eq]
    have h4 := gB_len l
    have h5 := (gVs_len (gB l)).1
    by_cases a : gOk l = true
    · rw [if_pos a]
      by_cases b : gHas 59 (gVs (gB l)).2 = true
      · have h3 := gHas_len b
        have i1 := ih _ (by rw [hn]; omega) (gSkip 59 (gVs (gB l)).2) rfl
        rw [if_pos b]
        simp only [List.length_cons]
        omega
      · rw [if_neg b]
        simp only [List.length_singleton]
        omega
    · rw [if_neg a]
      simp

end Go.Proofs.YtijdjplajhcilabDoor
