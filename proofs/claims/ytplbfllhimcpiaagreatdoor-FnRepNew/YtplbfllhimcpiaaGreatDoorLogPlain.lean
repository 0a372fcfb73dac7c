/- DERIVED. Records, plain: nothing of the program. -/
import Derived.Test.YtplbfllhimcpiaaGreatDoorDec
namespace Go.Proofs.YtplbfllhimcpiaaGreatDoor

/-- A printed byte. -/
def prB (c : Int) : Bool := decide (32 ≤ c) && decide (c ≤ 126)

def prAll (l : List UInt8) : Bool := l.all fun c => prB (c.toNat : Int)

theorem prAll_snoc (s : ByteArray) (k : Nat) (h : k < s.size) : prAll (s.data.toList.take (k + 1)) = (prAll (s.data.toList.take k) && prB (s[k].toNat : Int)) := by
  rw [take_snoc s k h]; simp [prAll]

theorem prAll_take_false (s : ByteArray) (k : Nat) (h : prAll (s.data.toList.take k) = false) : prAll s.data.toList = false := by
  unfold prAll at *
  rw [List.all_eq_false] at *
  obtain ⟨x, hx, hf⟩ := h
  exact ⟨x, List.mem_of_mem_take hx, hf⟩

/-- How long the longest beginning of printed bytes is. -/
def leadP : List UInt8 → Nat
  | [] => 0
  | c :: t => if prB (c.toNat : Int) = true then leadP t + 1 else 0

theorem leadP_none (l : List UInt8) (k : Nat) (hk : k < l.length) (h : prAll (l.take k) = true) (hc : prB (l[k].toNat : Int) = false) : leadP l = k := by
  induction l generalizing k with
  | nil => simp at hk
  | cons a t ih =>
    cases k with
    | zero => simp at hc; simp [leadP, hc]
    | succ k =>
      simp [prAll] at h
      have := ih k (by simpa using hk) (by simpa [prAll] using h.2) (by simpa using hc)
      simp [leadP, h.1, this]

theorem leadP_all (l : List UInt8) (h : prAll l = true) : leadP l = l.length := by
  induction l with
  | nil => rfl
  | cons a t ih =>
    simp [prAll] at h
    simp [leadP, h.1, ih (by simpa [prAll] using h.2)]

theorem leadP_lt (l : List UInt8) (h : prAll l = false) : leadP l < l.length := by
  induction l with
  | nil => simp [prAll] at h
  | cons a t ih =>
    cases hc : prB (a.toNat : Int)
    · simp [leadP, hc]
    · have : leadP t < t.length := ih (by simpa [prAll, hc] using h)
      simp [leadP, hc]; exact this

/-- A record. -/
def recOk (s : ByteArray) : Bool := prAll s.data.toList && (decide (1 ≤ s.size) && decide (s.size ≤ 60))

/-- How a record is written. -/
def putR (s : ByteArray) : ByteArray := decS s.size ++ ⟨#[58]⟩ ++ s ++ ⟨#[59]⟩

theorem putR_size (s : ByteArray) : (putR s).size = (decS s.size).size + s.size + 2 := by
  unfold putR
  rw [ByteArray.size_append, ByteArray.size_append, ByteArray.size_append, show (⟨#[58]⟩ : ByteArray).size = 1 from rfl, show (⟨#[59]⟩ : ByteArray).size = 1 from rfl]
  omega

/-- A record may be added. -/
def addOk (log r : ByteArray) : Bool := recOk r && decide (log.size + (putR r).size ≤ 6000)

/-- A log with one more record. -/
def addS (log r : ByteArray) : ByteArray := if addOk log r = true then log ++ putR r else log

theorem recOk_size {s : ByteArray} (h : recOk s = true) : 1 ≤ s.size ∧ s.size ≤ 60 := by
  simp [recOk] at h
  omega

end Go.Proofs.YtplbfllhimcpiaaGreatDoor
