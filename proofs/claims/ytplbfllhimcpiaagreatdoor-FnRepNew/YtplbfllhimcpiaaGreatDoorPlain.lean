/- DERIVED. Plain functions and facts for the walks over hosts: nothing of the program. -/
import Derived.WalkKit
namespace Go.Proofs.YtplbfllhimcpiaaGreatDoor

/-- A small letter. -/
def lowB (c : Int) : Bool := decide (97 ≤ c) && decide (c ≤ 122)

def inB (n a b : Int) : Bool := decide (a ≤ n) && decide (n ≤ b)

/-- All letters are small. -/
def lowAll (l : List UInt8) : Bool := l.all fun c => lowB (c.toNat : Int)

/-- A host is ok. -/
def okB (s : ByteArray) (n : Int) : Bool := lowAll s.data.toList && (inB s.size 1 6 && inB n 0 999)

theorem take_snoc (s : ByteArray) (k : Nat) (h : k < s.size) : s.data.toList.take (k + 1) = s.data.toList.take k ++ [s[k]] := by
  rw [List.take_succ_eq_append_getElem (by simpa using h)]; rfl

theorem lowAll_snoc (s : ByteArray) (k : Nat) (h : k < s.size) : lowAll (s.data.toList.take (k + 1)) = (lowAll (s.data.toList.take k) && lowB (s[k].toNat : Int)) := by
  rw [take_snoc s k h]; simp [lowAll]

theorem lowAll_whole (s : ByteArray) (k : Nat) (h : s.size ≤ k) : s.data.toList.take k = s.data.toList :=
  List.take_of_length_le (by simpa using h)

theorem lowAll_take_false (s : ByteArray) (k : Nat) (h : lowAll (s.data.toList.take k) = false) : lowAll s.data.toList = false := by
  unfold lowAll at *
  rw [List.all_eq_false] at *
  obtain ⟨x, hx, hf⟩ := h
  exact ⟨x, List.mem_of_mem_take hx, hf⟩

/-- How long the longest beginning of small letters is. -/
def lead : List UInt8 → Nat
  | [] => 0
  | c :: t => if lowB (c.toNat : Int) = true then lead t + 1 else 0

theorem lead_none (l : List UInt8) (k : Nat) (hk : k < l.length) (h : lowAll (l.take k) = true) (hc : lowB (l[k].toNat : Int) = false) : lead l = k := by
  induction l generalizing k with
  | nil => simp at hk
  | cons a t ih =>
    cases k with
    | zero => simp at hc; simp [lead, hc]
    | succ k =>
      simp [lowAll] at h
      have := ih k (by simpa using hk) (by simpa [lowAll] using h.2) (by simpa using hc)
      simp [lead, h.1, this]

theorem lead_all (l : List UInt8) (h : lowAll l = true) : lead l = l.length := by
  induction l with
  | nil => rfl
  | cons a t ih =>
    simp [lowAll] at h
    simp [lead, h.1, ih (by simpa [lowAll] using h.2)]

theorem lead_lt (l : List UInt8) (h : lowAll l = false) : lead l < l.length := by
  induction l with
  | nil => simp [lowAll] at h
  | cons a t ih =>
    cases hc : lowB (a.toNat : Int)
    · simp [lead, hc]
    · have : lead t < t.length := ih (by simpa [lowAll, hc] using h)
      simp [lead, hc]; exact this

theorem okB_num {s : ByteArray} {n : Int} (h : okB s n = true) : s.size ≤ 6 ∧ 0 ≤ n ∧ n ≤ 999 := by
  simp [okB, inB] at h
  omega

end Go.Proofs.YtplbfllhimcpiaaGreatDoor
