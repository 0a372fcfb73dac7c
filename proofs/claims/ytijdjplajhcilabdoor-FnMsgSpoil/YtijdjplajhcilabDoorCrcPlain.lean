/- DERIVED. The CRC-32, plain, on numbers, and what of it the walks want: nothing of the program. -/
import Derived.WalkKit
import Derived.Laws.BitsAllLaws
namespace Go.Proofs.YtijdjplajhcilabDoor

/-- One bit of a sum. -/
def bstep (x : Nat) : Nat := if x % 2 = 1 then (x / 2) ^^^ 3988292384 else x / 2

def bsteps : Nat → Nat → Nat
  | 0, x => x
  | k + 1, x => bsteps k (bstep x)

def crcL : List UInt8 → Nat → Nat
  | [], x => x
  | c :: t, x => crcL t (bsteps 8 (x ^^^ c.toNat))

def crcP (s : ByteArray) : Nat := crcL s.data.toList 4294967295 ^^^ 4294967295

theorem bstep_lt {x : Nat} (h : x < 4294967296) : bstep x < 4294967296 := by
  unfold bstep
  split
  · exact Nat.xor_lt_two_pow (n := 32) (by omega) (by omega)
  · omega

theorem bsteps_lt {k x : Nat} (h : x < 4294967296) : bsteps k x < 4294967296 := by
  induction k generalizing x with
  | zero => exact h
  | succ k ih => exact ih (bstep_lt h)

theorem xor_lt {x c : Nat} (h : x < 4294967296) (hc : c < 4294967296) : x ^^^ c < 4294967296 :=
  Nat.xor_lt_two_pow (n := 32) (by omega) (by omega)

theorem byte_lt32 (c : UInt8) : c.toNat < 4294967296 := by have := c.toNat_lt; omega

theorem crcL_lt (l : List UInt8) {x : Nat} (h : x < 4294967296) : crcL l x < 4294967296 := by
  induction l generalizing x with
  | nil => exact h
  | cons c t ih => exact ih (bsteps_lt (xor_lt h (byte_lt32 c)))

theorem crcP_lt (s : ByteArray) : crcP s < 4294967296 := xor_lt (crcL_lt _ (by omega)) (by omega)

theorem crcL_drop (s : ByteArray) (k x : Nat) (h : k < s.size) : crcL (s.data.toList.drop k) x = crcL (s.data.toList.drop (k + 1)) (bsteps 8 (x ^^^ (s[k]).toNat)) := by
  rw [List.drop_eq_getElem_cons (by simpa using h)]
  rfl

theorem crcL_end (s : ByteArray) (k x : Nat) (h : s.size ≤ k) : crcL (s.data.toList.drop k) x = x := by
  rw [List.drop_of_length_le (by simpa using h)]
  rfl

theorem i64_xor32 {a b : Nat} (ha : a < 4294967296) (hb : b < 4294967296) : bits .xor .i64 (a : Int) (b : Int) = ((a ^^^ b : Nat) : Int) := by
  have hx : a ^^^ b < 4294967296 := xor_lt ha hb
  show IntKind.i64.wrap ((BitVec.ofInt 64 (a : Int) ^^^ BitVec.ofInt 64 (b : Int)).toNat : Int) = _
  rw [BitVec.toNat_xor, ofInt_u64 a (by omega), ofInt_u64 b (by omega)]
  simp [IntKind.wrap, IntKind.bits, IntKind.signed]
  omega

end Go.Proofs.YtijdjplajhcilabDoor
