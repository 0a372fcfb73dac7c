/- DERIVED. Another byte in one place makes another sum: plain. -/
import Derived.Test.YtcmefjicogiclacDoorCrcPlain
namespace Go.Proofs.YtcmefjicogiclacDoor

theorem bstep_top {x : Nat} (h : x < 4294967296) : (bstep x).testBit 31 = decide (x % 2 = 1) := by
  have hf : (x / 2).testBit 31 = false := Nat.testBit_lt_two_pow (by omega)
  unfold bstep
  by_cases hx : x % 2 = 1
  · rw [if_pos hx, Nat.testBit_xor, hf, show Nat.testBit 3988292384 31 = true by decide]
    simp [hx]
  · rw [if_neg hx, hf]
    simp [hx]

theorem xor_cancel {a b c : Nat} (h : a ^^^ c = b ^^^ c) : a = b := by
  have := congrArg (fun z => z ^^^ c) h
  simpa [Nat.xor_assoc] using this

theorem xor_cancel_left {a b c : Nat} (h : c ^^^ a = c ^^^ b) : a = b := by
  rw [Nat.xor_comm c a, Nat.xor_comm c b] at h
  exact xor_cancel h

theorem bstep_inj {x y : Nat} (hx : x < 4294967296) (hy : y < 4294967296) (h : bstep x = bstep y) : x = y := by
  have h1 := bstep_top hx
  have h2 := bstep_top hy
  rw [h, h2] at h1
  have hp : (x % 2 = 1) ↔ (y % 2 = 1) := by simpa [eq_comm] using h1
  have hd : x / 2 = y / 2 := by
    unfold bstep at h
    by_cases hxo : x % 2 = 1
    · rw [if_pos hxo, if_pos (hp.1 hxo)] at h
      exact xor_cancel h
    · rw [if_neg hxo, if_neg (fun e => hxo (hp.2 e))] at h
      exact h
  omega

theorem bsteps_inj {k x y : Nat} (hx : x < 4294967296) (hy : y < 4294967296) (h : bsteps k x = bsteps k y) : x = y := by
  induction k generalizing x y with
  | zero => exact h
  | succ k ih => exact bstep_inj hx hy (ih (bstep_lt hx) (bstep_lt hy) h)

theorem crcL_inj (l : List UInt8) {x y : Nat} (hx : x < 4294967296) (hy : y < 4294967296) (h : crcL l x = crcL l y) : x = y := by
  induction l generalizing x y with
  | nil => exact h
  | cons c t ih =>
    have h1 := ih (bsteps_lt (xor_lt hx (byte_lt32 c))) (bsteps_lt (xor_lt hy (byte_lt32 c))) h
    exact xor_cancel (bsteps_inj (xor_lt hx (byte_lt32 c)) (xor_lt hy (byte_lt32 c)) h1)

theorem crcL_append (a b : List UInt8) (x : Nat) : crcL (a ++ b) x = crcL b (crcL a x) := by
  induction a generalizing x with
  | nil => rfl
  | cons c t ih => exact ih _

theorem crcL_other (a b : List UInt8) (c d : UInt8) (x : Nat) (hx : x < 4294967296) (h : crcL (a ++ c :: b) x = crcL (a ++ d :: b) x) : c = d := by
  rw [crcL_append, crcL_append] at h
  have ha := crcL_lt a hx
  have h1 := crcL_inj b (bsteps_lt (xor_lt ha (byte_lt32 c))) (bsteps_lt (xor_lt ha (byte_lt32 d))) h
  have h2 := bsteps_inj (xor_lt ha (byte_lt32 c)) (xor_lt ha (byte_lt32 d)) h1
  exact UInt8.toNat_inj.mp (xor_cancel_left h2)

theorem parts_list (s : ByteArray) (k : Nat) (h : k < s.size) : s.data.toList = s.data.toList.take k ++ s[k] :: s.data.toList.drop (k + 1) := by
  have h' : k < s.data.toList.length := by simpa using h
  rw [show s[k] = s.data.toList[k] from by simp [ByteArray.getElem_eq_getElem_data]]
  rw [List.getElem_cons_drop, List.take_append_drop]

/-- With another byte in one place. -/
def otherByte (s : ByteArray) (k : Nat) (c : UInt8) : ByteArray := s.extract 0 k ++ ⟨#[c]⟩ ++ s.extract (k + 1) s.size

theorem otherByte_list (s : ByteArray) (k : Nat) (c : UInt8) : (otherByte s k c).data.toList = s.data.toList.take k ++ c :: s.data.toList.drop (k + 1) := by
  unfold otherByte
  simp [ByteArray.data_append, ByteArray.data_extract, List.take_of_length_le]

theorem crcP_other (s : ByteArray) (k : Nat) (c : UInt8) (h : k < s.size) (hc : c ≠ s[k]) : crcP (otherByte s k c) ≠ crcP s := by
  intro e
  unfold crcP at e
  have e1 := xor_cancel e
  rw [otherByte_list s k c] at e1
  exact hc (crcL_other _ _ c s[k] _ (by omega) (e1.trans (congrArg (fun l => crcL l 4294967295) (parts_list s k h))))

end Go.Proofs.YtcmefjicogiclacDoor
