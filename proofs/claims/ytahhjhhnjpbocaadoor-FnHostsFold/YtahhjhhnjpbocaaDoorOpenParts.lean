/- DERIVED. The walk of the model's parts: l1Parts. -/
import Derived.Test.YtahhjhhnjpbocaaDoorOpenCut
namespace Go.Proofs.YtahhjhhnjpbocaaDoor
open Go.RowKit

theorem byte_is {c : UInt8} {n : Nat} (h : ((c.toNat : Int) == (n : Int)) = true) (hn : n < 256) : c = UInt8.ofNat n := by
  rw [beq_iff_eq] at h
  apply UInt8.toNat_inj.mp
  rw [UInt8.toNat_ofNat']; omega

theorem byte_not {c : UInt8} {n : Nat} (h : ((c.toNat : Int) == (n : Int)) = false) (hn : n < 256) : c ≠ UInt8.ofNat n := by
  rw [beq_eq_false_iff_ne] at h
  intro e
  apply h
  rw [e, UInt8.toNat_ofNat']; omega

theorem parts_rel (s : ByteArray) (k j : Nat) (d d' : Int) (P R : List (List UInt8)) (hlt : k < s.size) (hj : j ≤ k) (hr : R = P ++ partsL d ((s.data.toList.take k).drop j) (s.data.toList.drop k))
    (h : s[k] = 91 ∧ d' = d + 1 ∨ s[k] = 93 ∧ d' = d - 1 ∨ s[k] ≠ 91 ∧ s[k] ≠ 93 ∧ ¬ (s[k] = 44 ∧ d = 0) ∧ d' = d) :
    R = P ++ partsL d' ((s.data.toList.take (k + 1)).drop j) (s.data.toList.drop (k + 1)) := by
  rw [hr, drop_cons s k hlt, take_drop_snoc s j k hj hlt, partsL]
  rcases h with ⟨h1, rfl⟩ | ⟨h1, rfl⟩ | ⟨h1, h2, h3, rfl⟩
  · rw [if_pos h1]
  · rw [if_neg (by rw [h1]; decide), if_pos h1]
  · rw [if_neg h1, if_neg h2, if_neg h3]

theorem parts_rel_hit (s : ByteArray) (k j : Nat) (d : Int) (P R : List (List UInt8)) (hlt : k < s.size) (hr : R = P ++ partsL d ((s.data.toList.take k).drop j) (s.data.toList.drop k)) (h1 : s[k] = 44) (h2 : d = 0) :
    R = (P ++ [(s.data.toList.take k).drop j]) ++ partsL d ((s.data.toList.take (k + 1)).drop (k + 1)) (s.data.toList.drop (k + 1)) := by
  rw [hr, drop_cons s k hlt, take_drop_nil, partsL, if_neg (by rw [h1]; decide), if_neg (by rw [h1]; decide), if_pos ⟨h1, h2⟩]
  simp

theorem parts_rel_end (s : ByteArray) (k j : Nat) (d : Int) (P R : List (List UInt8)) (hk : ¬ k < s.size) (hr : R = P ++ partsL d ((s.data.toList.take k).drop j) (s.data.toList.drop k)) : R = P ++ [s.data.toList.drop j] := by
  have : s.data.toList.length ≤ k := by simp; omega
  rw [hr, List.drop_of_length_le this, partsL, List.take_of_length_le this]

end Go.Proofs.YtahhjhhnjpbocaaDoor
