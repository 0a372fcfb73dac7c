/- DERIVED. The walks of the model's cuts: l1Cut, l1Parts. -/
import Derived.Test.YtahhjhhnjpbocaaDoorOpenRows
namespace Go.Proofs.YtahhjhhnjpbocaaDoor
open Go.RowKit

theorem cut_step_other (b : UInt8) (m : Nat) (cur : List UInt8) (c : UInt8) (t : List UInt8) (h : c ≠ b) : cutL b (m + 1) cur (c :: t) = cutL b (m + 1) (cur ++ [c]) t := by
  rw [cutL, if_neg h]

theorem take_drop_snoc (s : ByteArray) (j k : Nat) (hj : j ≤ k) (hk : k < s.size) : (s.data.toList.take (k + 1)).drop j = (s.data.toList.take k).drop j ++ [s[k]] := by
  rw [take_snoc s k hk, List.drop_append_of_le_length (by simp; omega)]

theorem drop_cons (s : ByteArray) (k : Nat) (hk : k < s.size) : s.data.toList.drop k = s[k] :: s.data.toList.drop (k + 1) := by
  rw [List.drop_eq_getElem_cons (by simpa using hk)]; rfl

theorem take_drop_nil (s : ByteArray) (k : Nat) : (s.data.toList.take k).drop k = [] := by
  rw [List.drop_eq_nil_iff]; simp; omega

theorem cell_new1 (w : World) (u : Value) (e : TypeId) : ∀ (j : Nat) x, [u][j]? = some x → (w.alloc (.cells #[u] e)).cell? ((⟨w.heap.size, 0, none⟩ : Addr).add j) = some x := by
  intro j x hj
  match j, hj with
  | 0, hj => simp at hj; subst hj; simp [Addr.add]
  | n + 1, hj => simp at hj

theorem cut_rel_hit (s : ByteArray) (b : UInt8) (most k j : Nat) (P R : List (List UInt8)) (hlt : k < s.size) (hpm : P.length < most) (hc : s[k] = b) (hr : R = P ++ cutL b (most - P.length) ((s.data.toList.take k).drop j) (s.data.toList.drop k)) :
    R = (P ++ [(s.data.toList.take k).drop j]) ++ cutL b (most - (P ++ [(s.data.toList.take k).drop j]).length) ((s.data.toList.take (k + 1)).drop (k + 1)) (s.data.toList.drop (k + 1)) := by
  obtain ⟨m, hm⟩ : ∃ m, most - P.length = m + 1 := ⟨most - P.length - 1, by omega⟩
  rw [hr, hm, drop_cons s k hlt, cutL, if_pos hc, take_drop_nil, List.length_append, List.length_singleton, show most - (P.length + 1) = m by omega]
  simp

theorem cut_rel_other (s : ByteArray) (b : UInt8) (most k j : Nat) (P R : List (List UInt8)) (hlt : k < s.size) (hj : j ≤ k) (hpm : P.length < most) (hc : s[k] ≠ b) (hr : R = P ++ cutL b (most - P.length) ((s.data.toList.take k).drop j) (s.data.toList.drop k)) :
    R = P ++ cutL b (most - P.length) ((s.data.toList.take (k + 1)).drop j) (s.data.toList.drop (k + 1)) := by
  obtain ⟨m, hm⟩ : ∃ m, most - P.length = m + 1 := ⟨most - P.length - 1, by omega⟩
  rw [hr, hm, drop_cons s k hlt, cutL, if_neg hc, take_drop_snoc s j k hj hlt]

theorem cut_rel_end (s : ByteArray) (b : UInt8) (most k j : Nat) (P R : List (List UInt8)) (hk : k ≤ s.size) (hj : j ≤ k) (hP : P.length ≤ most) (hgo : ¬ (k < s.size ∧ P.length < most)) (hr : R = P ++ cutL b (most - P.length) ((s.data.toList.take k).drop j) (s.data.toList.drop k)) :
    R = P ++ [s.data.toList.drop j] := by
  rw [hr]
  congr 1
  by_cases hlt : k < s.size
  · rw [show most - P.length = 0 by omega, cut_zero]
    congr 1
    rw [← List.drop_append_of_le_length (by simp; omega), List.take_append_drop]
  · have : s.data.toList.length ≤ k := by simp; omega
    rw [List.drop_of_length_le this, cutL, List.take_of_length_le this]

end Go.Proofs.YtahhjhhnjpbocaaDoor
