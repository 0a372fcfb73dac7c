/- DERIVED. Rows of texts that a call owns. -/
import Derived.Test.YtplbfllhimcpiaaGreatDoorOk
import Derived.Test.YtplbfllhimcpiaaGreatDoorNumPlain
import Derived.OwnWalk
import Derived.Below
import Derived.Lib.Split
namespace Go.Proofs.YtplbfllhimcpiaaGreatDoor
open Go.RowKit

/-- The model's cut: at a byte, so many times at most. -/
def cutL (b : UInt8) : Nat → List UInt8 → List UInt8 → List (List UInt8)
  | _, cur, [] => [cur]
  | 0, cur, c :: t => [cur ++ c :: t]
  | m + 1, cur, c :: t => if c = b then cur :: cutL b m [] t else cutL b (m + 1) (cur ++ [c]) t

theorem cut_zero (b : UInt8) (cur t : List UInt8) : cutL b 0 cur t = [cur ++ t] := by
  cases t <;> simp [cutL]

theorem cut_none (b : UInt8) (m : Nat) (cur t : List UInt8) (h : ∀ c ∈ t, c ≠ b) : cutL b m cur t = [cur ++ t] := by
  induction t generalizing cur with
  | nil => simp [cutL]
  | cons c t ih =>
    cases m with
    | zero => rfl
    | succ m =>
      rw [cutL, if_neg (h c (by simp)), ih (cur ++ [c]) (fun x hx => h x (by simp [hx]))]
      simp

theorem cut_at (b : UInt8) (m : Nat) (cur t r : List UInt8) (h : ∀ c ∈ t, c ≠ b) : cutL b (m + 1) cur (t ++ b :: r) = (cur ++ t) :: cutL b m [] r := by
  induction t generalizing cur with
  | nil => simp [cutL]
  | cons c t ih =>
    rw [List.cons_append, cutL, if_neg (h c (by simp)), ih (cur ++ [c]) (fun x hx => h x (by simp [hx]))]
    simp

def mkB (l : List UInt8) : ByteArray := ⟨l.toArray⟩

theorem mkB_data (s : ByteArray) : mkB s.data.toList = s := by
  apply Go.WideShapes.bytes_inj; simp [mkB]

theorem numOf_bd (l : List UInt8) : -1 ≤ numOf l ∧ numOf l ≤ 999999 := by
  cases h : isNum l
  · rw [numOf_no l h]; decide
  · have := numOf_yes l h; omega

theorem infoString : (Tryz.prog.info? 9).map (fun i => (i.zero, i.size, i.bytes)) = some (some (.string ⟨#[]⟩), 1, 16) := by kernel_rfl
def strV (l : List UInt8) : Value := .string (mkB l)

theorem mkB_extract (s : ByteArray) (j k : Nat) : mkB ((s.data.toList.take k).drop j) = s.extract j k := by
  apply Go.WideShapes.bytes_inj
  simp [mkB, List.drop_take]

theorem mkB_tail (s : ByteArray) (j : Nat) : mkB (s.data.toList.drop j) = s.extract j s.size := by
  rw [← mkB_extract, lowAll_whole s s.size (Nat.le_refl _)]

theorem cut1_cases (b : UInt8) (cur t : List UInt8) : (∃ a, cutL b 1 cur t = [a]) ∨ ∃ a c, cutL b 1 cur t = [a, c] := by
  induction t generalizing cur with
  | nil => exact Or.inl ⟨_, rfl⟩
  | cons x t ih =>
    rw [cutL]
    split
    · exact Or.inr ⟨cur, t, by rw [cut_zero]; rfl⟩
    · exact ih _

theorem cut_size (b : UInt8) (m : Nat) (cur t : List UInt8) (x : List UInt8) (h : x ∈ cutL b m cur t) : x.length ≤ cur.length + t.length := by
  induction t generalizing cur m with
  | nil => simp [cutL] at h; subst h; simp
  | cons c t ih =>
    cases m with
    | zero => simp [cutL] at h; subst h; simp
    | succ m =>
      rw [cutL] at h
      split at h
      · rcases List.mem_cons.1 h with e | h
        · subst e; simp
        · have := ih _ _ h; simp at this ⊢; omega
      · have := ih _ _ h; simp at this ⊢; omega

theorem mkB_size (l : List UInt8) : (mkB l).size = l.length := by simp [mkB, ByteArray.size]
theorem mkB_list (l : List UInt8) : (mkB l).data.toList = l := by simp [mkB]

theorem below_grown {e : TypeId} {size n base : Nat} {v : Value} {xs : List Value} {w w' : World} (h : w.ownsRow base e size v n xs) (hb : base ≤ w.heap.size) (hg : w.grownBy w' v.ownBlock) : Below base w w' :=
  (Below.refl _ _).grown hg hb (fun j hj => (h.lt j hj).1)

theorem row_shape {base : Nat} {e : TypeId} {size n : Nat} {v : Value} {xs : List Value} {w : World} (h : w.ownsRow base e size v n xs) : ∃ oa cp, v = .slice oa n cp := by
  rcases h.2 with ⟨e1, e2⟩ | ⟨g, cap, cur, e1, _⟩
  · subst e2; exact ⟨_, _, e1⟩
  · exact ⟨_, _, e1⟩

theorem row_ownBelow {W W' : World} {base : Nat} {e : TypeId} {size : Nat} {v : Value} {k : Nat} {xs : List Value} (h : W.ownsRow base e size v k xs) (hb : Below W.heap.size W W') : W'.ownsRow base e size v k xs := by
  refine ⟨h.1, ?_⟩
  rcases h.2 with h0 | ⟨g, cap, cur, e1, e2, h3, e3⟩
  · exact Or.inl h0
  · exact Or.inr ⟨g, cap, cur, e1, e2, by rw [hb.block g (Array.getElem?_eq_some_iff.1 h3).1]; exact h3, e3⟩

theorem srow_cells {W : World} {base : Nat} {e : TypeId} {size : Nat} {v : Value} {k : Nat} {xs : List Value} (h : W.ownsRow base e size v k xs) (hk : 1 ≤ k) :
    ∃ g cp, v = .slice (some ⟨g, 0, none⟩) k cp ∧ base ≤ g ∧ g < W.heap.size ∧ k ≤ cp ∧ cp ≤ maxLen ∧ ∀ (j : Nat) x, xs[j]? = some x → W.cell? ⟨g, j, none⟩ = some x := by
  rcases h.2 with ⟨_, h0⟩ | ⟨g, cap, cur, rfl, hbg, hgb, hkc, hcm, _, htk⟩
  · omega
  · refine ⟨g, cap, rfl, hbg, (Array.getElem?_eq_some_iff.1 hgb).1, hkc, hcm, fun j x hx => ?_⟩
    have := h.cells (g := g) rfl j x hx
    by_cases e : j = 0
    · subst e; simpa [Addr.add] using this
    · simpa [Addr.add, e] using this

end Go.Proofs.YtplbfllhimcpiaaGreatDoor
