/- DERIVED. Rows of texts and rows of hosts that a call owns. -/
import Derived.Test.YtahhjhhnjpbocaaDoorOpenPlain2
import Derived.Test.YtahhjhhnjpbocaaDoorHsList
import Derived.Test.YtahhjhhnjpbocaaDoorShelf
namespace Go.Proofs.YtahhjhhnjpbocaaDoor
open Go.RowKit

theorem infoString : (Tryd.prog.info? 9).map (fun i => (i.zero, i.size, i.bytes)) = some (some (.string ⟨#[]⟩), 1, 16) := by kernel_rfl
theorem infoHost : (Tryd.prog.info? 31).map (fun i => (i.zero, i.size, i.bytes)) = some (some (.agg #[.string ⟨#[]⟩, .int .i64 0]), 2, 24) := by kernel_rfl

def strV (l : List UInt8) : Value := .string (mkB l)

/-- The cells of hosts. -/
def hcells : Hs → List Value
  | [] => []
  | h :: t => .string h.1 :: .int .i64 h.2 :: hcells t

theorem hcells_append (a b : Hs) : hcells (a ++ b) = hcells a ++ hcells b := by
  induction a with
  | nil => rfl
  | cons h t ih => simp [hcells, ih]

theorem hcells_at (a : Hs) (i : Nat) (h : i < a.length) : (hcells a)[i * 2]? = some (.string a[i].1) ∧ (hcells a)[i * 2 + 1]? = some (.int .i64 a[i].2) := by
  induction a generalizing i with
  | nil => simp at h
  | cons x t ih =>
    cases i with
    | zero => exact ⟨rfl, rfl⟩
    | succ i =>
      have := ih i (by simpa using h)
      rw [show (i + 1) * 2 = i * 2 + 1 + 1 by omega]
      exact this

/-- All blocks that hold no elements of one type stay as they are. -/
structure KeepT (e : TypeId) (w w' : World) : Prop where
  size : w.heap.size ≤ w'.heap.size
  block : ∀ (i : Nat) cur t z, w.heap[i]? = some (.cells cur t z) → t ≠ e → w'.heap[i]? = some (.cells cur t z)

theorem KeepT.refl (e : TypeId) (w : World) : KeepT e w w := ⟨Nat.le_refl _, fun _ _ _ _ h _ => h⟩

theorem KeepT.trans {e : TypeId} {a b c : World} (h : KeepT e a b) (k : KeepT e b c) : KeepT e a c :=
  ⟨Nat.le_trans h.size k.size, fun i cur t z hi ht => k.block i cur t z (h.block i cur t z hi ht) ht⟩

theorem KeepT.below {e : TypeId} {w w' : World} (h : Below w.heap.size w w') : KeepT e w w' :=
  ⟨h.size, fun i cur t z hi _ => by rw [h.block i (Array.getElem?_eq_some_iff.1 hi).1]; exact hi⟩

theorem KeepT.grown {e : TypeId} {size n base : Nat} {v : Value} {xs : List Value} {w w' : World} (h : w.ownsRow base e size v n xs) (hg : w.grownBy w' v.ownBlock) : KeepT e w w' := by
  refine ⟨hg.size, fun i cur t z hi ht => ?_⟩
  have hlt := (Array.getElem?_eq_some_iff.1 hi).1
  rw [hg.block i hlt ?_]
  · exact hi
  · intro c
    rcases h.2 with ⟨rfl, _⟩ | ⟨g, cap, cur', rfl, _, hb, _⟩
    · simp [Value.ownBlock] at c
    · simp [Value.ownBlock] at c
      subst c
      rw [hi] at hb
      injection hb with hb
      injection hb with _ h2 _
      exact ht h2

theorem ownsRow_keepT {e t : TypeId} {size n base : Nat} {v : Value} {xs : List Value} {w w' : World} (h : w.ownsRow base t size v n xs) (hte : t ≠ e) (hk : KeepT e w w') : w'.ownsRow base t size v n xs := by
  refine ⟨h.1, ?_⟩
  rcases h.2 with h0 | ⟨g, cap, cur, e1, e2, hb, e3⟩
  · exact Or.inl h0
  · exact Or.inr ⟨g, cap, cur, e1, e2, hk.block _ _ _ _ hb hte, e3⟩

theorem below_grown {e : TypeId} {size n base : Nat} {v : Value} {xs : List Value} {w w' : World} (h : w.ownsRow base e size v n xs) (hb : base ≤ w.heap.size) (hg : w.grownBy w' v.ownBlock) : Below base w w' :=
  (Below.refl _ _).grown hg hb (fun j hj => (h.lt j hj).1)

theorem row_shape {base : Nat} {e : TypeId} {size n : Nat} {v : Value} {xs : List Value} {w : World} (h : w.ownsRow base e size v n xs) : ∃ oa cp, v = .slice oa n cp := by
  rcases h.2 with ⟨e1, e2⟩ | ⟨g, cap, cur, e1, _⟩
  · subst e2; exact ⟨_, _, e1⟩
  · exact ⟨_, _, e1⟩

theorem mkB_extract (s : ByteArray) (j k : Nat) : mkB ((s.data.toList.take k).drop j) = s.extract j k := by
  apply Go.WideShapes.bytes_inj
  simp [mkB, List.drop_take]

theorem mkB_tail (s : ByteArray) (j : Nat) : mkB (s.data.toList.drop j) = s.extract j s.size := by
  rw [← mkB_extract, lowAll_whole s s.size (Nat.le_refl _)]

theorem row_ownBelow {W W' : World} {base : Nat} {e : TypeId} {size : Nat} {v : Value} {k : Nat} {xs : List Value} (h : W.ownsRow base e size v k xs) (hb : Below W.heap.size W W') : W'.ownsRow base e size v k xs := by
  refine ⟨h.1, ?_⟩
  rcases h.2 with h0 | ⟨g, cap, cur, e1, e2, h3, e3⟩
  · exact Or.inl h0
  · exact Or.inr ⟨g, cap, cur, e1, e2, by rw [hb.block g (Array.getElem?_eq_some_iff.1 h3).1]; exact h3, e3⟩

theorem srow_cells {W : World} {base : Nat} {e : TypeId} {size : Nat} {v : Value} {k : Nat} {xs : List Value} (h : W.ownsRow base e size v k xs) (hk : 1 ≤ k) :
    ∃ g cp, v = .slice (some ⟨g, 0, none⟩) k cp ∧ base ≤ g ∧ g < W.heap.size ∧ k ≤ cp ∧ cp ≤ maxLen ∧ ∀ (j : Nat) x, xs[j]? = some x → W.cell? ⟨g, j, none⟩ = some x := by
  rcases h.2 with ⟨_, h0⟩ | ⟨g, cap, cur, rfl, hbg, hgb, hkc, hcm, _, htk⟩
  · omega
  · refine ⟨g, cap, rfl, hbg, (Array.getElem?_eq_some_iff.1 hgb).1, hkc, hcm, fun j x hx => ?_⟩
    have := h.cells (g := g) rfl j x hx
    by_cases e : j = 0
    · subst e; simpa [Addr.add] using this
    · simpa [Addr.add, e] using this

theorem numOf_bd (l : List UInt8) : -1 ≤ numOf l ∧ numOf l ≤ 999999 := by
  cases h : isNum l
  · rw [numOf_no l h]; decide
  · have := numOf_yes l h; omega

theorem cut1_cases (b : UInt8) (cur t : List UInt8) : (∃ a, cutL b 1 cur t = [a]) ∨ ∃ a c, cutL b 1 cur t = [a, c] := by
  induction t generalizing cur with
  | nil => exact Or.inl ⟨_, rfl⟩
  | cons x t ih =>
    rw [cutL]
    split
    · exact Or.inr ⟨cur, t, by rw [cut_zero]; rfl⟩
    · exact ih _

theorem cut_size (b : UInt8) (m : Nat) (cur t : List UInt8) (x : List UInt8) (h : x ∈ cutL b m cur t) : x.length ≤ cur.length + t.length := by
  induction t generalizing cur m with
  | nil => simp [cutL] at h; subst h; simp
  | cons c t ih =>
    cases m with
    | zero => simp [cutL] at h; subst h; simp
    | succ m =>
      rw [cutL] at h
      split at h
      · rcases List.mem_cons.1 h with e | h
        · subst e; simp
        · have := ih _ _ h; simp at this ⊢; omega
      · have := ih _ _ h; simp at this ⊢; omega

theorem parts_size (d : Int) (cur t : List UInt8) (x : List UInt8) (h : x ∈ partsL d cur t) : x.length ≤ cur.length + t.length := by
  induction t generalizing cur d with
  | nil => simp [partsL] at h; subst h; simp
  | cons c t ih =>
    rw [partsL] at h
    split at h
    · have := ih _ _ h; simp at this ⊢; omega
    · split at h
      · have := ih _ _ h; simp at this ⊢; omega
      · split at h
        · rcases List.mem_cons.1 h with e | h
          · subst e; simp
          · have := ih _ _ h; simp at this ⊢; omega
        · have := ih _ _ h; simp at this ⊢; omega

theorem mkB_size (l : List UInt8) : (mkB l).size = l.length := by simp [mkB, ByteArray.size]
theorem mkB_list (l : List UInt8) : (mkB l).data.toList = l := by simp [mkB]

end Go.Proofs.YtahhjhhnjpbocaaDoor
