/- DERIVED. Rows of hosts that a call owns. -/
import Derived.Test.YtahhjhhnjpbocacHsCore
import Derived.Test.YtahhjhhnjpbocacHsList
namespace Go.Proofs.Ytahhjhhnjpbocac
open Go.RowKit

theorem infoHost : (Try.prog.info? 29).map (fun i => (i.zero, i.size, i.bytes)) = some (some (.agg #[.string ⟨#[]⟩, .int .i64 0]), 2, 24) := by kernel_rfl

/-- The cells of hosts. -/
def hcells : Hs → List Value
  | [] => []
  | h :: t => .string h.1 :: .int .i64 h.2 :: hcells t

theorem hcells_append (a b : Hs) : hcells (a ++ b) = hcells a ++ hcells b := by
  induction a with
  | nil => rfl
  | cons h t ih => simp [hcells, ih]

theorem hcells_at (a : Hs) (i : Nat) (h : i < a.length) : (hcells a)[i * 2]? = some (.string a[i].1) ∧ (hcells a)[i * 2 + 1]? = some (.int .i64 a[i].2) := by
  induction a generalizing i with
  | nil => simp at h
  | cons x t ih =>
    cases i with
    | zero => exact ⟨rfl, rfl⟩
    | succ i =>
      have := ih i (by simpa using h)
      rw [show (i + 1) * 2 = i * 2 + 1 + 1 by omega]
      exact this

/-- All blocks that hold no elements of one type stay as they are. -/
structure KeepT (e : TypeId) (w w' : World) : Prop where
  size : w.heap.size ≤ w'.heap.size
  block : ∀ (i : Nat) cur t z, w.heap[i]? = some (.cells cur t z) → t ≠ e → w'.heap[i]? = some (.cells cur t z)

theorem KeepT.refl (e : TypeId) (w : World) : KeepT e w w := ⟨Nat.le_refl _, fun _ _ _ _ h _ => h⟩

theorem KeepT.trans {e : TypeId} {a b c : World} (h : KeepT e a b) (k : KeepT e b c) : KeepT e a c :=
  ⟨Nat.le_trans h.size k.size, fun i cur t z hi ht => k.block i cur t z (h.block i cur t z hi ht) ht⟩

theorem KeepT.below {e : TypeId} {w w' : World} (h : Below w.heap.size w w') : KeepT e w w' :=
  ⟨h.size, fun i cur t z hi _ => by rw [h.block i (Array.getElem?_eq_some_iff.1 hi).1]; exact hi⟩

theorem KeepT.grown {e : TypeId} {size n base : Nat} {v : Value} {xs : List Value} {w w' : World} (h : w.ownsRow base e size v n xs) (hg : w.grownBy w' v.ownBlock) : KeepT e w w' := by
  refine ⟨hg.size, fun i cur t z hi ht => ?_⟩
  have hlt := (Array.getElem?_eq_some_iff.1 hi).1
  rw [hg.block i hlt ?_]
  · exact hi
  · intro c
    rcases h.2 with ⟨rfl, _⟩ | ⟨g, cap, cur', rfl, _, hb, _⟩
    · simp [Value.ownBlock] at c
    · simp [Value.ownBlock] at c
      subst c
      rw [hi] at hb
      injection hb with hb
      injection hb with _ h2 _
      exact ht h2

theorem ownsRow_keepT {e t : TypeId} {size n base : Nat} {v : Value} {xs : List Value} {w w' : World} (h : w.ownsRow base t size v n xs) (hte : t ≠ e) (hk : KeepT e w w') : w'.ownsRow base t size v n xs := by
  refine ⟨h.1, ?_⟩
  rcases h.2 with h0 | ⟨g, cap, cur, e1, e2, hb, e3⟩
  · exact Or.inl h0
  · exact Or.inr ⟨g, cap, cur, e1, e2, hk.block _ _ _ _ hb hte, e3⟩

theorem below_grown {e : TypeId} {size n base : Nat} {v : Value} {xs : List Value} {w w' : World} (h : w.ownsRow base e size v n xs) (hb : base ≤ w.heap.size) (hg : w.grownBy w' v.ownBlock) : Below base w w' :=
  (Below.refl _ _).grown hg hb (fun j hj => (h.lt j hj).1)

theorem row_shape {base : Nat} {e : TypeId} {size n : Nat} {v : Value} {xs : List Value} {w : World} (h : w.ownsRow base e size v n xs) : ∃ oa cp, v = .slice oa n cp := by
  rcases h.2 with ⟨e1, e2⟩ | ⟨g, cap, cur, e1, _⟩
  · subst e2; exact ⟨_, _, e1⟩
  · exact ⟨_, _, e1⟩

theorem row_ownBelow {W W' : World} {base : Nat} {e : TypeId} {size : Nat} {v : Value} {k : Nat} {xs : List Value} (h : W.ownsRow base e size v k xs) (hb : Below W.heap.size W W') : W'.ownsRow base e size v k xs := by
  refine ⟨h.1, ?_⟩
  rcases h.2 with h0 | ⟨g, cap, cur, e1, e2, h3, e3⟩
  · exact Or.inl h0
  · exact Or.inr ⟨g, cap, cur, e1, e2, by rw [hb.block g (Array.getElem?_eq_some_iff.1 h3).1]; exact h3, e3⟩

theorem srow_cells {W : World} {base : Nat} {e : TypeId} {size : Nat} {v : Value} {k : Nat} {xs : List Value} (h : W.ownsRow base e size v k xs) (hk : 1 ≤ k) :
    ∃ g cp, v = .slice (some ⟨g, 0, none⟩) k cp ∧ base ≤ g ∧ g < W.heap.size ∧ k ≤ cp ∧ cp ≤ maxLen ∧ ∀ (j : Nat) x, xs[j]? = some x → W.cell? ⟨g, j, none⟩ = some x := by
  rcases h.2 with ⟨_, h0⟩ | ⟨g, cap, cur, rfl, hbg, hgb, hkc, hcm, _, htk⟩
  · omega
  · refine ⟨g, cap, rfl, hbg, (Array.getElem?_eq_some_iff.1 hgb).1, hkc, hcm, fun j x hx => ?_⟩
    have := h.cells (g := g) rfl j x hx
    by_cases e : j = 0
    · subst e; simpa [Addr.add] using this
    · simpa [Addr.add, e] using this

theorem cell_new2 (w : World) (u u2 : Value) (e : TypeId) : ∀ (j : Nat) x, [u, u2][j]? = some x → (w.alloc (.cells #[u, u2] e)).cell? ((⟨w.heap.size, 0, none⟩ : Addr).add j) = some x := by
  intro j x hj
  match j, hj with
  | 0, hj => simp at hj; subst hj; simp [Addr.add]
  | 1, hj => simp at hj; subst hj; simp [Addr.add]
  | n + 2, hj => simp at hj

theorem rowAt_of {w : World} {base g cp : Nat} {o : Hs} (h : w.ownsRow base 29 2 (.slice (some ⟨g, 0, none⟩) o.length cp) o.length (hcells o)) (hn : ∀ x ∈ o, x.1.size ≤ 400) : RowAt w g 0 o.length (Sof o) (Mof o) := by
  have hc : ∀ j x, (hcells o)[j]? = some x → w.cell? ⟨g, 0 + j, none⟩ = some x := by
    intro j x hx
    have := h.cells (g := g) rfl j x hx
    rw [Go.WideShapes.add_plain] at this
    exact this
  have hs : ∀ i, (hi : i < o.length) → Sof o i = o[i].1 ∧ Mof o i = o[i].2 := by
    intro i hi
    simp [Sof, Mof, List.getD, List.getElem?_eq_getElem hi]
  constructor
  · exact (h.lt g rfl).2
  · intro i hi
    rw [(hs i hi).1]; exact hc _ _ (hcells_at o i hi).1
  · intro i hi
    rw [(hs i hi).2, Nat.add_assoc]; exact hc _ _ (hcells_at o i hi).2
  · intro i hi
    rw [(hs i hi).1]
    exact Nat.le_trans (hn _ (List.getElem_mem hi)) (by unfold maxLen; omega)

set_option maxHeartbeats 400000 in
theorem listOk_zero (oa : Option Addr) (cap : Nat) (w : World) :
    Calls Try.prog 15 #[.slice oa 0 cap] w fun e w' => e = .returned (.bool true) ∧ w' = w := by
  go_enter Try.func15, Try.ntmps15
  go_wp2
  go_loop [3] (fun i => i = .int .i64 0) (fun _ => 0)
  case atStart => rfl
  case round =>
    subst hrel
    go_wp2
    go_ret
    exact ⟨rfl, rfl⟩

theorem below_drew1 (w : World) : Below w.heap.size w w.drew := (Below.refl _ _).drew

end Go.Proofs.Ytahhjhhnjpbocac
