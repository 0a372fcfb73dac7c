/- DERIVED. Small laws on rows for the walks over patterns. -/
import Derived.Test.YtkcmcbkhkabhdaaDoorRows
import Derived.Test.YtkcmcbkhkabhdaaDoorPatPlain
import Derived.WalkKit
import Derived.WalkSpells
import Derived.WalkLawsBesides
import Derived.Deep.QuietTactic
import Derived.BigQuiet
import Derived.OwnWalk
import Derived.Below
namespace Go.Proofs.YtkcmcbkhkabhdaaDoor
open Go.RowKit

theorem hidP {p : Prop} (h : p) : Hid p := h

theorem p_infoBool : (Tryd.prog.info? 4).map (fun i => (i.zero, i.size, i.bytes)) = some (some (.bool false), 1, 1) := by kernel_rfl

theorem p_below_grown {e : TypeId} {size n base : Nat} {v : Value} {xs : List Value} {w w' : World} (h : w.ownsRow base e size v n xs) (hb : base ≤ w.heap.size) (hg : w.grownBy w' v.ownBlock) : Below base w w' :=
  (Below.refl _ _).grown hg hb (fun j hj => (h.lt j hj).1)

theorem p_row_shape {base : Nat} {e : TypeId} {size n : Nat} {v : Value} {xs : List Value} {w : World} (h : w.ownsRow base e size v n xs) : ∃ oa cp, v = .slice oa n cp := by
  rcases h.2 with ⟨e1, e2⟩ | ⟨g, cap, cur, e1, _⟩
  · subst e2; exact ⟨_, _, e1⟩
  · exact ⟨_, _, e1⟩

theorem p_cell_new1 (w : World) (u : Value) (e : TypeId) : ∀ (j : Nat) x, [u][j]? = some x → (w.alloc (.cells #[u] e)).cell? ((⟨w.heap.size, 0, none⟩ : Addr).add j) = some x := by
  intro j x hj
  match j, hj with
  | 0, hj => simp at hj; subst hj; simp [Addr.add]
  | n + 1, hj => simp at hj

theorem p_drop_cons (s : ByteArray) (k : Nat) (hk : k < s.size) : s.data.toList.drop k = s[k] :: s.data.toList.drop (k + 1) := by
  rw [List.drop_eq_getElem_cons (by simpa using hk)]; rfl

theorem p_get (s : ByteArray) (k : Nat) (hk : k < s.size) : s.data.toList[k]? = some s[k] := by
  rw [List.getElem?_eq_getElem (by simpa using hk)]; rfl

theorem p_take_snoc (s : ByteArray) (k : Nat) (h : k < s.size) : s.data.toList.take (k + 1) = s.data.toList.take k ++ [s[k]] := by
  rw [List.take_add_one, p_get s k h]; rfl

/-- What a byte of a pattern is marked with. -/
def starV (c : UInt8) : Value := .bool ((c.toNat : Int) == 42)

def starI : Option Nat → Int
  | none => -1
  | some n => n

/-- A row of marks that a call can read. -/
def Marks (w : World) (v : Value) (P : ByteArray) : Prop := ∃ oa cp, v = .slice oa P.size cp ∧ ∀ k (h : k < P.size), ∃ g, oa = some ⟨g, 0, none⟩ ∧ w.cell? ⟨g, k, none⟩ = some (starV P[k])

theorem marks_of {w : World} {base : Nat} {v : Value} {P : ByteArray} (h : w.ownsRow base 4 1 v P.size (P.data.toList.map starV)) : Marks w v P := by
  rcases h.2 with ⟨e1, e2⟩ | ⟨g, cap, cur, e1, _⟩
  · refine ⟨none, 0, ?_, fun k hk => absurd hk (by omega)⟩
    rw [e1, e2]
  · refine ⟨_, cap, e1, fun k hk => ⟨g, rfl, ?_⟩⟩
    have := h.cells (g := g) (by rw [e1]; rfl) k (starV P[k]) (by rw [List.getElem?_map, p_get P k hk]; rfl)
    by_cases e : k = 0
    · subst e; simpa [Addr.add] using this
    · simpa [Addr.add, e] using this

end Go.Proofs.YtkcmcbkhkabhdaaDoor
