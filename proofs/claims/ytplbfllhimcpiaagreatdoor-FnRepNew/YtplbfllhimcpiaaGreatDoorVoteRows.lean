/- DERIVED. Rows of numbers of the call's own. -/
import Derived.Test.YtplbfllhimcpiaaGreatDoorNumsAt
namespace Go.Proofs.YtplbfllhimcpiaaGreatDoor
open Go.RowKit

/-- A row of numbers of the call's own. -/
def numRow (w : World) (base : Nat) (v : Value) (V : List Int) : Prop := w.ownsRow base 3 1 v V.length (V.map (Value.int .i64))

theorem below_grown {e : TypeId} {size n base : Nat} {v : Value} {xs : List Value} {w w' : World} (h : w.ownsRow base e size v n xs) (hb : base ≤ w.heap.size) (hg : w.grownBy w' v.ownBlock) : Below base w w' :=
  (Below.refl _ _).grown hg hb (fun j hj => (h.lt j hj).1)

theorem row_below {W W' : World} {base : Nat} {e : TypeId} {size : Nat} {v : Value} {k : Nat} {xs : List Value} (h : W.ownsRow base e size v k xs) (hb : Below W.heap.size W W') : W'.ownsRow base e size v k xs := by
  refine ⟨h.1, ?_⟩
  rcases h.2 with h0 | ⟨g, cap, cur, e1, e2, h3, e3⟩
  · exact Or.inl h0
  · exact Or.inr ⟨g, cap, cur, e1, e2, by rw [hb.block g (Array.getElem?_eq_some_iff.1 h3).1]; exact h3, e3⟩

theorem row_cells {W : World} {base : Nat} {e : TypeId} {size : Nat} {v : Value} {k : Nat} {xs : List Value} (h : W.ownsRow base e size v k xs) (hk : 1 ≤ k) :
    ∃ g cp, v = .slice (some ⟨g, 0, none⟩) k cp ∧ base ≤ g ∧ g < W.heap.size ∧ k ≤ cp ∧ cp ≤ maxLen ∧ ∀ (j : Nat) x, xs[j]? = some x → W.cell? ⟨g, j, none⟩ = some x := by
  rcases h.2 with ⟨_, h0⟩ | ⟨g, cap, cur, rfl, hbg, hgb, hkc, hcm, _, htk⟩
  · omega
  · refine ⟨g, cap, rfl, hbg, (Array.getElem?_eq_some_iff.1 hgb).1, hkc, hcm, fun j x hx => ?_⟩
    have := h.cells (g := g) rfl j x hx
    by_cases e : j = 0
    · subst e; simpa [Addr.add] using this
    · simpa [Addr.add, e] using this

theorem nums_of {w : World} {base : Nat} {v : Value} {V : List Int} (h : w.ownsRow base 3 1 v V.length (V.map (Value.int .i64))) : ∃ oa cp, v = .slice oa V.length cp ∧ V.length ≤ cp ∧ cp ≤ maxLen ∧ NumsAt w oa V := by
  rcases Nat.eq_zero_or_pos V.length with h0 | h0
  · rcases h.2 with ⟨e, _⟩ | ⟨g, cap, cur, e, _, _, hk, hm, _⟩
    · exact ⟨none, 0, by rw [h0]; exact e, by omega, Nat.zero_le _, fun i hi => by omega⟩
    · exact ⟨_, cap, e, hk, hm, fun i hi => by omega⟩
  · obtain ⟨g, cp, e, _, hg, hk, hm, hc⟩ := row_cells h h0
    refine ⟨_, cp, e, hk, hm, fun i hi => ⟨g, 0, rfl, hg, ?_⟩⟩
    rw [Nat.zero_add]
    refine hc i _ ?_
    rw [List.getElem?_map, List.getElem?_eq_getElem hi]
    rfl

theorem heap_set_at (w : World) (g j : Nat) (cur : Array Value) (e : TypeId) (v : Value) (hh : w.heap[g]? = some (.cells cur e (0, 0))) : (w.setCell ⟨g, j, none⟩ v).heap[g]? = some (.cells (cur.setIfInBounds j v) e (0, 0)) := by
  have hlt := (Array.getElem?_eq_some_iff.1 hh).1
  have e0 : w.heap[g] = .cells cur e (0, 0) := by
    have := Array.getElem?_eq_getElem hlt
    rw [hh] at this
    exact (Option.some.inj this).symm
  unfold World.setCell
  simp [hlt, Array.getElem_modify, e0]

theorem row_store {w : World} {base : Nat} {e : TypeId} {g n cap : Nat} {xs : List Value} (h : w.ownsRow base e 1 (.slice (some ⟨g, 0, none⟩) n cap) n xs) (j : Nat) (v : Value) : (w.setCell ⟨g, j, none⟩ v).ownsRow base e 1 (.slice (some ⟨g, 0, none⟩) n cap) n (xs.set j v) := by
  obtain ⟨h1, h2⟩ := h
  refine ⟨by rw [List.length_set]; exact h1, ?_⟩
  rcases h2 with ⟨h0, _⟩ | ⟨g', cap', cur, hv, hg, hh, hn, hcap, hsz, htake⟩
  · cases h0
  · cases hv
    refine Or.inr ⟨g, cap, cur.setIfInBounds j v, rfl, hg, heap_set_at w g j cur e v hh, hn, hcap, by rw [Array.size_setIfInBounds]; exact hsz, ?_⟩
    rw [Array.toList_setIfInBounds, List.take_set, htake]

theorem own_free {w : World} {base g cp n : Nat} {e : TypeId} {xs : List Value} (h : w.ownsRow base e 1 (.slice (some ⟨g, 0, none⟩) n cp) n xs) (j : Nat) : w.frozen? ⟨g, j, none⟩ = false := by
  rcases h.2 with ⟨e, _⟩ | ⟨g', cap, cur, e, _, hb, hkc, _, hcur, _⟩
  · cases e
  · injection e with e1 e2 e3
    injection e1 with e1
    injection e1 with e1
    subst e1
    simp [World.frozen?, hb]

theorem nums_of_len {w : World} {base k : Nat} {v : Value} {V : List Int} (hk : V.length = k) (h : w.ownsRow base 3 1 v V.length (V.map (Value.int .i64))) : ∃ oa cp, v = .slice oa k cp ∧ NumsAt w oa V := by
  subst hk
  obtain ⟨oa, cp, e, _, _, hn⟩ := nums_of h
  exact ⟨oa, cp, e, hn⟩

end Go.Proofs.YtplbfllhimcpiaaGreatDoor
