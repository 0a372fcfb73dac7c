/- DERIVED. The law's own marks at rows of numbers: markIntS, heldIntS; and what they are at no row. -/
import Derived.Test.YtplbfllhimcpiaaGreatDoorVoteTo
namespace Go.Proofs.YtplbfllhimcpiaaGreatDoor
open Go.RowKit

/-- What marks are. -/
def markI (i : Nat) : Value := .int .i64 ((i + 1 : Nat) : Int)

def markedI (j : Nat) (xs : List Value) : List Value := (List.range j).map markI ++ xs.drop j

theorem markedI_set (j : Nat) (xs : List Value) (h : j < xs.length) : (markedI j xs).set j (markI j) = markedI (j + 1) xs := by
  unfold markedI
  have hl : ((List.range j).map markI).length = j := by simp
  rw [List.set_append_right _ _ (by omega), hl, Nat.sub_self, List.range_succ, List.map_append, List.append_assoc]
  congr 1
  rw [List.drop_eq_getElem_cons h]
  rfl

theorem markedI_all (xs : List Value) : markedI xs.length xs = (List.range xs.length).map markI := by
  unfold markedI
  simp

theorem own_cell {w : World} {base g cp n : Nat} {e : TypeId} {xs : List Value} (h : w.ownsRow base e 1 (.slice (some ⟨g, 0, none⟩) n cp) n xs) (j : Nat) (hj : j < n) : (∃ u, w.cell? ⟨g, j, none⟩ = some u) ∧ w.frozen? ⟨g, j, none⟩ = false := by
  rcases h.2 with ⟨e, _⟩ | ⟨g', cap, cur, e, _, hb, hkc, _, hcur, _⟩
  · cases e
  · injection e with e1 e2 e3
    injection e1 with e1
    injection e1 with e1
    subst e1
    have : j < cur.size := by rw [hcur]; omega
    exact ⟨⟨cur[j], by simp [World.cell?, hb, this]⟩, by simp [World.frozen?, hb]⟩

theorem grown_set (w : World) (g j : Nat) (u : Value) : w.grownBy (w.setCell ⟨g, j, none⟩ u) (some g) :=
  ⟨rfl, rfl, rfl, by simp [World.setCell], fun k _ hne => Below.heap_setCell _ _ _ _ (fun e => hne (by rw [e]))⟩

theorem grown_below {w w' : World} (h : Below w.heap.size w w') (row : Option Nat) : w.grownBy w' row := ⟨h.os, h.tape, h.output, h.size, fun k hk _ => h.block k hk⟩

theorem row_grown {w w' : World} {base b : Nat} {v : Value} {n : Nat} {xs : List Value} {g : Nat} (h : w.ownsRow base 3 1 v n xs) (hg : w.grownBy w' (some g)) (hne : ∀ k, v.ownBlock = some k → k < b) (hbg : b ≤ g) : w'.ownsRow base 3 1 v n xs := by
  refine h.kept hg ?_
  cases e : v.ownBlock with
  | none => exact Or.inl rfl
  | some k =>
    right
    intro c
    injection c with c
    have := hne k e
    omega

theorem markedAt {w : World} {base g n cap : Nat} (h : w.ownsRow base 3 1 (.slice (some ⟨g, 0, none⟩) n cap) n ((List.range n).map markI)) : ∀ i, i < n → w.cell? ⟨g, i, none⟩ = some (markI i) := by
  intro i hi
  obtain ⟨g', cp, e, _, _, _, _, hc⟩ := row_cells h (by omega)
  injection e with e1 e2 e3
  injection e1 with e1
  injection e1 with e1
  subst e1
  refine hc i _ ?_
  rw [List.getElem?_map, List.getElem?_range hi]
  rfl

end Go.Proofs.YtplbfllhimcpiaaGreatDoor
