/- DERIVED. slices.SortFunc at a row of hosts that the call owns. -/
import Derived.Test.YtahhjhhnjpbocacSortCmp
namespace Go.Proofs.Ytahhjhhnjpbocac
open Go.RowKit Go.Sort Go.Lib

theorem hcells_len (o : Hs) : (hcells o).length = o.length * 2 := by
  induction o with
  | nil => rfl
  | cons h t ih => simp [hcells, ih]; omega

theorem hcells_one (o : Hs) : ∀ u ∈ hcells o, u.oneCell' = true := by
  induction o with
  | nil => intro u hu; cases hu
  | cons h t ih =>
    intro u hu
    simp only [hcells, List.mem_cons] at hu
    rcases hu with rfl | rfl | hu
    · rfl
    · rfl
    · exact ih u hu

theorem flat_cells (o : Hs) (t : Nat) (h : t < o.length * 2) : (hcells o)[t]? = some ((encH o.toArray[t / 2]!)[t % 2]!) := by
  have hi : t / 2 < o.length := by omega
  have h0 := hcells_at o (t / 2) hi
  have e : o.toArray[t / 2]! = o[t / 2] := by simp [getElem!_pos, hi]
  rw [e]
  rcases Nat.mod_two_eq_zero_or_one t with hm | hm
  · rw [hm]
    have ht : t = t / 2 * 2 := by omega
    rw [show (encH o[t / 2])[0]! = Value.string o[t / 2].1 from rfl, ← h0.1, ← ht]
  · rw [hm]
    have ht : t = t / 2 * 2 + 1 := by omega
    rw [show (encH o[t / 2])[1]! = Value.int .i64 o[t / 2].2 from rfl, ← h0.2, ← ht]

theorem holds_row {w : World} {base g cp : Nat} {o : Hs} (h : w.ownsRow base 29 2 (.slice (some ⟨g, 0, none⟩) o.length cp) o.length (hcells o)) : HoldsK encH 2 w g 0 o.toArray := by
  intro j hj
  rw [size_flatK] at hj
  have hj' : j < o.length * 2 := by simpa using hj
  have hc := h.cells (g := g) rfl j _ (flat_cells o j hj')
  rw [Go.WideShapes.add_plain] at hc
  refine ⟨by rw [get_flatK _ _ _ _ hj]; exact hc, ?_⟩
  rcases h.2 with ⟨e, _⟩ | ⟨g', cap, cur, e, _, hb, _⟩
  · cases e
  · injection e with e1 e2 e3
    injection e1 with e1
    injection e1 with e1
    subst e1
    simp [World.frozen?, hb]

/-- What a sort leaves. -/
theorem row_sorted {w : World} {base g cp : Nat} {o o' : Hs} (h : w.ownsRow base 29 2 (.slice (some ⟨g, 0, none⟩) o.length cp) o.length (hcells o)) (hl : o'.length = o.length) (n : Nat) (os : Array Obj) :
    (sortWorldK encH 2 w g 0 n o'.toArray os).ownsRow base 29 2 (.slice (some ⟨g, 0, none⟩) o'.length cp) o'.length (hcells o') ∧ w.grownBy (sortWorldK encH 2 w g 0 n o'.toArray os) (some g) := by
  have hg := (h.lt g rfl).2
  have hH := holds_row h
  have hH' := holdsK_sortWorldK_c encH 2 w g 0 o.toArray o'.toArray n os hH hg (by simp [hl])
  rcases h.2 with ⟨e, _⟩ | ⟨g', cap, cur, e, hbg, hb, hkc, hcm, hcur, _⟩
  · cases e
  · injection e with e1 e2 e3
    injection e1 with e1
    injection e1 with e1
    subst e1 e3
    have hb' : (sortWorldK encH 2 w g 0 n o'.toArray os).heap[g]? = some (.cells (putCells id 0 (flatK encH 2 o'.toArray) cur) 29 (0, 0)) := by
      show ((w.heap.modify g (onCells (putCells id 0 (flatK encH 2 o'.toArray)))) ++ os)[g]? = _
      rw [Array.getElem?_append_left (by simpa using hg), Array.getElem?_modify, if_pos rfl, hb]
      rfl
    have hsz : (putCells id 0 (flatK encH 2 o'.toArray) cur).size = cur.size := by simp [putCells]
    constructor
    · refine ⟨hcells_len o', Or.inr ⟨g, cp, _, rfl, hbg, hb', by omega, hcm, by rw [hsz]; exact hcur, ?_⟩⟩
      apply List.ext_getElem?
      intro j
      by_cases hj : j < o'.length * 2
      · rw [List.getElem?_take, if_pos hj, flat_cells o' j hj]
        have hc := (hH' j (by rw [size_flatK]; simpa using hj)).1
        rw [get_flatK _ _ _ _ (by simpa using hj), Nat.zero_add] at hc
        have hc2 : (sortWorldK encH 2 w g 0 n o'.toArray os).cell? ⟨g, j, none⟩ = (putCells id 0 (flatK encH 2 o'.toArray) cur)[j]? := by simp [World.cell?, hb']
        rw [hc2] at hc
        simpa using hc
      · rw [List.getElem?_eq_none (by simp; omega), List.getElem?_eq_none (by rw [hcells_len]; omega)]
    · refine ⟨rfl, rfl, rfl, size_sortWorldK_c encH 2 w g 0 n _ os, fun k hk hne => ?_⟩
      show ((w.heap.modify g (onCells (putCells id 0 (flatK encH 2 o'.toArray)))) ++ os)[k]? = _
      rw [Array.getElem?_append_left (by simpa using hk), Array.getElem?_modify, if_neg (fun e => hne (by rw [e]))]

theorem sort_row (base g cp : Nat) (o : Hs) (w : World) (hl : o.length ≤ 100) (h : w.ownsRow base 29 2 (.slice (some ⟨g, 0, none⟩) o.length cp) o.length (hcells o)) :
    Calls Try.prog 12 #[.slice (some ⟨g, 0, none⟩) o.length cp, .func (.func 13) #[] #[]] w fun e w' =>
      e = .returned (.tuple #[]) ∧ ∃ o' : Hs, o'.length = o.length ∧ o'.Perm o ∧ (o'.Pairwise fun x y => lessH y x = false) ∧ w'.ownsRow base 29 2 (.slice (some ⟨g, 0, none⟩) o'.length cp) o'.length (hcells o') ∧ w.grownBy w' (some g) := by
  have eg : ∀ args w, (callFunc 13 args).run Try.prog w = .ok (.enter 13 args) w := enters_of Try.func13 (by kernel_rfl) rfl
  have hcon := AnyQ.slices_SortFunc_total Go.Proofs.Try.lsort 2 Try.isAgg29 Try.sizeOf29 encH (fun _ => rfl) (fun x v hv => by simp [encH] at hv; rcases hv with rfl | rfl <;> rfl) cmpH swoH 13 #[] g 0 cp o.toArray w eg (cmpLaysH g 0 _ w) (holds_row h) (h.lt g rfl).2 (by simp; omega) totalH
  have hs : o.toArray.size = o.length := by simp
  rw [hs] at hcon
  refine Calls.mono (show Calls Try.prog 12 _ _ _ from hcon) ?_
  rintro e w' ⟨rfl, n, os, rfl⟩
  refine ⟨rfl, o.mergeSort (fun x y => !(ltOf cmpH) y x), by simp, List.mergeSort_perm _ _, ?_, ?_⟩
  · have hp := List.pairwise_mergeSort (le := fun x y => !(ltOf cmpH) y x) ?_ ?_ o
    · refine hp.imp ?_
      intro a b hab
      rw [lt_cmpH] at hab
      simpa using hab
    · intro a b c h1 h2
      simp only [lt_cmpH, Bool.not_eq_true'] at *
      have := swoH.ntrans c b a (by rw [lt_cmpH]; exact h2) (by rw [lt_cmpH]; exact h1)
      rw [lt_cmpH] at this; exact this
    · intro a b
      simp only [lt_cmpH, Bool.or_eq_true, Bool.not_eq_true']
      cases h1 : lessH b a
      · exact Or.inl rfl
      · right
        cases h2 : lessH a b
        · rfl
        · have := lessH_trans a b a h2 h1
          rw [lessH_irrefl] at this; cases this
  · exact row_sorted h (by simp) n os

end Go.Proofs.Ytahhjhhnjpbocac
