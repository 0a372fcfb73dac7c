/- DERIVED. The walk of the method 'ok': a statement that leaves its order open. -/
import Derived.Test.YtaabcbpbijkmnabWalks
import Derived.Deep.QuietTactic
import Derived.BigQuiet
namespace Go.Proofs.Ytaabcbpbijkmnab
open Go.RowKit

theorem len_toList (s : ByteArray) : s.toList.length = s.size := by
  rw [ByteArray.toList_eq]; simp

theorem lead_yes (s : ByteArray) (w : World) (hs : s.size ≤ maxLen) (h : lowAll s.data.toList = true) :
    Calls Try.prog 51 #[.string s, .func (.func 57) #[] #[]] w fun e w' => e = .returned (.string s) ∧ w' = w := by
  refine (lead_any s w hs).mono ?_
  rintro e w' ⟨rfl, rfl⟩
  rw [lead_all _ h]
  simp

theorem lead_no (s : ByteArray) (w : World) (r : ByteArray) (hs : s.size ≤ maxLen) (hr : r = s.extract 0 (lead s.data.toList)) :
    Calls Try.prog 51 #[.string s, .func (.func 57) #[] #[]] w fun e w' => e = .returned (.string r) ∧ w' = w := by
  subst hr
  exact lead_any s w hs

theorem lead_ne (s : ByteArray) (h : lowAll s.data.toList = false) : ((s.extract 0 (lead s.data.toList)).toList == s.toList) = false := by
  have := lead_lt _ h
  rw [beq_eq_false_iff_ne]
  intro e
  have e2 := congrArg List.length e
  have e3 : (s.extract 0 (lead s.data.toList)).size = s.size := by rw [len_toList, len_toList] at e2; exact e2
  have e4 : s.data.toList.length = s.size := by simp
  rw [ByteArray.size_extract] at e3
  omega

theorem hid {p : Prop} (h : p) : Hid p := h

theorem bcell {W w1 : World} (hb : Below W.heap.size W w1) : (∀ b o, b < W.heap.size → w1.cell? ⟨b, o, none⟩ = W.cell? ⟨b, o, none⟩) ∧ (∀ b o, b < W.heap.size → w1.frozen? ⟨b, o, none⟩ = W.frozen? ⟨b, o, none⟩) :=
  ⟨fun b o h => hb.cell (p := ⟨b, o, none⟩) h, fun b o h => hb.frozen (p := ⟨b, o, none⟩) h⟩

end Go.Proofs.Ytaabcbpbijkmnab
