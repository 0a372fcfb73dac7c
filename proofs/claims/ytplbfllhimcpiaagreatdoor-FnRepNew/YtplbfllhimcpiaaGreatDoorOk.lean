/- DERIVED. The walk of the method 'ok': a statement that leaves its order open. -/
import Derived.Test.YtplbfllhimcpiaaGreatDoorWalks
import Derived.Deep.QuietTactic
import Derived.BigQuiet
namespace Go.Proofs.YtplbfllhimcpiaaGreatDoor
open Go.RowKit

theorem len_toList (s : ByteArray) : s.toList.length = s.size := by
  rw [ByteArray.toList_eq]; simp



theorem lead_ne (s : ByteArray) (h : lowAll s.data.toList = false) : ((s.extract 0 (lead s.data.toList)).toList == s.toList) = false := by
  have := lead_lt _ h
  rw [beq_eq_false_iff_ne]
  intro e
  have e2 := congrArg List.length e
  have e3 : (s.extract 0 (lead s.data.toList)).size = s.size := by rw [len_toList, len_toList] at e2; exact e2
  have e4 : s.data.toList.length = s.size := by simp
  rw [ByteArray.size_extract] at e3
  omega

theorem hid {p : Prop} (h : p) : Hid p := h

theorem bcell {W w1 : World} (hb : Below W.heap.size W w1) : (∀ b o, b < W.heap.size → w1.cell? ⟨b, o, none⟩ = W.cell? ⟨b, o, none⟩) ∧ (∀ b o, b < W.heap.size → w1.frozen? ⟨b, o, none⟩ = W.frozen? ⟨b, o, none⟩) :=
  ⟨fun b o h => hb.cell (p := ⟨b, o, none⟩) h, fun b o h => hb.frozen (p := ⟨b, o, none⟩) h⟩

end Go.Proofs.YtplbfllhimcpiaaGreatDoor
