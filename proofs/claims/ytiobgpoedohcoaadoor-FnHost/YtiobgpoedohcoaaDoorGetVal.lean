/- DERIVED. HostGet's contracts, by the parts of what it reads. -/
import Derived.Test.YtiobgpoedohcoaaDoorGetSpec
namespace Go.Proofs.YtiobgpoedohcoaaDoor
open Go.RowKit

/-- What is read, by its parts. -/
theorem getVal_parts (s : ByteArray) : ∃ (r : ByteArray) (n : Int) (b : Bool), getVal s = .tuple #[.agg #[.string r, .int .i64 n], .bool b] := by
  unfold getVal
  cases getOk s
  · exact ⟨_, _, _, if_neg (by decide)⟩
  · exact ⟨_, _, _, if_pos rfl⟩

theorem specGet_val (s r : ByteArray) (n : Int) (b : Bool) (w : World) (hs : s.size ≤ maxLen) (h : getVal s = .tuple #[.agg #[.string r, .int .i64 n], .bool b]) :
    Calls Tryd.prog 23 #[.string s] w fun e w' => e = .returned (.tuple #[.agg #[.string r, .int .i64 n], .bool b]) ∧ Below w.heap.size w w' := by
  rw [← h]; exact specGet_any s w hs

theorem implGet_val (s r : ByteArray) (n : Int) (b : Bool) (w : World) (hs : s.size ≤ maxLen) (h : getVal s = .tuple #[.agg #[.string r, .int .i64 n], .bool b]) :
    Calls Tryd.prog 6 #[.string s] w fun e w' => e = .returned (.tuple #[.agg #[.string r, .int .i64 n], .bool b]) ∧ Below w.heap.size w w' := by
  rw [← h]; exact implGet_any s w hs

set_option maxHeartbeats 400000 in
theorem specHostGet_val (s r : ByteArray) (n : Int) (b : Bool) (w : World) (hs : s.size ≤ maxLen) (H : Hid (getVal s = .tuple #[.agg #[.string r, .int .i64 n], .bool b])) :
    Calls Tryd.prog 11 #[.string s] w fun e w' => e = .returned (.tuple #[.agg #[.string r, .int .i64 n], .bool b]) ∧ Below w.heap.size w w' := by
  go_enter Tryd.func11, Tryd.ntmps11
  go_wp2_with fail
  refine (specGet_val _ _ _ _ _ hs H.out).mono ?_
  rintro e w2 ⟨rfl, hb⟩
  have B2 : Hid (Below w.heap.size w w2) := ((Below.refl _ _).alloc (Nat.le_refl _) _).trans (hb.mono (by simp))
  have c0 : w2.cell? ⟨w.heap.size, 0, none⟩ = some (.string { data := #[] }) := by rw [hb.cell (by simp)]; simp
  have c1 : w2.cell? ⟨w.heap.size, 1, none⟩ = some (.int .i64 0) := by rw [hb.cell (by simp)]; simp
  have f0 : w2.frozen? ⟨w.heap.size, 0, none⟩ = false := by rw [hb.frozen (by simp)]; simp
  have f1 : w2.frozen? ⟨w.heap.size, 1, none⟩ = false := by rw [hb.frozen (by simp)]; simp
  clear hb
  go_wp2
  refine bodyPost_ret (v := .tuple #[.agg #[.string r, .int .i64 n], .bool b]) (by simp [results, Tryd.results11, go_sem, c0, c1]) rfl ⟨rfl, ?_⟩
  exact (B2.out.setCell (Nat.le_refl _) _).setCell (Nat.le_refl _) _

end Go.Proofs.YtiobgpoedohcoaaDoor
