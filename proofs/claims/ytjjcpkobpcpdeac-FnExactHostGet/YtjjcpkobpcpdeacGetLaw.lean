/- DERIVED. The walks of the law on HostGet. -/
import Derived.Test.YtjjcpkobpcpdeacGetSpec
namespace Go.Proofs.Ytjjcpkobpcpdeac
open Go.RowKit

def getAgg (s : ByteArray) : Value := if getOk s = true then .agg #[.string (getName s), .int .i64 (getNum s)] else .agg #[.string ByteArray.empty, .int .i64 0]

/-- What is read, by its parts. -/
theorem getVal_parts (s : ByteArray) : ∃ (r : ByteArray) (n : Int) (b : Bool), getVal s = .tuple #[.agg #[.string r, .int .i64 n], .bool b] := by
  unfold getVal
  cases getOk s
  · exact ⟨_, _, _, if_neg (by decide)⟩
  · exact ⟨_, _, _, if_pos rfl⟩

theorem specGet_val (s r : ByteArray) (n : Int) (b : Bool) (w : World) (hs : s.size ≤ maxLen) (h : getVal s = .tuple #[.agg #[.string r, .int .i64 n], .bool b]) :
    Calls Try.prog 7 #[.string s] w fun e w' => e = .returned (.tuple #[.agg #[.string r, .int .i64 n], .bool b]) ∧ Below w.heap.size w w' := by
  rw [← h]; exact specGet_any s w hs

theorem implGet_val (s r : ByteArray) (n : Int) (b : Bool) (w : World) (hs : s.size ≤ maxLen) (h : getVal s = .tuple #[.agg #[.string r, .int .i64 n], .bool b]) :
    Calls Try.prog 5 #[.string s] w fun e w' => e = .returned (.tuple #[.agg #[.string r, .int .i64 n], .bool b]) ∧ Below w.heap.size w w' := by
  rw [← h]; exact implGet_any s w hs

set_option maxHeartbeats 400000 in
theorem specHostGet_val (s r : ByteArray) (n : Int) (b : Bool) (w : World) (hs : s.size ≤ maxLen) (H : Hid (getVal s = .tuple #[.agg #[.string r, .int .i64 n], .bool b])) :
    Calls Try.prog 4 #[.string s] w fun e w' => e = .returned (.tuple #[.agg #[.string r, .int .i64 n], .bool b]) ∧ Below w.heap.size w w' := by
  go_enter Try.func4, Try.ntmps4
  go_wp2_with fail
  refine (specGet_val _ _ _ _ _ hs H.out).mono ?_
  rintro e w2 ⟨rfl, hb⟩
  have B2 : Hid (Below w.heap.size w w2) := ((Below.refl _ _).alloc (Nat.le_refl _) _).trans (hb.mono (by simp))
  have c0 : w2.cell? ⟨w.heap.size, 0, none⟩ = some (.string { data := #[] }) := by rw [hb.cell (by simp)]; simp
  have c1 : w2.cell? ⟨w.heap.size, 1, none⟩ = some (.int .i64 0) := by rw [hb.cell (by simp)]; simp
  have f0 : w2.frozen? ⟨w.heap.size, 0, none⟩ = false := by rw [hb.frozen (by simp)]; simp
  have f1 : w2.frozen? ⟨w.heap.size, 1, none⟩ = false := by rw [hb.frozen (by simp)]; simp
  clear hb
  go_wp2
  refine bodyPost_ret (v := .tuple #[.agg #[.string r, .int .i64 n], .bool b]) (by simp [results, Try.results4, go_sem, c0, c1]) rfl ⟨rfl, ?_⟩
  exact (B2.out.setCell (Nat.le_refl _) _).setCell (Nat.le_refl _) _

set_option maxHeartbeats 400000 in
theorem eqHost_same (r : ByteArray) (n : Int) (w : World) :
    Calls Try.prog 6 #[.agg #[.string r, .int .i64 n], .agg #[.string r, .int .i64 n]] w fun e w' => e = .returned (.bool true) ∧ Below w.heap.size w w' := by
  go_enter Try.func6, Try.ntmps6
  go_wp2
  go_ret
  exact ⟨rfl, ((Below.refl _ _).alloc (Nat.le_refl _) _).alloc (by simp) _⟩

set_option maxHeartbeats 400000 in
theorem law_any (s : ByteArray) (w : World) (hs : s.size ≤ maxLen) :
    Calls Try.prog 3 #[.string s] w fun e w' => e = .returned (.bool true) ∧ Below w.heap.size w w' := by
  have hs' : s.size ≤ 2 ^ 63 - 1 := hs
  by_cases hbig : 1048576 < (s.size : Int)
  · go_enter Try.func3, Try.ntmps3
    go_wp2
    go_ret
    exact ⟨rfl, Below.refl _ _⟩
  · obtain ⟨r, n, b, hv⟩ := getVal_parts s
    have HV := hid hv
    clear hv
    cases b
    all_goals
      go_enter Try.func3, Try.ntmps3
      go_wp2_with fail
      refine (specHostGet_val _ _ _ _ _ hs HV).mono ?_
      rintro e w1 ⟨rfl, hb1⟩
      have B1 : Hid (Below w.heap.size w w1) := hb1
      have hz1 : w.heap.size ≤ w1.heap.size := hb1.size
      clear hb1
      go_wp2_with fail
      refine (implGet_val _ _ _ _ _ hs HV.out).mono ?_
      rintro e w2 ⟨rfl, hb2⟩
      have B2 : Hid (Below w.heap.size w w2) := (B1.out.alloc (by omega) _).trans (hb2.mono (by simp; omega))
      have hz2 : w1.heap.size < w2.heap.size := by have := hb2.size; simp at this; omega
      have c0 : w2.cell? ⟨w1.heap.size, 0, none⟩ = some (.string r) := by rw [hb2.cell (by simp)]; simp
      have c1 : w2.cell? ⟨w1.heap.size, 1, none⟩ = some (.int .i64 n) := by rw [hb2.cell (by simp)]; simp
      clear hb2
      go_wp2_with fail
      refine (eqHost_same _ _ _).mono ?_
      rintro e w3 ⟨rfl, hb3⟩
      have B3 : Hid (Below w.heap.size w w3) := (B2.out.alloc (by omega) _).trans (hb3.mono (by simp; omega))
      clear hb3 c0 c1
      go_wp2
      go_ret
      exact ⟨rfl, B3.out⟩

end Go.Proofs.Ytjjcpkobpcpdeac
