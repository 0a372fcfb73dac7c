/- DERIVED. The model's reader of messages: l9Get. -/
import Derived.Test.YtcielnlhopjijabDoorSpecList
namespace Go.Proofs.YtcielnlhopjijabDoor
open Go.RowKit

set_option maxRecDepth 100000 in
set_option maxHeartbeats 3200000 in
theorem l9Get_long (s : ByteArray) (w : World) (hs : 400 < s.size) (hm : s.size ≤ maxLen) :
    Calls Tryd.prog 9 #[.string s] w fun e w' => e = .returned (.tuple #[.agg #[.int .i64 0, .int .i64 0, .int .i64 0, .int .i64 0, .int .i64 0, .slice none 0 0, .slice none 0 0], .bool false]) ∧ Below w.heap.size w w' := by
  have hsI : (400 : Int) < (s.size : Int) := by omega
  have hm' : s.size ≤ 2 ^ 63 - 1 := hm
  have HB0 : Hid (Below w.heap.size w (w.alloc (.cells #[.int .i64 0, .int .i64 0, .int .i64 0, .int .i64 0, .int .i64 0, .slice none 0 0, .slice none 0 0] 25))) := (Below.refl _ _).alloc (Nat.le_refl _) _
  go_enter Tryd.func9, Tryd.ntmps9
  go_wp2
  refine bodyPost_ret (v := .tuple #[.agg #[.int .i64 0, .int .i64 0, .int .i64 0, .int .i64 0, .int .i64 0, .slice none 0 0, .slice none 0 0], .bool false]) (by simp [results, Tryd.results9, go_sem]) rfl ⟨rfl, HB0.out⟩

set_option maxRecDepth 100000 in
set_option maxHeartbeats 3200000 in
theorem l9Get_words (s : ByteArray) (w : World) (hs : s.size ≤ 400) (h8 : (cutL 32 8 [] s.data.toList).length ≠ 8) :
    Calls Tryd.prog 9 #[.string s] w fun e w' => e = .returned (.tuple #[.agg #[.int .i64 0, .int .i64 0, .int .i64 0, .int .i64 0, .int .i64 0, .slice none 0 0, .slice none 0 0], .bool false]) ∧ Below w.heap.size w w' := by
  have hsI : ¬ (400 : Int) < (s.size : Int) := by omega
  obtain ⟨R, hR⟩ : ∃ R, R = cutL 32 8 [] s.data.toList := ⟨_, rfl⟩
  rw [← hR] at h8
  have h8I : ¬ (R.length : Int) = 8 := by omega
  have h8b : ((R.length : Int) == 8) = false := by rw [beq_eq_false_iff_ne]; exact h8I
  have CC : Hid (∀ W, Calls Tryd.prog 20 #[.string s, .int .u8 32, .int .i64 8] W fun e w' => ∃ v, e = .returned v ∧ w'.ownsRow W.heap.size 9 1 v R.length (R.map strV) ∧ Below W.heap.size W w') := fun W => by
    have h := cut_spec s 32 32 8 W (by unfold maxLen; omega) rfl (by decide)
    rw [← hR] at h
    exact h
  have HZ0 : Hid ((w.alloc (.cells #[.int .i64 0, .int .i64 0, .int .i64 0, .int .i64 0, .int .i64 0, .slice none 0 0, .slice none 0 0] 25)).heap[w.heap.size]? = some (.cells #[.int .i64 0, .int .i64 0, .int .i64 0, .int .i64 0, .int .i64 0, .slice none 0 0, .slice none 0 0] 25 (0, 0))) := alloc_new _ _
  have HB0 : Hid (Below w.heap.size w (w.alloc (.cells #[.int .i64 0, .int .i64 0, .int .i64 0, .int .i64 0, .int .i64 0, .slice none 0 0, .slice none 0 0] 25))) := (Below.refl _ _).alloc (Nat.le_refl _) _
  clear hR
  go_enter Tryd.func9, Tryd.ntmps9
  go_wp2_with fail
  obtain ⟨w0, hw0⟩ : ∃ w0, w0 = w.alloc (.cells #[.int .i64 0, .int .i64 0, .int .i64 0, .int .i64 0, .int .i64 0, .slice none 0 0, .slice none 0 0] 25) := ⟨_, rfl⟩
  rw [← hw0] at HZ0 HB0 ⊢
  clear hw0
  refine (CC.out w0).mono ?_
  rintro e w1 ⟨v1, rfl, hrow, hb⟩
  obtain ⟨ov, cv, rfl⟩ := rv_shape hrow
  have HZ1 : Hid (w1.heap[w.heap.size]? = some (.cells #[.int .i64 0, .int .i64 0, .int .i64 0, .int .i64 0, .int .i64 0, .slice none 0 0, .slice none 0 0] 25 (0, 0))) := by show _ = _; rw [hb.block _ (Array.getElem?_eq_some_iff.1 HZ0.out).1]; exact HZ0.out
  have HB1 := hid (HB0.out.trans (hb.mono HB0.out.size))
  clear hrow hb
  have z0 : w1.cell? ⟨w.heap.size, 0, none⟩ = some (.int .i64 0) := by rw [in_block HZ1.out 0]; rfl
  have z1 : w1.cell? ⟨w.heap.size, 1, none⟩ = some (.int .i64 0) := by rw [in_block HZ1.out 1]; rfl
  have z2 : w1.cell? ⟨w.heap.size, 2, none⟩ = some (.int .i64 0) := by rw [in_block HZ1.out 2]; rfl
  have z3 : w1.cell? ⟨w.heap.size, 3, none⟩ = some (.int .i64 0) := by rw [in_block HZ1.out 3]; rfl
  have z4 : w1.cell? ⟨w.heap.size, 4, none⟩ = some (.int .i64 0) := by rw [in_block HZ1.out 4]; rfl
  have z5 : w1.cell? ⟨w.heap.size, 5, none⟩ = some (.slice none 0 0) := by rw [in_block HZ1.out 5]; rfl
  have z6 : w1.cell? ⟨w.heap.size, 6, none⟩ = some (.slice none 0 0) := by rw [in_block HZ1.out 6]; rfl
  have f0 : w1.frozen? ⟨w.heap.size, 0, none⟩ = false := free_block HZ1.out 0
  have f1 : w1.frozen? ⟨w.heap.size, 1, none⟩ = false := free_block HZ1.out 1
  have f2 : w1.frozen? ⟨w.heap.size, 2, none⟩ = false := free_block HZ1.out 2
  have f3 : w1.frozen? ⟨w.heap.size, 3, none⟩ = false := free_block HZ1.out 3
  have f4 : w1.frozen? ⟨w.heap.size, 4, none⟩ = false := free_block HZ1.out 4
  have f5 : w1.frozen? ⟨w.heap.size, 5, none⟩ = false := free_block HZ1.out 5
  have f6 : w1.frozen? ⟨w.heap.size, 6, none⟩ = false := free_block HZ1.out 6
  go_wp2
  refine bodyPost_ret (v := .tuple #[.agg #[.int .i64 0, .int .i64 0, .int .i64 0, .int .i64 0, .int .i64 0, .slice none 0 0, .slice none 0 0], .bool false]) (by simp [results, Tryd.results9, go_sem, z0, z1, z2, z3, z4, z5, z6]) rfl ⟨rfl, (((((((HB1.out).setCell (p := ⟨w.heap.size, 0, none⟩) (Nat.le_refl _) (.int .i64 0)).setCell (p := ⟨w.heap.size, 1, none⟩) (Nat.le_refl _) (.int .i64 0)).setCell (p := ⟨w.heap.size, 2, none⟩) (Nat.le_refl _) (.int .i64 0)).setCell (p := ⟨w.heap.size, 3, none⟩) (Nat.le_refl _) (.int .i64 0)).setCell (p := ⟨w.heap.size, 4, none⟩) (Nat.le_refl _) (.int .i64 0)).setCell (p := ⟨w.heap.size, 5, none⟩) (Nat.le_refl _) (.slice none 0 0)).setCell (p := ⟨w.heap.size, 6, none⟩) (Nat.le_refl _) (.slice none 0 0)⟩

end Go.Proofs.YtcielnlhopjijabDoor
