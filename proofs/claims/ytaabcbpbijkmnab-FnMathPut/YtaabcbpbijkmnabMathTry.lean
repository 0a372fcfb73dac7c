/- DERIVED. The walk of tryMath: a fault is caught. -/
import Derived.Test.YtaabcbpbijkmnabMathAll
import Derived.Defers
import Derived.Recover
namespace Go.Proofs.Ytaabcbpbijkmnab
open Go.RowKit

theorem assert_nil (T : TypeId) (W : World) : (Instr.typeAssert .nilIface T 52 true).run Try.prog W = .ok (.tuple #[.agg #[.int .i64 0], .bool false]) W := by kernel_rfl

theorem assert_yes (c : Int) (T : TypeId) (W : World) : (Instr.typeAssert (.iface 52 (.agg #[.int .i64 c])) T 52 true).run Try.prog W = .ok (.tuple #[.agg #[.int .i64 c], .bool true]) W := by kernel_rfl

set_option maxRecDepth 100000 in
set_option maxHeartbeats 1600000 in
theorem catch_idle (a b : Nat) (w : World) :
    CallsD Try.prog 18 #[.pointer (some ⟨a, 0, none⟩), .pointer (some ⟨b, 0, none⟩)] .returning w fun e u' w' => e = .returned (.tuple #[]) ∧ u' = .returning ∧ Below w.heap.size w w' := by
  refine callsD_of_wpS Try.func18 rfl fun c₀ cs hu => ?_
  apply wpS_seq
  apply wpS_region
  simp [wpOpsS, go_sem, recoverD, hu, Try.ntmps18, Exit.thenS, assert_nil]
  apply wpS_seq
  apply wpS_region
  simp [wpOpsS, go_sem, Exit.thenS]
  refine wpS_cond (t := false) (by simp [Act.eval, Array.replicate]) ?_
  simp only [Bool.false_eq_true, if_false]
  refine wpS_of_wp (wp_skip ?_)
  cases c₀
  simp_all [bodyPostS, results, Try.results18]
  exact (Below.refl _ _).alloc (Nat.le_refl _) _

set_option maxRecDepth 100000 in
set_option maxHeartbeats 1600000 in
theorem catch_fault (a b : Nat) (c x y : Int) (older : List PanicEntry) (w : World) (ha : w.cell? ⟨a, 0, none⟩ = some (.int .i64 x)) (hb : w.cell? ⟨b, 0, none⟩ = some (.int .i64 y)) (fa : w.frozen? ⟨a, 0, none⟩ = false) (fb : w.frozen? ⟨b, 0, none⟩ = false) (hab : a ≠ b) (hla : a < w.heap.size) (hlb : b < w.heap.size) :
    CallsD Try.prog 18 #[.pointer (some ⟨a, 0, none⟩), .pointer (some ⟨b, 0, none⟩)] (.panicking ({ v := faultV c, recovered := false } :: older)) w fun e u' w' => e = .returned (.tuple #[]) ∧ u' = .panicking ({ v := faultV c, recovered := true } :: older) ∧ w'.cell? ⟨a, 0, none⟩ = some (.int .i64 0) ∧ w'.cell? ⟨b, 0, none⟩ = some (.int .i64 c) ∧ w' = (((w.alloc (.cells #[.int .i64 c] 52)).setCell ⟨a, 0, none⟩ (.int .i64 0)).setCell ⟨b, 0, none⟩ (.int .i64 c)).drew := by
  refine callsD_of_wpS Try.func18 rfl fun c₀ cs hu => ?_
  unfold faultV at hu ⊢
  apply wpS_seq
  apply wpS_region
  simp [wpOpsS, go_sem, recoverD, hu, Try.ntmps18, Exit.thenS, assert_yes]
  apply wpS_seq
  apply wpS_region
  simp [wpOpsS, go_sem, Exit.thenS]
  refine wpS_cond (t := true) (by simp [Act.eval, Array.replicate]) ?_
  simp only [if_true]
  refine wpS_of_wp ?_
  simp [Array.replicate]
  have hal := (Below.refl w.heap.size w).alloc (Nat.le_refl _) (.cells #[.int .i64 c] 52)
  have e1 : (w.alloc (.cells #[.int .i64 c] 52)).cell? ⟨a, 0, none⟩ = some (.int .i64 x) := by rw [hal.cell (p := ⟨a, 0, none⟩) hla]; exact ha
  have e2 : (w.alloc (.cells #[.int .i64 c] 52)).cell? ⟨b, 0, none⟩ = some (.int .i64 y) := by rw [hal.cell (p := ⟨b, 0, none⟩) hlb]; exact hb
  have e3 : (w.alloc (.cells #[.int .i64 c] 52)).cell? ⟨w.heap.size, 0, none⟩ = some (.int .i64 c) := by simp
  have g1 : (w.alloc (.cells #[.int .i64 c] 52)).frozen? ⟨a, 0, none⟩ = false := by rw [hal.frozen (p := ⟨a, 0, none⟩) hla]; exact fa
  have g2 : (w.alloc (.cells #[.int .i64 c] 52)).frozen? ⟨b, 0, none⟩ = false := by rw [hal.frozen (p := ⟨b, 0, none⟩) hlb]; exact fb
  have HAL := hid hal
  obtain ⟨t, ht⟩ : ∃ t, t = w.heap.size := ⟨_, rfl⟩
  have hat : a ≠ t := by omega
  have hbt : b ≠ t := by omega
  rw [← ht] at e3 ⊢
  obtain ⟨W, hW⟩ : ∃ W, W = w.alloc (.cells #[.int .i64 c] 52) := ⟨_, rfl⟩
  rw [← hW] at e1 e2 e3 g1 g2 HAL ⊢
  have x1 : (W.setCell ⟨a, 0, none⟩ (.int .i64 0)).cell? ⟨b, 0, none⟩ = some (.int .i64 y) := by rw [World.cell?_setCell_other (h := fun e => hab (by injection e))]; exact e2
  have x2 : (W.setCell ⟨a, 0, none⟩ (.int .i64 0)).cell? ⟨t, 0, none⟩ = some (.int .i64 c) := by rw [World.cell?_setCell_other (h := fun e => hat (by injection e))]; exact e3
  have HW := hid hW
  clear hal hW ht ha hb fa fb hu
  go_region
  refine ⟨rfl, _, rfl, .tuple #[], by simp [results, Try.results18], rfl, rfl, ?_, ?_, ?_⟩
  · show ((W.setCell ⟨a, 0, none⟩ (.int .i64 0)).setCell ⟨b, 0, none⟩ (.int .i64 c)).cell? ⟨a, 0, none⟩ = _
    rw [World.cell?_setCell_other (h := fun e => hab (by injection e with e; exact e.symm)), World.cell?_setCell_same (h := e1)]
  · show ((W.setCell ⟨a, 0, none⟩ (.int .i64 0)).setCell ⟨b, 0, none⟩ (.int .i64 c)).cell? ⟨b, 0, none⟩ = _
    rw [World.cell?_setCell_same (h := x1)]
  · rfl

set_option maxRecDepth 100000 in
set_option maxHeartbeats 1600000 in
theorem try_any (R : Nat) (s : ByteArray) (ov : Value) (V : Vs) (rk : Bool) (w : World) (hs : s.size ≤ maxLen) (hm : MAt w R s 0 0 ov rk) (hv : VarsAt w R ov V) :
    Calls Try.prog 11 #[.pointer (some ⟨R, 0, none⟩)] w fun e w' => e = .returned (.tuple #[.int .i64 (tryP rk V s).1, .int .i64 (tryP rk V s).2]) ∧ Keeps R w w' := by
  have hmf := makeFunc_any
  have hR := hm.old
  have HM := hid hm
  have HV := hid hv
  have CA := hid (fun W hm hv => all_any R s ov V rk W hs hm hv)
  have HB0 : Hid (Below w.heap.size w ((w.alloc (.cells #[.int .i64 0] 3)).alloc (.cells #[.int .i64 1] 3))) := ((Below.refl _ _).alloc (Nat.le_refl _) _).alloc (by simp) _
  have HM0 := hid (HM.out.below HB0.out)
  have HV0 := hid (HV.out.below HB0.out)
  have C00 : Hid (((w.alloc (.cells #[.int .i64 0] 3)).alloc (.cells #[.int .i64 1] 3)).cell? ⟨w.heap.size, 0, none⟩ = some (.int .i64 0)) := by
    show _ = _
    rw [((Below.refl (w.alloc (.cells #[.int .i64 0] 3)).heap.size (w.alloc (.cells #[.int .i64 0] 3))).alloc (Nat.le_refl _) _).cell (p := ⟨w.heap.size, 0, none⟩) (by simp)]; simp
  have C01 : Hid (((w.alloc (.cells #[.int .i64 0] 3)).alloc (.cells #[.int .i64 1] 3)).cell? ⟨w.heap.size + 1, 0, none⟩ = some (.int .i64 1)) := by
    show _ = _
    have := World.cell?_alloc_new
    simp
  have F00 : Hid (((w.alloc (.cells #[.int .i64 0] 3)).alloc (.cells #[.int .i64 1] 3)).frozen? ⟨w.heap.size, 0, none⟩ = false) := by
    show _ = _
    rw [((Below.refl (w.alloc (.cells #[.int .i64 0] 3)).heap.size (w.alloc (.cells #[.int .i64 0] 3))).alloc (Nat.le_refl _) _).frozen (p := ⟨w.heap.size, 0, none⟩) (by simp)]; simp
  have F01 : Hid (((w.alloc (.cells #[.int .i64 0] 3)).alloc (.cells #[.int .i64 1] 3)).frozen? ⟨w.heap.size + 1, 0, none⟩ = false) := by
    show _ = _
    simp
  clear hm hv
  cases hT : allP rk V s with
  | error c =>
    have HTE : Hid (tryP rk V s = (0, c)) := by show _ = _; unfold tryP; rw [hT]
    rw [HTE.out]
    rw [hT] at CA
    clear hT HTE
    have CE : Hid (∀ W, MAt W R s 0 0 ov rk → VarsAt W R ov V → Calls Try.prog 19 #[.pointer (some ⟨R, 0, none⟩)] W fun e w' => e = .panicked [{ v := faultV c, recovered := false }] ∧ Keeps R W w') := CA
    clear CA
    go_enter_defers Try.func11, Try.ntmps11
    go_wp2_with fail
    refine (CE.out _ HM0.out HV0.out).mono ?_
    rintro e w1 ⟨rfl, hk⟩
    have HK := hid hk
    have a0 : w1.cell? ⟨w.heap.size, 0, none⟩ = some (.int .i64 0) := by rw [hk.cell _ _ (by simp; omega) (by omega)]; exact C00.out
    have b0 : w1.cell? ⟨w.heap.size + 1, 0, none⟩ = some (.int .i64 1) := by rw [hk.cell _ _ (by simp) (by omega)]; exact C01.out
    have fa : w1.frozen? ⟨w.heap.size, 0, none⟩ = false := by rw [hk.frozen _ _ (by simp; omega)]; exact F00.out
    have fb : w1.frozen? ⟨w.heap.size + 1, 0, none⟩ = false := by rw [hk.frozen _ _ (by simp)]; exact F01.out
    have hsz : w.heap.size + 1 < w1.heap.size := Nat.lt_of_lt_of_le (by simp) hk.size
    clear hk
    dsimp only
    refine leaves_cons (f := 18) (args := #[.pointer (some ⟨w.heap.size, 0, none⟩), .pointer (some ⟨w.heap.size + 1, 0, none⟩)]) (by simp) (by simp [go_sem]) ?_
    refine (catch_fault w.heap.size (w.heap.size + 1) c 0 1 [] w1 a0 b0 fa fb (by omega) (by omega) hsz).mono ?_
    rintro e u' w2 ⟨rfl, rfl, h1, h2, h3⟩
    simp [Leaves, settle, results, Try.results11, go_sem, h1, h2]
    rw [h3]
    have hk1 : Keeps R w w1 := (Keeps.of_below HB0.out hR).trans HK.out
    exact ((((hk1.trans (Keeps.of_below ((Below.refl _ _).alloc (Nat.le_refl _) _) (by omega))).put hR (Nat.le_refl _) 0 _).put hR (by omega) 0 _)).trans Keeps.drew
  | ok v =>
    have HTE : Hid (tryP rk V s = (v, 0)) := by show _ = _; unfold tryP; rw [hT]
    rw [HTE.out]
    rw [hT] at CA
    clear hT HTE
    have CE : Hid (∀ W, MAt W R s 0 0 ov rk → VarsAt W R ov V → Calls Try.prog 19 #[.pointer (some ⟨R, 0, none⟩)] W fun e w' => e = .returned (.int .i64 v) ∧ Keeps R W w') := CA
    clear CA
    go_enter_defers Try.func11, Try.ntmps11
    go_wp2_with fail
    refine (CE.out _ HM0.out HV0.out).mono ?_
    rintro e w1 ⟨rfl, hk⟩
    have HK := hid hk
    have a0 : w1.cell? ⟨w.heap.size, 0, none⟩ = some (.int .i64 0) := by rw [hk.cell _ _ (by simp; omega) (by omega)]; exact C00.out
    have b0 : w1.cell? ⟨w.heap.size + 1, 0, none⟩ = some (.int .i64 1) := by rw [hk.cell _ _ (by simp) (by omega)]; exact C01.out
    have fa : w1.frozen? ⟨w.heap.size, 0, none⟩ = false := by rw [hk.frozen _ _ (by simp; omega)]; exact F00.out
    have fb : w1.frozen? ⟨w.heap.size + 1, 0, none⟩ = false := by rw [hk.frozen _ _ (by simp)]; exact F01.out
    have hsz : w.heap.size + 1 < w1.heap.size := Nat.lt_of_lt_of_le (by simp) hk.size
    have b1 : (w1.setCell ⟨w.heap.size, 0, none⟩ (.int .i64 v)).cell? ⟨w.heap.size + 1, 0, none⟩ = some (.int .i64 1) := by rw [World.cell?_setCell_other (h := fun e => absurd (show w.heap.size = w.heap.size + 1 by injection e) (by omega))]; exact b0
    clear hk
    go_wp2
    have hk2 : Keeps R w ((w1.setCell ⟨w.heap.size, 0, none⟩ (.int .i64 v)).setCell ⟨w.heap.size + 1, 0, none⟩ (.int .i64 0)) := ((((Keeps.of_below HB0.out hR).trans HK.out).put hR (Nat.le_refl _) 0 _).put hR (by omega) 0 _)
    have y0 : ((w1.setCell ⟨w.heap.size, 0, none⟩ (.int .i64 v)).setCell ⟨w.heap.size + 1, 0, none⟩ (.int .i64 0)).cell? ⟨w.heap.size, 0, none⟩ = some (.int .i64 v) := by
      rw [World.cell?_setCell_other (h := fun e => absurd (show w.heap.size + 1 = w.heap.size by injection e) (by omega)), World.cell?_setCell_same (h := a0)]
    have y1 : ((w1.setCell ⟨w.heap.size, 0, none⟩ (.int .i64 v)).setCell ⟨w.heap.size + 1, 0, none⟩ (.int .i64 0)).cell? ⟨w.heap.size + 1, 0, none⟩ = some (.int .i64 0) := by
      rw [World.cell?_setCell_same (h := b1)]
    refine leaves_cons (f := 18) (args := #[.pointer (some ⟨w.heap.size, 0, none⟩), .pointer (some ⟨w.heap.size + 1, 0, none⟩)]) (by simp) (by simp [go_sem]) ?_
    refine (catch_idle w.heap.size (w.heap.size + 1) _).mono ?_
    rintro e u' w2 ⟨rfl, rfl, hb⟩
    have h1 : w2.cell? ⟨w.heap.size, 0, none⟩ = some (.int .i64 v) := by rw [hb.cell (p := ⟨w.heap.size, 0, none⟩) (by simp; omega)]; exact y0
    have h2 : w2.cell? ⟨w.heap.size + 1, 0, none⟩ = some (.int .i64 0) := by rw [hb.cell (p := ⟨w.heap.size + 1, 0, none⟩) (by simp; omega)]; exact y1
    simp [Leaves, settle, results, Try.results11, go_sem, h1, h2]
    exact hk2.trans (Keeps.of_below hb (by simp; omega))

end Go.Proofs.Ytaabcbpbijkmnab
