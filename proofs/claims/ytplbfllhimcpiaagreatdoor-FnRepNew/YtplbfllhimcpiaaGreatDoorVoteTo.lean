/- DERIVED. The walks of toIntS and eqIntS; a row of numbers that came in. -/
import Derived.Test.YtplbfllhimcpiaaGreatDoorVoteRows
import Derived.ProofKit
import Derived.OpenShut
import Derived.Deep.OwnRows
namespace Go.Proofs.YtplbfllhimcpiaaGreatDoor
open Go.RowKit Go.ChangeShapes Go.WideShapes Go.ChangeAt

theorem cellsInt : Tryz.prog.cellsOf 3 = 1 := by kernel_rfl

theorem nums_open {H : Type} {enc : TypeId × Value → H} {W : World} {a0 : Option Addr} {len cap : Nat} {d : DataW H} {p : List MemPlace} (h : DataW.Trod enc Tryz.prog W 0 (fun _ => true) true 26 (.slice a0 len cap) d p) : ∃ V : List Int, len = V.length ∧ NumsAt W a0 V := by
  obtain ⟨fuel, hf⟩ := h
  rcases open_ints Tryz.underlying26 Tryz.underlying3 cellsInt hf with ⟨hcs, hx⟩ | ⟨a, len', cap', zs, hcs, _, hl, hm, hz, hx, hcell, hwz⟩
  · simp [Value.cells] at hcs
    obtain ⟨rfl, rfl, rfl⟩ := hcs
    exact ⟨[], rfl, fun i hi => absurd hi (Nat.not_lt_zero _)⟩
  · simp [Value.cells] at hcs
    obtain ⟨rfl, rfl, rfl⟩ := hcs
    simp only [if_true] at hz
    have hlen : len = (zs.take len).length := by rw [List.length_take]; omega
    refine ⟨zs.take len, hlen, fun i hi => ?_⟩
    have hil : i < len := by omega
    have h1 := hcell i (by omega)
    obtain ⟨b, off, spot⟩ := a
    have hspot : spot = none := by simpa [Addr.add] using World.cell?_spot (hcell 0 (by omega))
    subst hspot
    have hold : b < W.heap.size := by
      have := World.block_lt_of_cell? W _ (hcell 0 (by omega))
      simpa [Addr.add] using this
    rw [add_plain] at h1
    refine ⟨b, off, rfl, hold, ?_⟩
    rw [h1, List.getElem_take, List.getD_eq_getElem?_getD, List.getElem?_eq_getElem (by omega)]
    rfl

theorem make_ints (n : Nat) (hn : n ≤ 1048576) (w : World) : (Instr.makeSlice 26 (.int .i64 (n : Int)) (.int .i64 (n : Int))).run Tryz.prog w = .ok (.slice (some ⟨w.heap.size, 0, none⟩) n n) (w.alloc (.cells (madeCells #[.int .i64 0] n) 3)) :=
  run_make_row' 26 3 (.int .i64 0) 8 Tryz.underlying26 (by kernel_rfl) (by simp [Value.cells]) .i64 .i64 n (by omega) (by omega) w

theorem made_list (n : Nat) : (madeCells #[Value.int .i64 0] n).toList = List.replicate n (.int .i64 0) := by
  apply List.ext_getElem
  · simp [madeCells]
  · intro i h1 h2
    simp [madeCells, Nat.mod_one]

/-- Half way: the first k are copied. -/
def copied (V : List Int) (len k : Nat) : List Value := (V.take k).map (Value.int .i64) ++ List.replicate (len - k) (.int .i64 0)

theorem copied_len (V : List Int) (k : Nat) (h : k ≤ V.length) : (copied V V.length k).length = V.length := by
  unfold copied
  simp
  omega

theorem copied_next (V : List Int) (k : Nat) (h : k < V.length) : copied V V.length (k + 1) = (copied V V.length k).set k (.int .i64 V[k]) := by
  unfold copied
  have hl : ((V.take k).map (Value.int .i64)).length = k := by simp; omega
  rw [List.set_append_right _ _ (by omega), hl, Nat.sub_self, List.take_succ_eq_append_getElem h, List.map_append, List.append_assoc]
  congr 1
  rw [show V.length - k = (V.length - (k + 1)) + 1 by omega, List.replicate_succ]
  rfl

theorem copied_end (V : List Int) : copied V V.length V.length = V.map (Value.int .i64) := by
  unfold copied
  simp

theorem made_row (w : World) (n : Nat) (hn : n ≤ 1048576) : (w.alloc (.cells (madeCells #[.int .i64 0] n) 3)).ownsRow w.heap.size 3 1 (.slice (some ⟨w.heap.size, 0, none⟩) n n) n (List.replicate n (.int .i64 0)) := by
  refine ⟨by simp, Or.inr ⟨w.heap.size, n, madeCells #[.int .i64 0] n, rfl, Nat.le_refl _, ?_, Nat.le_refl _, ?_, ?_, ?_⟩⟩
  · show (w.heap.push _)[w.heap.size]? = _
    simp
  · have : (1048576 : Nat) ≤ maxLen := by decide
    omega
  · simp [size_madeCells]
  · rw [made_list]
    simp


end Go.Proofs.YtplbfllhimcpiaaGreatDoor
