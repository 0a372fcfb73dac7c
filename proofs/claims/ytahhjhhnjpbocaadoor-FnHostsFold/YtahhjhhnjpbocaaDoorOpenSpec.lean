/- DERIVED. The walk of the model's HostsOpen. -/
import Derived.Test.YtahhjhhnjpbocaaDoorOpenEq
import Derived.Test.YtahhjhhnjpbocaaDoorOpenParts
import Derived.Test.YtahhjhhnjpbocaaDoorOpenPart
import Derived.Test.YtahhjhhnjpbocaaDoorFoldFold
namespace Go.Proofs.YtahhjhhnjpbocaaDoor
open Go.RowKit

theorem getName_le (s : ByteArray) : (getHost s).1.size ≤ s.size := by
  unfold getHost
  split
  · rw [getName_size]
    have := lead_le s.data.toList
    have h : s.data.toList.length = s.size := by simp
    omega
  · simp

theorem part_names (t : List UInt8) (k : Nat) (ht : t.length ≤ k) (out : Hs) (ho : ∀ h ∈ out, h.1.size ≤ k) : ∀ h ∈ partL t out, h.1.size ≤ k := by
  unfold partL
  split
  · rename_i a c r tl ha
    refine rangeAll_names _ k ?_ _ out ho
    have := cut_size 91 1 [] t a (by rw [ha]; simp)
    rw [mkB_size]; simp at this; omega
  · intro h hh
    rcases List.mem_append.1 hh with h1 | h1
    · exact ho h h1
    · rw [List.mem_singleton] at h1
      have := getName_le (mkB t)
      rw [mkB_size] at this
      rw [h1]; omega

theorem part_len (t : List UInt8) (out : Hs) : (partL t out).length ≤ max out.length 31 + 1 := by
  unfold partL
  split
  · rename_i a c r tl ha
    have := fold_len (mkB a) (cutL 44 30 [] (c :: r).dropLast) out
    omega
  · simp; omega

theorem parts_count (d : Int) (cur t : List UInt8) : (partsL d cur t).length ≤ t.length + 1 := by
  induction t generalizing d cur with
  | nil => simp [partsL]
  | cons c t ih =>
    rw [partsL]
    split
    · have := ih (d + 1) (cur ++ [c]); simp; omega
    · split
      · have := ih (d - 1) (cur ++ [c]); simp; omega
      · split
        · have := ih d []; simp; exact this
        · have := ih d (cur ++ [c]); simp; omega

theorem parts_pos (d : Int) (cur t : List UInt8) : 1 ≤ (partsL d cur t).length := by
  induction t generalizing d cur with
  | nil => simp [partsL]
  | cons c t ih =>
    rw [partsL]
    split
    · exact ih _ _
    · split
      · exact ih _ _
      · split
        · simp
        · exact ih _ _

theorem rowAt_of {w : World} {base g cp : Nat} {o : Hs} (h : w.ownsRow base 31 2 (.slice (some ⟨g, 0, none⟩) o.length cp) o.length (hcells o)) (hn : ∀ x ∈ o, x.1.size ≤ 400) : RowAt w g 0 o.length (Sof o) (Mof o) := by
  have hc : ∀ j x, (hcells o)[j]? = some x → w.cell? ⟨g, 0 + j, none⟩ = some x := by
    intro j x hx
    have := h.cells (g := g) rfl j x hx
    rw [Go.WideShapes.add_plain] at this
    exact this
  have hs : ∀ i, (hi : i < o.length) → Sof o i = o[i].1 ∧ Mof o i = o[i].2 := by
    intro i hi
    simp [Sof, Mof, List.getD, List.getElem?_eq_getElem hi]
  constructor
  · exact (h.lt g rfl).2
  · intro i hi
    rw [(hs i hi).1]; exact hc _ _ (hcells_at o i hi).1
  · intro i hi
    rw [(hs i hi).2, Nat.add_assoc]; exact hc _ _ (hcells_at o i hi).2
  · intro i hi
    rw [(hs i hi).1]
    exact Nat.le_trans (hn _ (List.getElem_mem hi)) (by unfold maxLen; omega)

set_option maxHeartbeats 400000 in
theorem listOk_zero (oa : Option Addr) (cap : Nat) (w : World) :
    Calls Tryd.prog 18 #[.slice oa 0 cap] w fun e w' => e = .returned (.bool true) ∧ w' = w := by
  go_enter Tryd.func18, Tryd.ntmps18
  go_wp2
  go_loop [3] (fun i => i = .int .i64 0) (fun _ => 0)
  case atStart => rfl
  case round =>
    subst hrel
    go_wp2
    go_ret
    exact ⟨rfl, rfl⟩

set_option maxHeartbeats 400000 in
theorem fold_zero (oa : Option Addr) (cap : Nat) (w : World) :
    Calls Tryd.prog 19 #[.slice oa 0 cap] w fun e w' => e = .returned (.string ⟨#[]⟩) ∧ w' = w := by
  go_enter Tryd.func19, Tryd.ntmps19
  go_wp2
  go_loop [3, 4] (fun s i => s = .string ⟨#[]⟩ ∧ i = .int .i64 0) (fun _ _ => 0)
  case atStart => exact ⟨rfl, rfl⟩
  case round =>
    obtain ⟨rfl, rfl⟩ := hrel
    go_wp2
    go_ret
    exact ⟨rfl, rfl⟩

/-- What HostsOpen leaves. -/
def OpenOut (r : Option Hs) (w : World) (e : Ending) (w' : World) : Prop :=
  ∃ v, e = .returned (.tuple #[v, .bool r.isSome]) ∧ w'.ownsRow w.heap.size 31 2 v (r.getD []).length (hcells (r.getD [])) ∧ Below w.heap.size w w'

theorem openOut_none {w w' : World} (h : Below w.heap.size w w') : OpenOut none w (.returned (.tuple #[.slice none 0 0, .bool false])) w' :=
  ⟨_, rfl, World.ownsRow_nil _ _ _ _, h⟩

theorem mkS_eq (l : List UInt8) : mkS l = mkB l := rfl

theorem eq_mkB (l : List UInt8) (s : ByteArray) : ((mkB l).toList == s.toList) = true ↔ l = s.data.toList := by
  rw [beq_iff_eq, ByteArray.toList_eq, ByteArray.toList_eq]
  simp [mkB]

end Go.Proofs.YtahhjhhnjpbocaaDoor
