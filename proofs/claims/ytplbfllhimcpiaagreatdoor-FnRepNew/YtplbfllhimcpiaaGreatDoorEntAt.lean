/- DERIVED. Entries that lie in a row. -/
import Derived.Test.YtplbfllhimcpiaaGreatDoorMsgWalks
import Derived.Test.YtplbfllhimcpiaaGreatDoorReg
namespace Go.Proofs.YtplbfllhimcpiaaGreatDoor
open Go.RowKit

/-- Entries lie in a row. -/
def EntsAt (w : World) (oa : Option Addr) (L : List Ent) : Prop := ∀ i, i < L.length → ∃ b off, oa = some ⟨b, off, none⟩ ∧ b < w.heap.size ∧
  w.cell? ⟨b, off + i * 3, none⟩ = some (.int .i64 (L.getD i (0, 0, [])).1) ∧ w.cell? ⟨b, off + i * 3 + 1, none⟩ = some (.int .i64 (L.getD i (0, 0, [])).2.1) ∧
  ∃ (ov : Option Addr) (n cv : Nat), w.cell? ⟨b, off + i * 3 + 2, none⟩ = some (.slice ov n cv) ∧ n = (L.getD i (0, 0, [])).2.2.length ∧ n ≤ 1048576 ∧ NumsAt w ov (L.getD i (0, 0, [])).2.2

theorem EntsAt.below {w w' : World} {oa : Option Addr} {L : List Ent} (h : EntsAt w oa L) (hb : Below w.heap.size w w') : EntsAt w' oa L := by
  intro i hi
  obtain ⟨b, off, e, h1, h2, h3, ov, n, cv, h4, h5, h6, h7⟩ := h i hi
  exact ⟨b, off, e, Nat.lt_of_lt_of_le h1 hb.size, by rw [hb.cell h1]; exact h2, by rw [hb.cell h1]; exact h3, ov, n, cv, by rw [hb.cell h1]; exact h4, h5, h6, h7.below hb⟩

theorem not_ok {L : List Ent} {k : Nat} (hk : k < L.length) (h : entOk (L.getD k (0, 0, [])) = false) : listOkP L = false :=
  okTo_le L (k := k + 1) hk (by rw [okTo, h, Bool.false_and, Bool.and_false])

theorem not_asc {L : List Ent} {k : Nat} (hk : k < L.length) (h : ascAt L k = false) : listOkP L = false :=
  okTo_le L (k := k + 1) hk (by rw [okTo, h, Bool.and_false, Bool.and_false])

theorem ok_next {L : List Ent} {k : Nat} (ho : okTo L k = true) (h1 : entOk (L.getD k (0, 0, [])) = true) (h2 : ascAt L k = true) : okTo L (k + 1) = true := by
  rw [okTo, ho, h1, h2]; rfl

theorem asc_zero (L : List Ent) : ascAt L 0 = true := rfl

theorem asc_pos {L : List Ent} {k : Nat} (h : 0 < k) : ascAt L k = decide ((L.getD (k - 1) (0, 0, [])).1 < (L.getD k (0, 0, [])).1) := by
  unfold ascAt
  rw [decide_eq_false (by omega), Bool.false_or]

end Go.Proofs.YtplbfllhimcpiaaGreatDoor
