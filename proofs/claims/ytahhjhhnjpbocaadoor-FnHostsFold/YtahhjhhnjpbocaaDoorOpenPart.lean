/- DERIVED. The walk of the model's part: l1Part. -/
import Derived.Test.YtahhjhhnjpbocaaDoorOpenRange
import Derived.Deep.RegionHeld3
namespace Go.Proofs.YtahhjhhnjpbocaaDoor
open Go.RowKit

theorem rangeOf_len (nm : ByteArray) (t : List UInt8) (out : Hs) : (rangeOf nm t out).length ≤ max out.length 31 := by
  unfold rangeOf
  split
  · exact range_len _ _ _ _ _
  · exact range_len _ _ _ _ _
  · omega

theorem below_drew1 (w : World) : Below w.heap.size w w.drew := (Below.refl _ _).drew

theorem getHost_val (s : ByteArray) : ∃ b, getVal s = .tuple #[.agg #[.string (getHost s).1, .int .i64 (getHost s).2], .bool b] := by
  unfold getVal getHost
  by_cases h : getOk s = true
  · exact ⟨true, by rw [if_pos h, if_pos h]⟩
  · exact ⟨false, by rw [if_neg h, if_neg h]⟩

theorem fold_len (nm : ByteArray) (L : List (List UInt8)) (out : Hs) : (L.foldl (fun o x => rangeOf nm x o) out).length ≤ max out.length 31 := by
  induction L generalizing out with
  | nil => simp; omega
  | cons x L ih =>
    have h1 := ih (rangeOf nm x out)
    have h2 := rangeOf_len nm x out
    rw [List.foldl_cons]
    omega

end Go.Proofs.YtahhjhhnjpbocaaDoor
