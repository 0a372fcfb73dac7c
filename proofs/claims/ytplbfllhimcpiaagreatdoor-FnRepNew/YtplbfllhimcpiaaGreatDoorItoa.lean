/- DERIVED. The library's decimals, by the shelf's contract. -/
import Derived.Test.YtplbfllhimcpiaaGreatDoorDec
import Derived.Test.YtplbfllhimcpiaaGreatDoorShelf
import Derived.Lib.AppendIntMem
namespace Go.Proofs.YtplbfllhimcpiaaGreatDoor
open Go.RowKit

/-- The table of powers of ten that strconv reads. -/
def Tab (w : World) : Prop := Lib.TabIs Tryz.prog w "internal/strconv.uint64pow10" .u64 Lib.pow10Tab

theorem Tab.below {w w' : World} (h : Tab w) (hb : Below w.heap.size w w') : Tab w' := Lib.tabBelow_of_tabIs h w' hb

theorem below_grow (w : World) (k : Nat) (os : Array Obj) : Below w.heap.size w (Sort.grow (w.drewN k) os) :=
  ⟨rfl, rfl, rfl, by simp [Sort.grow], fun b hb => by simp [Sort.grow, Array.getElem?_append_left hb]⟩

theorem itoa_big (n : Nat) (w : World) (hn : n ≤ 9999999999) (ht : Tab w) :
    Calls Tryz.prog 108 #[.int .i64 (n : Int)] w fun e w' => e = .returned (.string (decS n)) ∧ Below w.heap.size w w' := by
  refine (Go.Proofs.Tryz.strconv_Itoa (n : Int) (by omega) (by omega) w ht).mono ?_
  rintro e w' ⟨rfl, k, os, rfl⟩
  refine ⟨?_, below_grow w k os⟩
  have : Lib.itoa (n : Int) = Lib.decDigits n := by
    unfold Lib.itoa; rw [if_neg (by omega)]; simp
  rw [this]; rfl

end Go.Proofs.YtplbfllhimcpiaaGreatDoor
