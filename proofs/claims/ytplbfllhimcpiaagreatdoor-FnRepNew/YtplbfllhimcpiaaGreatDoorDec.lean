/- DERIVED. The walk of the model's decimals. -/
import Derived.Test.YtplbfllhimcpiaaGreatDoorOk
import Derived.Test.YtplbfllhimcpiaaGreatDoorReg
import Derived.Lib.ItoaNum
import Derived.Laws.IdiomStrings
import Derived.WideShapes
namespace Go.Proofs.YtplbfllhimcpiaaGreatDoor
open Go.RowKit

def decS (u : Nat) : ByteArray := ⟨(Lib.decDigits u).toArray⟩

theorem dec_len (u : Nat) : (Lib.decDigits u).length ≤ u + 1 := by
  induction u using Nat.strongRecOn with
  | _ u ih =>
    rw [Lib.decDigits]
    by_cases h : u < 10
    · rw [dif_pos h]; simp
    · rw [dif_neg h]
      have := ih (u / 10) (by omega)
      simp only [List.length_append, List.length_singleton]
      omega

theorem decS_size (u : Nat) : (decS u).size ≤ u + 1 := by
  have := dec_len u
  simpa [decS, ByteArray.size] using this

theorem decS_small (u : Nat) (h : u < 10) : decS u = ⟨#[UInt8.ofNat (48 + u)]⟩ := by
  unfold decS; rw [Lib.decDigits, dif_pos h]

theorem decS_more (u : Nat) (h : ¬ u < 10) : decS u = decS (u / 10) ++ ⟨#[UInt8.ofNat (48 + u % 10)]⟩ := by
  have e : Lib.decDigits u = Lib.decDigits (u / 10) ++ [UInt8.ofNat (48 + u % 10)] := by rw [Lib.decDigits, dif_neg h]
  unfold decS; rw [e]
  apply Go.WideShapes.bytes_inj
  simp

theorem conv_one (W : World) (B : Nat) (c : Int) (h0 : 0 ≤ c) (hc : c ≤ 255) (h : W.cell? ⟨B, 0, none⟩ = some (.int .u8 c)) :
    (convert 22 9 (.slice (some ⟨B, 0, none⟩) 1 1)).run Tryz.prog W = .ok (.string ⟨#[UInt8.ofNat c.toNat]⟩) W := by
  refine run_convert_bytes_back (P := Tryz.prog) W 22 9 5 ⟨B, 0, none⟩ 1 [UInt8.ofNat c.toNat] Tryz.underlying22 Tryz.underlying5 Tryz.underlying9 ?_
  intro j hj
  have e : j = 0 := by simpa using hj
  subst e
  have e2 : ((UInt8.ofNat c.toNat).toNat : Int) = c := by
    rw [UInt8.toNat_ofNat']; omega
  simp only [List.getElem_cons_zero, e2]
  simpa [Addr.add] using h

end Go.Proofs.YtplbfllhimcpiaaGreatDoor
