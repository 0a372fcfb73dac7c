/- DERIVED. The walks of the library's Cut at a separator of one byte. -/
import Derived.Test.YtplbfllhimcpiaaGreatDoorRowStr
import Derived.Test.YtplbfllhimcpiaaGreatDoorShelf
import Derived.Lib.Split
import Derived.Lib.SplitLaws
import Derived.Lib.IndexBytes
import Derived.Deep.QuietTactic
import Derived.BigQuiet
namespace Go.Proofs.YtplbfllhimcpiaaGreatDoor
open Go.RowKit

theorem below_drewn (w : World) (n : Nat) : Below w.heap.size w (w.drewN n) := below_drewN (Below.refl _ _) n

set_option maxRecDepth 100000 in
set_option maxHeartbeats 1000000 in
theorem liteCut_one (s : ByteArray) (c : UInt8) (w : World) (hs : s.size ≤ maxLen) :
    Calls Tryz.prog 145 #[.string s, .string ⟨#[c]⟩] w fun e w' => e = .returned (.tuple #[.string (mkB (Lib.cut s.data.toList [c]).1), .string (mkB (Lib.cut s.data.toList [c]).2.1), .bool (Lib.cut s.data.toList [c]).2.2]) ∧ Below w.heap.size w w' := by
  have hs' : s.size ≤ 2 ^ 63 - 1 := hs
  have hI := fun W => Go.Proofs.Tryz.stringslite_Index_one s c W
  rcases Lib.indexB_cases s ⟨#[c]⟩ with hix | ⟨i, hix, hroom⟩
  · obtain ⟨e1, e2, e3⟩ := Lib.cutB_miss s ⟨#[c]⟩ hix
    have e1' : mkB (Lib.cut s.data.toList [c]).1 = s := e1
    have e2' : mkB (Lib.cut s.data.toList [c]).2.1 = ⟨#[]⟩ := e2
    have e3' : (Lib.cut s.data.toList [c]).2.2 = false := e3
    rw [e1', e2', e3']
    have hj : Lib.indexByte s.data.toList c = -1 := by rw [← Lib.index_one]; exact hix
    rw [hj] at hI
    have HI := hid hI
    clear hI hj e1 e2 e3 e1' e2' e3' hix
    go_enter Tryz.func145, Tryz.ntmps145
    go_wp2_with fail
    refine (HI.out _).mono ?_
    rintro e w1 ⟨rfl, rfl⟩
    go_wp2
    go_ret3
    exact ⟨rfl, Below.refl _ _⟩
  · obtain ⟨e1, e2, e3⟩ := Lib.cutB_hit s ⟨#[c]⟩ i hix
    have e1' : mkB (Lib.cut s.data.toList [c]).1 = s.extract 0 i := e1
    have e2' : mkB (Lib.cut s.data.toList [c]).2.1 = s.extract (i + 1) s.size := e2
    have e3' : (Lib.cut s.data.toList [c]).2.2 = true := e3
    rw [e1', e2', e3']
    have hj : Lib.indexByte s.data.toList c = i := by rw [← Lib.index_one]; exact hix
    rw [hj] at hI
    have HI := hid hI
    have hr : i + 1 ≤ s.size := hroom
    have c0 : (0 : Int) ≤ ↑i := by omega
    have c2 : (↑i : Int) ≤ ↑s.size := by omega
    have c3 : (0 : Int) ≤ ↑i + 1 := by omega
    have c4 : (↑i + 1 : Int) ≤ ↑s.size := by omega
    have cw : IntKind.i64.wrap ((i : Int) + 1) = (i : Int) + 1 := by simp [IntKind.wrap, IntKind.bits, IntKind.signed]; omega
    have c5 : ((i : Int) + 1).toNat = i + 1 := by omega
    clear hI hj e1 e2 e3 e1' e2' e3' hix hroom
    go_enter Tryz.func145, Tryz.ntmps145
    go_wp2_with fail
    refine (HI.out _).mono ?_
    rintro e w1 ⟨rfl, rfl⟩
    go_wp2
    go_quiet (fail)
    go_wp2
    go_ret3
    exact ⟨rfl, below_drewn _ _⟩

set_option maxHeartbeats 600000 in
theorem cut_one (s : ByteArray) (c : UInt8) (w : World) (hs : s.size ≤ maxLen) :
    Calls Tryz.prog 130 #[.string s, .string ⟨#[c]⟩] w fun e w' => e = .returned (.tuple #[.string (mkB (Lib.cut s.data.toList [c]).1), .string (mkB (Lib.cut s.data.toList [c]).2.1), .bool (Lib.cut s.data.toList [c]).2.2]) ∧ Below w.heap.size w w' := by
  have HI := hid (fun W => liteCut_one s c W hs)
  obtain ⟨a, ha⟩ : ∃ a, a = mkB (Lib.cut s.data.toList [c]).1 := ⟨_, rfl⟩
  obtain ⟨b, hb⟩ : ∃ b, b = mkB (Lib.cut s.data.toList [c]).2.1 := ⟨_, rfl⟩
  obtain ⟨f, hf⟩ : ∃ f, f = (Lib.cut s.data.toList [c]).2.2 := ⟨_, rfl⟩
  rw [← ha, ← hb, ← hf] at HI ⊢
  clear ha hb hf
  go_enter Tryz.func130, Tryz.ntmps130
  go_wp2_with fail
  refine (HI.out _).mono ?_
  rintro e w1 ⟨rfl, hb1⟩
  have HB := hid hb1
  clear hb1
  go_wp2
  go_ret3
  exact ⟨rfl, HB.out⟩

end Go.Proofs.YtplbfllhimcpiaaGreatDoor
