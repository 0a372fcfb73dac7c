/- DERIVED. The memory of the model's reader of sums, and the walk of look. -/
import Derived.Test.YtaabcbpbijkmnabMathMem
namespace Go.Proofs.Ytaabcbpbijkmnab
open Go.RowKit

/-- A reader of the model lies in block R. -/
structure PAt (w : World) (R : Nat) (s : ByteArray) (p d : Nat) (bad : Bool) (ov : Value) : Prop where
  old : R < w.heap.size
  text : w.cell? ⟨R, 0, none⟩ = some (.string s)
  place : w.cell? ⟨R, 1, none⟩ = some (.int .i64 (p : Int))
  deep : w.cell? ⟨R, 2, none⟩ = some (.int .i64 (d : Int))
  bad : w.cell? ⟨R, 3, none⟩ = some (.bool bad)
  out : w.cell? ⟨R, 4, none⟩ = some ov
  free : ∀ i, w.frozen? ⟨R, i, none⟩ = false

theorem PAt.below {w w' : World} {R : Nat} {s : ByteArray} {p d : Nat} {bad : Bool} {ov : Value} (h : PAt w R s p d bad ov) (k : Below w.heap.size w w') : PAt w' R s p d bad ov where
  old := Nat.lt_of_lt_of_le h.old k.size
  text := by rw [k.cell (p := ⟨R, 0, none⟩) h.old]; exact h.text
  place := by rw [k.cell (p := ⟨R, 1, none⟩) h.old]; exact h.place
  deep := by rw [k.cell (p := ⟨R, 2, none⟩) h.old]; exact h.deep
  bad := by rw [k.cell (p := ⟨R, 3, none⟩) h.old]; exact h.bad
  out := by rw [k.cell (p := ⟨R, 4, none⟩) h.old]; exact h.out
  free := fun i => by rw [k.frozen (p := ⟨R, i, none⟩) h.old]; exact h.free i

theorem PAt.go {w : World} {R : Nat} {s : ByteArray} {p d : Nat} {bad : Bool} {ov : Value} (h : PAt w R s p d bad ov) (q : Nat) : PAt (w.setCell ⟨R, 1, none⟩ (.int .i64 (q : Int))) R s q d bad ov where
  old := by simpa using h.old
  text := by rw [World.cell?_setCell_other (h := fun e => by injection e with _ e2; cases e2)]; exact h.text
  place := by rw [World.cell?_setCell_same (h := h.place)]
  deep := by rw [World.cell?_setCell_other (h := fun e => by injection e with _ e2; cases e2)]; exact h.deep
  bad := by rw [World.cell?_setCell_other (h := fun e => by injection e with _ e2; cases e2)]; exact h.bad
  out := by rw [World.cell?_setCell_other (h := fun e => by injection e with _ e2; cases e2)]; exact h.out
  free := fun i => by simpa using h.free i

theorem PAt.lay {w : World} {R : Nat} {s : ByteArray} {p d : Nat} {bad : Bool} {ov : Value} (h : PAt w R s p d bad ov) (x : Value) : PAt (w.setCell ⟨R, 4, none⟩ x) R s p d bad x where
  old := by simpa using h.old
  text := by rw [World.cell?_setCell_other (h := fun e => by injection e with _ e2; cases e2)]; exact h.text
  place := by rw [World.cell?_setCell_other (h := fun e => by injection e with _ e2; cases e2)]; exact h.place
  deep := by rw [World.cell?_setCell_other (h := fun e => by injection e with _ e2; cases e2)]; exact h.deep
  bad := by rw [World.cell?_setCell_other (h := fun e => by injection e with _ e2; cases e2)]; exact h.bad
  out := by rw [World.cell?_setCell_same (h := h.out)]
  free := fun i => by simpa using h.free i

theorem PAt.drewN {w : World} {R : Nat} {s : ByteArray} {p d : Nat} {bad : Bool} {ov : Value} (h : PAt w R s p d bad ov) (n : Nat) : PAt (w.drewN n) R s p d bad ov := ⟨h.old, h.text, h.place, h.deep, h.bad, h.out, h.free⟩

/-- What look answers. -/
def lookV (s : ByteArray) (p : Nat) : Int := match atP s (skipP s p) with
  | some c => (c.toNat : Int)
  | none => 0

set_option maxRecDepth 100000 in
set_option maxHeartbeats 1600000 in
theorem look_any (R : Nat) (s : ByteArray) (p d : Nat) (bad : Bool) (ov : Value) (w : World) (hs : s.size ≤ maxLen) (hp : p ≤ s.size) (h : PAt w R s p d bad ov) :
    Calls Try.prog 21 #[.pointer (some ⟨R, 0, none⟩)] w fun e w' => e = .returned (.int .u8 (lookV s p)) ∧ PAt w' R s (skipP s p) d bad ov ∧ Keeps R w w' := by
  unfold maxLen at hs
  have H := hid h
  clear h
  go_enter Try.func21, Try.ntmps21
  go_wp2
  go_loopg [3] (s.size - p) (fun gh _ wr => ∃ q : Nat, q ≤ s.size ∧ s.size - q ≤ gh ∧ skipP s q = skipP s p ∧ PAt wr R s q d bad ov ∧ Keeps R w wr)
  case atStart => exact ⟨p, hp, Nat.le_refl _, rfl, H.out, Keeps.refl _ _⟩
  case round =>
    obtain ⟨q, hq, hg, hsk, hpa, hkp⟩ := hrel
    have c0 := hpa.text
    have c1 := hpa.place
    have f1 := hpa.free 1
    have HR := hid hpa
    have HK := hid hkp
    have HSK := hid hsk
    clear hpa hkp hsk
    by_cases hlt : q < s.size
    · have hqI : (q : Int) < (s.size : Int) := by omega
      have hq0 : (0 : Int) ≤ (q : Int) := by omega
      by_cases hb : s[q] = 32
      · have hb' := byte_eq32 _ hb
        have HB := hid hb
        clear hb
        go_wp2
        go_quiet (fail)
        go_wp2
        go_roundg (s.size - (q + 1))
        case measure => omega
        case rel =>
          refine ⟨q + 1, by omega, Nat.le_refl _, by rw [← skipP_blank s q hlt HB.out]; exact HSK.out, ?_, ?_⟩
          · exact (HR.out.drewN _).go (q + 1)
          · exact HK.out.trans ((Keeps.drewN _).trans (Keeps.set 1 _))
      · have hb' := byte_ne32 _ hb
        have HP : Hid (skipP s p = q) := by show _ = _; rw [← HSK.out, skipP_other s q hlt hb]
        have HT : Hid (lookV s p = (s[q].toNat : Int)) := by show _ = _; unfold lookV; rw [HP.out, atP_some s q hlt]
        clear hb
        go_wp2
        go_quiet (fail)
        go_wp2
        go_quiet (fail)
        go_wp2
        go_quiet (fail)
        go_wp2
        go_ret
        rw [HT.out, HP.out]
        exact ⟨rfl, ((HR.out.drewN _).drewN _).drewN _, ((HK.out.trans (Keeps.drewN _)).trans (Keeps.drewN _)).trans (Keeps.drewN _)⟩
    · have hqI : ¬ (q : Int) < (s.size : Int) := by omega
      have HP : Hid (skipP s p = q) := by show _ = _; rw [← HSK.out, skipP_end s q (by omega)]
      have HT : Hid (lookV s p = 0) := by show _ = _; unfold lookV; rw [HP.out, atP_none s q (by omega)]
      go_wp2
      go_quiet (fail)
      go_wp2
      go_quiet (fail)
      go_wp2
      go_ret
      rw [HT.out, HP.out]
      exact ⟨rfl, (HR.out.drewN _).drewN _, (HK.out.trans (Keeps.drewN _)).trans (Keeps.drewN _)⟩

end Go.Proofs.Ytaabcbpbijkmnab
