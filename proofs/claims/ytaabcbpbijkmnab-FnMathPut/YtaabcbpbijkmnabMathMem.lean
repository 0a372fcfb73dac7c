/- DERIVED. The memory of the program's reader of sums, and the walk of take. -/
import Derived.Test.YtaabcbpbijkmnabMathPlain
import Derived.Test.YtaabcbpbijkmnabRd
import Derived.BigQuiet
import Derived.Deep.LoopGhost
namespace Go.Proofs.Ytaabcbpbijkmnab
open Go.RowKit

/-- A reader of sums lies in block R. -/
structure MAt (w : World) (R : Nat) (s : ByteArray) (p o : Nat) (ov : Value) (rk : Bool) : Prop where
  old : R < w.heap.size
  text : w.cell? ⟨R, 0, none⟩ = some (.string s)
  place : w.cell? ⟨R, 1, none⟩ = some (.int .i64 (p : Int))
  opened : w.cell? ⟨R, 2, none⟩ = some (.int .i64 (o : Int))
  vars : w.cell? ⟨R, 3, none⟩ = some ov
  reck : w.cell? ⟨R, 4, none⟩ = some (.bool rk)
  free1 : w.frozen? ⟨R, 1, none⟩ = false
  free2 : w.frozen? ⟨R, 2, none⟩ = false

theorem MAt.below {w w' : World} {R : Nat} {s : ByteArray} {p o : Nat} {ov : Value} {rk : Bool} (h : MAt w R s p o ov rk) (k : Below w.heap.size w w') : MAt w' R s p o ov rk where
  old := Nat.lt_of_lt_of_le h.old k.size
  text := by rw [k.cell (p := ⟨R, 0, none⟩) h.old]; exact h.text
  place := by rw [k.cell (p := ⟨R, 1, none⟩) h.old]; exact h.place
  opened := by rw [k.cell (p := ⟨R, 2, none⟩) h.old]; exact h.opened
  vars := by rw [k.cell (p := ⟨R, 3, none⟩) h.old]; exact h.vars
  reck := by rw [k.cell (p := ⟨R, 4, none⟩) h.old]; exact h.reck
  free1 := by rw [k.frozen (p := ⟨R, 1, none⟩) h.old]; exact h.free1
  free2 := by rw [k.frozen (p := ⟨R, 2, none⟩) h.old]; exact h.free2

theorem MAt.go {w : World} {R : Nat} {s : ByteArray} {p o : Nat} {ov : Value} {rk : Bool} (h : MAt w R s p o ov rk) (q : Nat) : MAt (w.setCell ⟨R, 1, none⟩ (.int .i64 (q : Int))) R s q o ov rk where
  old := by simpa using h.old
  text := by rw [World.cell?_setCell_other (h := fun e => by injection e with _ e2; cases e2)]; exact h.text
  place := by rw [World.cell?_setCell_same (h := h.place)]
  opened := by rw [World.cell?_setCell_other (h := fun e => by injection e with _ e2; cases e2)]; exact h.opened
  vars := by rw [World.cell?_setCell_other (h := fun e => by injection e with _ e2; cases e2)]; exact h.vars
  reck := by rw [World.cell?_setCell_other (h := fun e => by injection e with _ e2; cases e2)]; exact h.reck
  free1 := by simpa using h.free1
  free2 := by simpa using h.free2

theorem MAt.opn {w : World} {R : Nat} {s : ByteArray} {p o : Nat} {ov : Value} {rk : Bool} (h : MAt w R s p o ov rk) (q : Nat) : MAt (w.setCell ⟨R, 2, none⟩ (.int .i64 (q : Int))) R s p q ov rk where
  old := by simpa using h.old
  text := by rw [World.cell?_setCell_other (h := fun e => by injection e with _ e2; cases e2)]; exact h.text
  place := by rw [World.cell?_setCell_other (h := fun e => by injection e with _ e2; cases e2)]; exact h.place
  opened := by rw [World.cell?_setCell_same (h := h.opened)]
  vars := by rw [World.cell?_setCell_other (h := fun e => by injection e with _ e2; cases e2)]; exact h.vars
  reck := by rw [World.cell?_setCell_other (h := fun e => by injection e with _ e2; cases e2)]; exact h.reck
  free1 := by simpa using h.free1
  free2 := by simpa using h.free2

theorem MAt.drewN {w : World} {R : Nat} {s : ByteArray} {p o : Nat} {ov : Value} {rk : Bool} (h : MAt w R s p o ov rk) (n : Nat) : MAt (w.drewN n) R s p o ov rk := ⟨h.old, h.text, h.place, h.opened, h.vars, h.reck, h.free1, h.free2⟩

/-- What a reader's step leaves. -/
def Read (R : Nat) (s : ByteArray) (q o : Nat) (ov : Value) (rk : Bool) (w w' : World) : Prop := MAt w' R s q o ov rk ∧ Keeps R w w'

theorem byte_eq (a b : UInt8) (h : a = b) : ((a.toNat : Int) == (b.toNat : Int)) = true := by rw [h]; simp

theorem byte_ne (a b : UInt8) (h : a ≠ b) : ((a.toNat : Int) == (b.toNat : Int)) = false := by
  rw [beq_eq_false_iff_ne]; intro e; exact h (UInt8.toNat_inj.mp (by omega))

theorem byte_eq32 (a : UInt8) (h : a = 32) : ((a.toNat : Int) == 32) = true := by rw [h]; rfl

theorem byte_ne32 (a : UInt8) (h : a ≠ 32) : ((a.toNat : Int) == 32) = false := byte_ne a 32 h

set_option maxRecDepth 100000 in
set_option maxHeartbeats 1600000 in
theorem take_any (R : Nat) (s : ByteArray) (p o : Nat) (ov : Value) (rk : Bool) (c : UInt8) (w : World) (hs : s.size ≤ maxLen) (hp : p ≤ s.size) (h : MAt w R s p o ov rk) :
    Calls Try.prog 37 #[.pointer (some ⟨R, 0, none⟩), .int .u8 (c.toNat : Int)] w fun e w' => e = .returned (.bool (takeP s c p).1) ∧ Read R s (takeP s c p).2 o ov rk w w' := by
  unfold maxLen at hs
  have H := hid h
  clear h
  go_enter Try.func37, Try.ntmps37
  go_wp2
  go_loopg [5] (s.size - p) (fun gh _ wr => ∃ q : Nat, q ≤ s.size ∧ s.size - q ≤ gh ∧ skipP s q = skipP s p ∧ Read R s q o ov rk w wr)
  case atStart => exact ⟨p, hp, Nat.le_refl _, rfl, H.out, Keeps.refl _ _⟩
  case round =>
    obtain ⟨q, hq, hg, hsk, hrd⟩ := hrel
    have c0 := hrd.1.text
    have c1 := hrd.1.place
    have f1 := hrd.1.free1
    have HR := hid hrd
    have HSK := hid hsk
    clear hrd hsk
    by_cases hlt : q < s.size
    · have hqI : (q : Int) < (s.size : Int) := by omega
      have hq0 : (0 : Int) ≤ (q : Int) := by omega
      have hqe : ((q : Int) == (s.size : Int)) = false := by rw [beq_eq_false_iff_ne]; omega
      by_cases hb : s[q] = 32
      · have hb' := byte_eq32 _ hb
        have HB := hid hb
        clear hb
        go_wp2
        go_quiet (fail)
        go_wp2
        go_roundg (s.size - (q + 1))
        case measure => omega
        case rel =>
          refine ⟨q + 1, by omega, Nat.le_refl _, by rw [← skipP_blank s q hlt HB.out]; exact HSK.out, ?_, ?_⟩
          · exact (HR.out.1.drewN _).go (q + 1)
          · exact HR.out.2.trans ((Keeps.drewN _).trans (Keeps.set 1 _))
      · have hb' := byte_ne32 _ hb
        have HP : Hid (skipP s p = q) := by show _ = _; rw [← HSK.out, skipP_other s q hlt hb]
        clear hb
        by_cases hc : s[q] = c
        · have hc' := byte_eq _ _ hc
          have HT : Hid (takeP s c p = (true, q + 1)) := by show _ = _; unfold takeP; rw [HP.out, atP_some s q hlt, hc, if_pos rfl]
          clear hc
          go_wp2
          go_quiet (fail)
          go_wp2
          go_quiet (fail)
          go_wp2
          go_ret
          rw [HT.out]
          refine ⟨rfl, ?_, ?_⟩
          · exact (HR.out.1.drewN _).go (q + 1)
          · exact HR.out.2.trans ((Keeps.drewN _).trans (Keeps.set 1 _))
        · have hc' := byte_ne _ _ hc
          have HT : Hid (takeP s c p = (false, q)) := by
            show _ = _; unfold takeP; rw [HP.out, atP_some s q hlt, if_neg (fun e => hc (by injection e))]
          clear hc
          go_wp2
          go_quiet (fail)
          go_wp2
          go_quiet (fail)
          go_wp2
          go_ret
          rw [HT.out]
          exact ⟨rfl, (HR.out.1.drewN _).drewN _, (HR.out.2.trans (Keeps.drewN _)).trans (Keeps.drewN _)⟩
    · have hqI : ¬ (q : Int) < (s.size : Int) := by omega
      have hqe : ((q : Int) == (s.size : Int)) = true := by rw [beq_iff_eq]; omega
      have HP : Hid (skipP s p = q) := by show _ = _; rw [← HSK.out, skipP_end s q (by omega)]
      have HT : Hid (takeP s c p = (false, q)) := by
        show _ = _; unfold takeP; rw [HP.out, atP_none s q (by omega), if_neg (fun e => by cases e)]
      go_wp2
      go_quiet (fail)
      go_wp2
      go_quiet (fail)
      go_wp2
      go_ret
      rw [HT.out]
      exact ⟨rfl, (HR.out.1.drewN _).drewN _, (HR.out.2.trans (Keeps.drewN _)).trans (Keeps.drewN _)⟩

end Go.Proofs.Ytaabcbpbijkmnab
