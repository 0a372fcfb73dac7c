/- DERIVED. The memory of the program's reader of messages; ReadByte, UnreadByte. -/
import Derived.Test.YtijdjplajhcilabDoorRd
import Derived.Test.YtijdjplajhcilabDoorMathPlain
import Derived.Deep.QuietTactic
import Derived.BigQuiet
namespace Go.Proofs.YtijdjplajhcilabDoor
open Go.RowKit

/-- The end of files is laid. -/
def EofR (w : World) : Prop := (∃ a, w.cell? ⟨0, 0, none⟩ = some (.iface 111 (.pointer (some a)))) ∧ 0 < w.heap.size

theorem EofR.below {w w' : World} (h : EofR w) (k : Below w.heap.size w w') : EofR w' := by
  obtain ⟨⟨a, ha⟩, h2⟩ := h
  exact ⟨⟨a, by rw [k.cell (p := ⟨0, 0, none⟩) h2]; exact ha⟩, Nat.lt_of_lt_of_le h2 k.size⟩

/-- A byte of a text; 0 past its end. -/
def gByte (s : ByteArray) (p : Nat) : UInt8 := if h : p < s.size then s[p] else 0

theorem gByte_in {s : ByteArray} {p : Nat} (h : p < s.size) : gByte s p = s[p] := by
  unfold gByte
  rw [dif_pos h]

/-- A reader of messages lies in block R. -/
structure RAt (w : World) (R : Nat) (s : ByteArray) (p : Nat) : Prop where
  old : R < w.heap.size
  src : w.cell? ⟨R, 0, none⟩ = some (.string s)
  place : w.cell? ⟨R, 1, none⟩ = some (.int .i64 (p : Int))
  prev : ∃ x, w.cell? ⟨R, 2, none⟩ = some x
  free : ∀ i, w.frozen? ⟨R, i, none⟩ = false
  le : p ≤ s.size
  small : s.size ≤ 400
  eof : ∃ a, w.cell? ⟨0, 0, none⟩ = some (.iface 111 (.pointer (some a)))
  eofO : 0 < R

variable {w w' : World} {R : Nat} {s : ByteArray} {p : Nat}

theorem RAt.move (h : RAt w R s p) (k : Keeps R w w') {q : Nat} (hq : q ≤ s.size) (e0 : w'.cell? ⟨R, 0, none⟩ = some (.string s)) (e1 : w'.cell? ⟨R, 1, none⟩ = some (.int .i64 (q : Int))) (e2 : ∃ x, w'.cell? ⟨R, 2, none⟩ = some x) : RAt w' R s q where
  old := Nat.lt_of_lt_of_le h.old k.size
  src := e0
  place := e1
  prev := e2
  free := fun i => by rw [k.frozen R i h.old]; exact h.free i
  le := hq
  small := h.small
  eof := by obtain ⟨a, e⟩ := h.eof; exact ⟨a, by rw [k.cell _ 0 (Nat.lt_trans h.eofO h.old) (Nat.ne_of_lt h.eofO)]; exact e⟩
  eofO := h.eofO

/-- What touches nothing below a base above the reader leaves it. -/
theorem RAt.under {base : Nat} (h : RAt w R s p) (hb : R < base) (k : Below base w w') : RAt w' R s p where
  old := Nat.lt_of_lt_of_le h.old k.size
  src := by rw [k.cell (p := ⟨R, 0, none⟩) hb]; exact h.src
  place := by rw [k.cell (p := ⟨R, 1, none⟩) hb]; exact h.place
  prev := by obtain ⟨x, e⟩ := h.prev; exact ⟨x, by rw [k.cell (p := ⟨R, 2, none⟩) hb]; exact e⟩
  free := fun i => by rw [k.frozen (p := ⟨R, i, none⟩) hb]; exact h.free i
  le := h.le
  small := h.small
  eof := by obtain ⟨a, e⟩ := h.eof; exact ⟨a, by rw [k.cell (p := ⟨0, 0, none⟩) (Nat.lt_trans h.eofO hb)]; exact e⟩
  eofO := h.eofO

theorem RAt.below (h : RAt w R s p) (k : Below w.heap.size w w') : RAt w' R s p := h.under h.old k

theorem RAt.drewN (h : RAt w R s p) (n : Nat) : RAt (w.drewN n) R s p := ⟨h.old, h.src, h.place, h.prev, h.free, h.le, h.small, h.eof, h.eofO⟩

theorem RAt.go (h : RAt w R s p) (q : Nat) (hq : q ≤ s.size) : RAt (w.setCell ⟨R, 1, none⟩ (.int .i64 (q : Int))) R s q := by
  refine h.move (Keeps.set 1 _) hq ?_ ?_ ?_
  · rw [World.cell?_setCell_other (h := fun e => by injection e with _ e2; cases e2)]; exact h.src
  · rw [World.cell?_setCell_same (h := h.place)]
  · obtain ⟨x, e⟩ := h.prev
    exact ⟨x, by rw [World.cell?_setCell_other (h := fun e => by injection e with _ e2; cases e2)]; exact e⟩

theorem RAt.mark (h : RAt w R s p) (v : Value) : RAt (w.setCell ⟨R, 2, none⟩ v) R s p := by
  refine h.move (Keeps.set 2 _) h.le ?_ ?_ ?_
  · rw [World.cell?_setCell_other (h := fun e => by injection e with _ e2; cases e2)]; exact h.src
  · rw [World.cell?_setCell_other (h := fun e => by injection e with _ e2; cases e2)]; exact h.place
  · obtain ⟨x, e⟩ := h.prev
    exact ⟨v, by rw [World.cell?_setCell_same (h := e)]⟩

/-- A chain of what keeps all but the reader goes on by what touches nothing below its beginning. -/
theorem Keeps.under {a b c : World} (h : Keeps R a b) (hR : R < a.heap.size) (k : Below a.heap.size b c) : Keeps R a c where
  size := Nat.le_trans h.size k.size
  below := fun B w0 hB hb => (h.below B w0 hB hb).trans (k.mono (by omega))
  cell := fun x o hx hn => by rw [k.cell (p := ⟨x, o, none⟩) hx]; exact h.cell x o hx hn
  frozen := fun x o hx => by rw [k.frozen (p := ⟨x, o, none⟩) hx]; exact h.frozen x o hx
  block := fun x hx hn => (k.block x hx).trans (h.block x hx hn)

set_option maxRecDepth 100000 in
set_option maxHeartbeats 1600000 in
theorem rb_yes (h : RAt w R s p) (hp : p < s.size) :
    Calls Tryd.prog 59 #[.pointer (some ⟨R, 0, none⟩)] w fun e w' => e = .returned (.tuple #[.int .u8 ((gByte s p).toNat : Int), .nilIface]) ∧ RAt w' R s (p + 1) ∧ Keeps R w w' := by
  have c0 := h.src
  have c1 := h.place
  obtain ⟨x, c2⟩ := h.prev
  have f1 := h.free 1
  have f2 := h.free 2
  have hsm := h.small
  have HR := hid h
  have HB := hid (gByte_in hp)
  have hpI : ¬ (s.size : Int) ≤ (p : Int) := by omega
  have hp0 : (0 : Int) ≤ (p : Int) := by omega
  have hpJ : (p : Int) < (s.size : Int) := by omega
  clear h
  go_enter Tryd.func59, Tryd.ntmps59
  go_wp2
  go_quiet (fail)
  go_wp2
  go_quiet (fail)
  go_wp2
  go_ret2
  refine ⟨by rw [HB.out]; rfl, ?_, ?_⟩
  · exact ((HR.out.mark _).drewN _).go (p + 1) hp
  · exact ((Keeps.set 2 _).trans (Keeps.drewN _)).trans (Keeps.set 1 _)

set_option maxRecDepth 100000 in
set_option maxHeartbeats 1600000 in
theorem rb_no (h : RAt w R s p) (hp : ¬ p < s.size) :
    Calls Tryd.prog 59 #[.pointer (some ⟨R, 0, none⟩)] w fun e w' => (∃ a, e = .returned (.tuple #[.int .u8 0, .iface 111 (.pointer (some a))])) ∧ RAt w' R s p ∧ Keeps R w w' := by
  have c0 := h.src
  have c1 := h.place
  obtain ⟨x, c2⟩ := h.prev
  obtain ⟨a, c3⟩ := h.eof
  have hQ := Nat.ne_of_lt h.eofO
  have f1 := h.free 1
  have f2 := h.free 2
  have hsm := h.small
  have HR := hid h
  have hpI : (s.size : Int) ≤ (p : Int) := by omega
  have c4 : (w.setCell ⟨R, 2, none⟩ (.int .i64 (-1))).cell? ⟨0, 0, none⟩ = some (.iface 111 (.pointer (some a))) := by
    rw [World.cell?_setCell_other (h := fun e => hQ (by injection e with e1; exact e1.symm))]; exact c3
  clear h c3
  go_enter Tryd.func59, Tryd.ntmps59
  go_wp2
  go_quiet (fail)
  go_wp2
  go_quiet (fail)
  go_wp2
  go_ret2
  refine ⟨⟨a, rfl⟩, ?_, ?_⟩
  · exact ((HR.out.mark _).drewN _).drewN _
  · exact ((Keeps.set 2 _).trans (Keeps.drewN _)).trans (Keeps.drewN _)

set_option maxRecDepth 100000 in
set_option maxHeartbeats 1600000 in
theorem ub_any (h : RAt w R s (p + 1)) :
    Calls Tryd.prog 60 #[.pointer (some ⟨R, 0, none⟩)] w fun e w' => e = .returned .nilIface ∧ RAt w' R s p ∧ Keeps R w w' := by
  have c0 := h.src
  have c1 := h.place
  obtain ⟨x, c2⟩ := h.prev
  have f1 := h.free 1
  have f2 := h.free 2
  have hsm := h.small
  have hle := h.le
  have HR := hid h
  have hpI : ¬ ((p + 1 : Nat) : Int) ≤ 0 := by omega
  have hw : IntKind.i64.wrap (((p + 1 : Nat) : Int) - 1) = (p : Int) := by rw [IntKind.wrap_i64]; omega
  clear h
  obtain ⟨q, hq⟩ : ∃ q, q = ((p + 1 : Nat) : Int) := ⟨_, rfl⟩
  rw [← hq] at c1 hpI hw
  clear hq
  go_enter Tryd.func60, Tryd.ntmps60
  go_wp2
  go_ret
  refine ⟨rfl, ?_, ?_⟩
  · exact (HR.out.mark _).go p (by omega)
  · exact (Keeps.set 2 _).trans (Keeps.set 1 _)

end Go.Proofs.YtijdjplajhcilabDoor
