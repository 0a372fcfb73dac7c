/- DERIVED. The reader that draws: its memory, and one draw. -/
import Derived.Test.YtcielnlhopjijabDoorOk
import Derived.Test.YtcielnlhopjijabDoorReg
import Derived.Laws.BitsAllLaws
namespace Go.Proofs.YtcielnlhopjijabDoor
open Go.RowKit

/-- Nothing that was there has turned but the block R. -/
structure Keeps (R : Nat) (w w' : World) : Prop where
  size : w.heap.size ≤ w'.heap.size
  below : ∀ B w0, B ≤ R → Below B w0 w → Below B w0 w'
  cell : ∀ b o, b < w.heap.size → b ≠ R → w'.cell? ⟨b, o, none⟩ = w.cell? ⟨b, o, none⟩
  frozen : ∀ b o, b < w.heap.size → w'.frozen? ⟨b, o, none⟩ = w.frozen? ⟨b, o, none⟩
  block : ∀ b, b < w.heap.size → b ≠ R → w'.heap[b]? = w.heap[b]?

theorem Keeps.refl (R : Nat) (w : World) : Keeps R w w := ⟨Nat.le_refl _, fun _ _ _ h => h, fun _ _ _ _ => rfl, fun _ _ _ => rfl, fun _ _ _ => rfl⟩

theorem Keeps.trans {R : Nat} {a b c : World} (h : Keeps R a b) (k : Keeps R b c) : Keeps R a c where
  size := Nat.le_trans h.size k.size
  below := fun B w0 hB hb => k.below B w0 hB (h.below B w0 hB hb)
  cell := fun x o hx hn => by rw [k.cell x o (Nat.lt_of_lt_of_le hx h.size) hn, h.cell x o hx hn]
  frozen := fun x o hx => by rw [k.frozen x o (Nat.lt_of_lt_of_le hx h.size), h.frozen x o hx]
  block := fun x hx hn => (k.block x (Nat.lt_of_lt_of_le hx h.size) hn).trans (h.block x hx hn)

theorem Keeps.set {R : Nat} {w : World} (o : Nat) (v : Value) : Keeps R w (w.setCell ⟨R, o, none⟩ v) where
  size := by simp
  below := fun _ _ hB hb => hb.setCell hB v
  cell := fun x o' _ hn => by rw [World.cell?_setCell_other (h := fun e => hn (by injection e with e1; exact e1.symm))]
  frozen := fun x o' _ => by simp
  block := fun x _ hn => Below.heap_setCell _ _ _ _ hn

theorem Keeps.drewN {R : Nat} {w : World} (n : Nat) : Keeps R w (w.drewN n) where
  size := Nat.le_refl _
  below := fun _ _ _ hb => below_drewN hb n
  cell := fun _ _ _ _ => rfl
  frozen := fun _ _ _ => rfl
  block := fun _ _ _ => rfl

theorem Keeps.of_below {R : Nat} {w w' : World} (h : Below w.heap.size w w') (hR : R < w.heap.size) : Keeps R w w' where
  size := h.size
  below := fun B w0 hB hb => hb.trans (h.mono (by omega))
  cell := fun x o hx _ => h.cell (p := ⟨x, o, none⟩) hx
  frozen := fun x o hx => h.frozen (p := ⟨x, o, none⟩) hx
  block := fun x hx _ => h.block x hx

/-- The bytes of a code. -/
def BytesAt (w : World) (R : Nat) (oa : Option Addr) (len : Nat) : Prop :=
  ∀ i, i < len → ∃ b off c, oa = some ⟨b, off, none⟩ ∧ b < w.heap.size ∧ b ≠ R ∧ w.cell? ⟨b, off + i, none⟩ = some (.int .u8 c) ∧ 0 ≤ c ∧ c ≤ 255

/-- A reader lies in block R: its code, and its place. -/
structure RdAt (w : World) (R : Nat) (oa : Option Addr) (len cap p : Nat) : Prop where
  old : R < w.heap.size
  code : w.cell? ⟨R, 0, none⟩ = some (.slice oa len cap)
  place : w.cell? ⟨R, 1, none⟩ = some (.int .i64 (p : Int))
  free : w.frozen? ⟨R, 1, none⟩ = false
  short : len ≤ 2000
  bytes : BytesAt w R oa len

theorem RdAt.keep {w w' : World} {R : Nat} {oa : Option Addr} {len cap p : Nat} (h : RdAt w R oa len cap p) (k : Below w.heap.size w w') : RdAt w' R oa len cap p where
  old := Nat.lt_of_lt_of_le h.old k.size
  code := by rw [k.cell (p := ⟨R, 0, none⟩) h.old]; exact h.code
  place := by rw [k.cell (p := ⟨R, 1, none⟩) h.old]; exact h.place
  free := by rw [k.frozen (p := ⟨R, 1, none⟩) h.old]; exact h.free
  short := h.short
  bytes := fun i hi => by
    obtain ⟨b, off, c, e, hb, hn, hc, h0, h1⟩ := h.bytes i hi
    exact ⟨b, off, c, e, Nat.lt_of_lt_of_le hb k.size, hn, by rw [k.cell (p := ⟨b, off + i, none⟩) hb]; exact hc, h0, h1⟩

theorem RdAt.step {w : World} {R : Nat} {oa : Option Addr} {len cap p : Nat} (h : RdAt w R oa len cap p) (n : Nat) : RdAt ((w.setCell ⟨R, 1, none⟩ (.int .i64 ((p : Int) + 1))).drewN n) R oa len cap (p + 1) where
  old := by simpa using h.old
  code := by
    show (w.setCell ⟨R, 1, none⟩ (.int .i64 ((p : Int) + 1))).cell? ⟨R, 0, none⟩ = _
    rw [World.cell?_setCell_other (h := fun e => by injection e with _ e2; cases e2)]; exact h.code
  place := by
    show (w.setCell ⟨R, 1, none⟩ (.int .i64 ((p : Int) + 1))).cell? ⟨R, 1, none⟩ = _
    rw [World.cell?_setCell_same (h := h.place)]; rfl
  free := by
    show (w.setCell ⟨R, 1, none⟩ (.int .i64 ((p : Int) + 1))).frozen? ⟨R, 1, none⟩ = _
    simpa using h.free
  short := h.short
  bytes := fun i hi => by
    obtain ⟨b, off, c, e, hb, hn, hc, h0, h1⟩ := h.bytes i hi
    refine ⟨b, off, c, e, by simpa using hb, hn, ?_, h0, h1⟩
    show (w.setCell ⟨R, 1, none⟩ (.int .i64 ((p : Int) + 1))).cell? ⟨b, off + i, none⟩ = _
    rw [World.cell?_setCell_other (h := fun e => hn (by injection e with e1; exact e1.symm))]; exact hc

/-- What one draw leaves. -/
def Drawn (R : Nat) (oa : Option Addr) (len cap p : Nat) (w w' : World) : Prop := RdAt w' R oa len cap p ∧ Keeps R w w'

theorem drawn_one {w : World} {R : Nat} {oa : Option Addr} {len cap p : Nat} (h : RdAt w R oa len cap p) (n : Nat) : Drawn R oa len cap (p + 1) w ((w.setCell ⟨R, 1, none⟩ (.int .i64 ((p : Int) + 1))).drewN n) :=
  ⟨h.step n, (Keeps.set 1 _).trans (Keeps.drewN n)⟩

end Go.Proofs.YtcielnlhopjijabDoor
