/- DERIVED. The walks of what draws hosts. -/
import Derived.Test.YtplbfllhimcpiaaGreatDoorRd
namespace Go.Proofs.YtplbfllhimcpiaaGreatDoor
open Go.RowKit

/-- A row of texts, each of at most K bytes. -/
def StrsAt (w : World) (B n K : Nat) : Prop := ∀ i, i < n → ∃ s : ByteArray, w.cell? ⟨B, i, none⟩ = some (.string s) ∧ s.size ≤ K

def IntsAt (w : World) (B n : Nat) (lo hi : Int) : Prop := ∀ i, i < n → ∃ z : Int, w.cell? ⟨B, i, none⟩ = some (.int .i64 z) ∧ lo ≤ z ∧ z ≤ hi

def strOk (K : Nat) : Value → Bool
  | .string s => decide (s.size ≤ K)
  | _ => false

def intOk (lo hi : Int) : Value → Bool
  | .int .i64 z => decide (lo ≤ z) && decide (z ≤ hi)
  | _ => false

theorem strs_new (W : World) (A : Array Value) (t K B n : Nat) (hB : B = W.heap.size) (hn : n = A.size) (h : A.all (strOk K) = true) : StrsAt (W.alloc (.cells A t)) B n K := by
  subst hB hn
  intro i hi
  have h1 := Array.all_eq_true.mp h i hi
  have h2 : (W.alloc (.cells A t)).cell? ⟨W.heap.size, i, none⟩ = some A[i] := by
    rw [World.cell?_alloc_new]; exact Array.getElem?_eq_getElem hi
  rw [h2]
  revert h1
  cases A[i] <;> simp [strOk]

theorem ints_new (W : World) (A : Array Value) (t B n : Nat) (lo hi : Int) (hB : B = W.heap.size) (hn : n = A.size) (h : ∀ v ∈ A, intOk lo hi v = true) : IntsAt (W.alloc (.cells A t)) B n lo hi := by
  subst hB hn
  intro i hi'
  have h1 := h A[i] (Array.getElem_mem hi')
  have h2 : (W.alloc (.cells A t)).cell? ⟨W.heap.size, i, none⟩ = some A[i] := by
    rw [World.cell?_alloc_new]; exact Array.getElem?_eq_getElem hi'
  rw [h2]
  revert h1
  cases A[i] with
  | int k z => cases k <;> simp [intOk]
  | _ => simp [intOk]

/-- A store into another block that the call has made. -/
theorem RdAt.set {w : World} {R : Nat} {oa : Option Addr} {len cap p : Nat} (h : RdAt w R oa len cap p) {b : Nat} (o : Nat) (v : Value) (hb : R ≠ b) (hnew : ∀ i, i < len → ∀ x off, oa = some ⟨x, off, none⟩ → x ≠ b) : RdAt (w.setCell ⟨b, o, none⟩ v) R oa len cap p where
  old := by simpa using h.old
  code := by rw [World.cell?_setCell_other (h := fun e => hb (by injection e with e1; exact e1.symm))]; exact h.code
  place := by rw [World.cell?_setCell_other (h := fun e => hb (by injection e with e1; exact e1.symm))]; exact h.place
  free := by simpa using h.free
  short := h.short
  bytes := fun i hi => by
    obtain ⟨x, off, c, e, hx, hn, hc, h0, h1⟩ := h.bytes i hi
    refine ⟨x, off, c, e, by simpa using hx, hn, ?_, h0, h1⟩
    rw [World.cell?_setCell_other (h := fun e' => hnew i hi x off e (by injection e' with e1; exact e1.symm))]; exact hc

theorem Drawn.put {R : Nat} {oa : Option Addr} {len cap p p0 : Nat} {w w' : World} (h : Drawn R oa len cap p w w') (h0 : RdAt w R oa len cap p0) {b : Nat} (hb : w.heap.size ≤ b) (o : Nat) (v : Value) : Drawn R oa len cap p w (w'.setCell ⟨b, o, none⟩ v) := by
  have hR := h0.old
  refine ⟨h.1.set o v (by omega) (fun i hi x off e => ?_), ⟨by simpa using h.2.size, fun B w0 hB hw => (h.2.below B w0 hB hw).setCell (by show B ≤ b; omega) v, fun x o' hx hn => ?_, fun x o' hx => by simpa using h.2.frozen x o' hx, fun x hx hn => (Below.heap_setCell _ _ _ _ (by show x ≠ b; omega)).trans (h.2.block x hx hn)⟩⟩
  · obtain ⟨y, off', c, e', hy, _⟩ := h0.bytes i hi
    rw [e] at e'
    injection e' with e'
    injection e' with e1
    omega
  · rw [World.cell?_setCell_other (h := fun e => by injection e with e1; omega)]
    exact h.2.cell x o' hx hn

set_option maxHeartbeats 400000 in
theorem one_any (R B n : Nat) (lo hi : Int) (oa : Option Addr) (len cap p : Nat) (w : World) (h : RdAt w R oa len cap p) (hp : p ≤ 1000000) (hn : 1 ≤ n) (hn1 : n ≤ 1000) (hB : B < w.heap.size) (hBR : B ≠ R) (hs : IntsAt w B n lo hi) :
    Calls Tryz.prog 12 #[.pointer (some ⟨R, 0, none⟩), .slice (some ⟨B, 0, none⟩) n n] w fun e w' => (∃ z : Int, e = .returned (.int .i64 z) ∧ lo ≤ z ∧ z ≤ hi) ∧ Drawn R oa len cap (p + 1) w w' := by
  have HR := hid h
  have HS := hid hs
  clear h hs
  go_enter Tryz.func12, Tryz.ntmps12
  go_wp2_with fail
  refine (pick_any R oa len cap p n _ HR.out hp (by omega)).mono ?_
  rintro e w1 ⟨⟨x, rfl, hx0, hx1⟩, hd⟩
  obtain ⟨i, rfl⟩ : ∃ i : Nat, x = (i : Int) := ⟨x.toNat, by omega⟩
  have hi' : i < n := by omega
  obtain ⟨z, hs, hk⟩ := HS.out i hi'
  have c0 : w1.cell? ⟨B, i, none⟩ = some (.int .i64 z) := by rw [hd.2.cell B i hB hBR]; exact hs
  have HD := hid hd
  have HK := hid hk
  clear hd hs hk
  go_wp2
  go_ret
  exact ⟨⟨z, rfl, HK.out⟩, HD.out⟩


end Go.Proofs.YtplbfllhimcpiaaGreatDoor
