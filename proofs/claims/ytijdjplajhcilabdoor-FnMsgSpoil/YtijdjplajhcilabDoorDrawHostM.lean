/- DERIVED. The walks of what draws hosts. The walks of what draws hosts and texts of hosts, further. -/
import Derived.Test.YtijdjplajhcilabDoorRd
namespace Go.Proofs.YtijdjplajhcilabDoor
open Go.RowKit

/-- A row of texts, each of at most K bytes. -/
def StrsAt (w : World) (B n K : Nat) : Prop := ∀ i, i < n → ∃ s : ByteArray, w.cell? ⟨B, i, none⟩ = some (.string s) ∧ s.size ≤ K

def IntsAt (w : World) (B n : Nat) (lo hi : Int) : Prop := ∀ i, i < n → ∃ z : Int, w.cell? ⟨B, i, none⟩ = some (.int .i64 z) ∧ lo ≤ z ∧ z ≤ hi

def strOk (K : Nat) : Value → Bool
  | .string s => decide (s.size ≤ K)
  | _ => false

def intOk (lo hi : Int) : Value → Bool
  | .int .i64 z => decide (lo ≤ z) && decide (z ≤ hi)
  | _ => false

theorem strs_new (W : World) (A : Array Value) (t K B n : Nat) (hB : B = W.heap.size) (hn : n = A.size) (h : A.all (strOk K) = true) : StrsAt (W.alloc (.cells A t)) B n K := by
  subst hB hn
  intro i hi
  have h1 := Array.all_eq_true.mp h i hi
  have h2 : (W.alloc (.cells A t)).cell? ⟨W.heap.size, i, none⟩ = some A[i] := by
    rw [World.cell?_alloc_new]; exact Array.getElem?_eq_getElem hi
  rw [h2]
  revert h1
  cases A[i] <;> simp [strOk]

theorem ints_new (W : World) (A : Array Value) (t B n : Nat) (lo hi : Int) (hB : B = W.heap.size) (hn : n = A.size) (h : ∀ v ∈ A, intOk lo hi v = true) : IntsAt (W.alloc (.cells A t)) B n lo hi := by
  subst hB hn
  intro i hi'
  have h1 := h A[i] (Array.getElem_mem hi')
  have h2 : (W.alloc (.cells A t)).cell? ⟨W.heap.size, i, none⟩ = some A[i] := by
    rw [World.cell?_alloc_new]; exact Array.getElem?_eq_getElem hi'
  rw [h2]
  revert h1
  cases A[i] with
  | int k z => cases k <;> simp [intOk]
  | _ => simp [intOk]

/-- A store into another block that the call has made. -/
theorem RdAt.set {w : World} {R : Nat} {oa : Option Addr} {len cap p : Nat} (h : RdAt w R oa len cap p) {b : Nat} (o : Nat) (v : Value) (hb : R ≠ b) (hnew : ∀ i, i < len → ∀ x off, oa = some ⟨x, off, none⟩ → x ≠ b) : RdAt (w.setCell ⟨b, o, none⟩ v) R oa len cap p where
  old := by simpa using h.old
  code := by rw [World.cell?_setCell_other (h := fun e => hb (by injection e with e1; exact e1.symm))]; exact h.code
  place := by rw [World.cell?_setCell_other (h := fun e => hb (by injection e with e1; exact e1.symm))]; exact h.place
  free := by simpa using h.free
  short := h.short
  bytes := fun i hi => by
    obtain ⟨x, off, c, e, hx, hn, hc, h0, h1⟩ := h.bytes i hi
    refine ⟨x, off, c, e, by simpa using hx, hn, ?_, h0, h1⟩
    rw [World.cell?_setCell_other (h := fun e' => hnew i hi x off e (by injection e' with e1; exact e1.symm))]; exact hc

theorem Drawn.put {R : Nat} {oa : Option Addr} {len cap p p0 : Nat} {w w' : World} (h : Drawn R oa len cap p w w') (h0 : RdAt w R oa len cap p0) {b : Nat} (hb : w.heap.size ≤ b) (o : Nat) (v : Value) : Drawn R oa len cap p w (w'.setCell ⟨b, o, none⟩ v) := by
  have hR := h0.old
  refine ⟨h.1.set o v (by omega) (fun i hi x off e => ?_), ⟨by simpa using h.2.size, fun B w0 hB hw => (h.2.below B w0 hB hw).setCell (by show B ≤ b; omega) v, fun x o' hx hn => ?_, fun x o' hx => by simpa using h.2.frozen x o' hx, fun x hx hn => (Below.heap_setCell _ _ _ _ (by show x ≠ b; omega)).trans (h.2.block x hx hn)⟩⟩
  · obtain ⟨y, off', c, e', hy, _⟩ := h0.bytes i hi
    rw [e] at e'
    injection e' with e'
    injection e' with e1
    omega
  · rw [World.cell?_setCell_other (h := fun e => by injection e with e1; omega)]
    exact h.2.cell x o' hx hn

set_option maxHeartbeats 400000 in
theorem one_any (R B n : Nat) (lo hi : Int) (oa : Option Addr) (len cap p : Nat) (w : World) (h : RdAt w R oa len cap p) (hp : p ≤ 1000000) (hn : 1 ≤ n) (hn1 : n ≤ 1000) (hB : B < w.heap.size) (hBR : B ≠ R) (hs : IntsAt w B n lo hi) :
    Calls Tryd.prog 21 #[.pointer (some ⟨R, 0, none⟩), .slice (some ⟨B, 0, none⟩) n n] w fun e w' => (∃ z : Int, e = .returned (.int .i64 z) ∧ lo ≤ z ∧ z ≤ hi) ∧ Drawn R oa len cap (p + 1) w w' := by
  have HR := hid h
  have HS := hid hs
  clear h hs
  go_enter Tryd.func21, Tryd.ntmps21
  go_wp2_with fail
  refine (pick_any R oa len cap p n _ HR.out hp (by omega)).mono ?_
  rintro e w1 ⟨⟨x, rfl, hx0, hx1⟩, hd⟩
  obtain ⟨i, rfl⟩ : ∃ i : Nat, x = (i : Int) := ⟨x.toNat, by omega⟩
  have hi' : i < n := by omega
  obtain ⟨z, hs, hk⟩ := HS.out i hi'
  have c0 : w1.cell? ⟨B, i, none⟩ = some (.int .i64 z) := by rw [hd.2.cell B i hB hBR]; exact hs
  have HD := hid hd
  have HK := hid hk
  clear hd hs hk
  go_wp2
  go_ret
  exact ⟨⟨z, rfl, HK.out⟩, HD.out⟩


end Go.Proofs.YtijdjplajhcilabDoor

namespace Go.Proofs.YtijdjplajhcilabDoor
open Go.RowKit

/-- The bytes of a code that came in. -/
def CodeAt (w : World) (oa : Option Addr) (len : Nat) : Prop :=
  ∀ i, i < len → ∃ b off c, oa = some ⟨b, off, none⟩ ∧ b < w.heap.size ∧ w.cell? ⟨b, off + i, none⟩ = some (.int .u8 c) ∧ 0 ≤ c ∧ c ≤ 255

theorem CodeAt.below {w w' : World} {oa : Option Addr} {len : Nat} (h : CodeAt w oa len) (hb : Below w.heap.size w w') : CodeAt w' oa len := by
  intro i hi
  obtain ⟨b, off, c, e, h1, h2, h3⟩ := h i hi
  exact ⟨b, off, c, e, Nat.lt_of_lt_of_le h1 hb.size, by rw [hb.cell (p := ⟨b, off + i, none⟩) h1]; exact h2, h3⟩

theorem rd_new (w : World) (oa : Option Addr) (len cap : Nat) (h : CodeAt w oa len) (hl : len ≤ 2000) (t : Nat) : RdAt (w.alloc (.cells #[.slice oa len cap, .int .i64 0] t)) w.heap.size oa len cap 0 where
  old := by simp
  code := by simp
  place := by simp
  free := by simp
  short := hl
  bytes := fun i hi => by
    obtain ⟨b, off, c, e, h1, h2, h3⟩ := h i hi
    exact ⟨b, off, c, e, by simp; omega, by omega, by rw [World.cell?_alloc_lt (h := h1)]; exact h2, h3⟩

set_option maxHeartbeats 400000 in
theorem open_any (oa : Option Addr) (len cap : Nat) (w : World) (h : CodeAt w oa len) (hc : len ≤ cap) (hm : cap ≤ maxLen) :
    Calls Tryd.prog 9 #[.slice oa len cap] w fun e w' => e = .returned (.pointer (some ⟨w.heap.size, 0, none⟩)) ∧ (∃ l c, RdAt w' w.heap.size oa l c 0) ∧ Below w.heap.size w w' := by
  have hm' : cap ≤ 2 ^ 63 - 1 := hm
  have HC := hid h
  clear h
  by_cases hl : 2000 < (len : Int)
  · go_enter Tryd.func9, Tryd.ntmps9
    go_wp2
    go_ret
    exact ⟨rfl, ⟨2000, cap, rd_new w oa 2000 cap (fun i hi => HC.out i (by omega)) (by omega) _⟩, (Below.refl _ _).alloc (Nat.le_refl _) _⟩
  · go_enter Tryd.func9, Tryd.ntmps9
    go_wp2
    go_ret
    exact ⟨rfl, ⟨len, cap, rd_new w oa len cap HC.out (by omega) _⟩, (Below.refl _ _).alloc (Nat.le_refl _) _⟩

/-- Two cells of a block that are there, and may be written. -/
structure TwoAt (w : World) (b : Nat) (x y : Value) : Prop where
  old : b < w.heap.size
  c0 : w.cell? ⟨b, 0, none⟩ = some x
  c1 : w.cell? ⟨b, 1, none⟩ = some y
  f0 : w.frozen? ⟨b, 0, none⟩ = false
  f1 : w.frozen? ⟨b, 1, none⟩ = false

theorem TwoAt.keep {w w' : World} {R b : Nat} {x y : Value} (h : TwoAt w b x y) (k : Keeps R w w') (hb : b ≠ R) : TwoAt w' b x y :=
  ⟨Nat.lt_of_lt_of_le h.old k.size, by rw [k.cell _ _ h.old hb]; exact h.c0, by rw [k.cell _ _ h.old hb]; exact h.c1, by rw [k.frozen _ _ h.old]; exact h.f0, by rw [k.frozen _ _ h.old]; exact h.f1⟩

theorem TwoAt.below {w w' : World} {b : Nat} {x y : Value} (h : TwoAt w b x y) (k : Below w.heap.size w w') : TwoAt w' b x y :=
  ⟨Nat.lt_of_lt_of_le h.old k.size, by rw [k.cell (p := ⟨b, 0, none⟩) h.old]; exact h.c0, by rw [k.cell (p := ⟨b, 1, none⟩) h.old]; exact h.c1, by rw [k.frozen (p := ⟨b, 0, none⟩) h.old]; exact h.f0, by rw [k.frozen (p := ⟨b, 1, none⟩) h.old]; exact h.f1⟩

theorem TwoAt.new (w : World) (x y : Value) (t : Nat) : TwoAt (w.alloc (.cells #[x, y] t)) w.heap.size x y := ⟨by simp, by simp, by simp, by simp, by simp⟩

end Go.Proofs.YtijdjplajhcilabDoor

