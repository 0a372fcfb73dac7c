/- DERIVED. The walks of what draws hosts and texts of hosts, further. -/
import Derived.Test.YtplbfllhimcpiaaGreatDoorDrawHost
namespace Go.Proofs.YtplbfllhimcpiaaGreatDoor
open Go.RowKit

/-- The bytes of a code that came in. -/
def CodeAt (w : World) (oa : Option Addr) (len : Nat) : Prop :=
  ∀ i, i < len → ∃ b off c, oa = some ⟨b, off, none⟩ ∧ b < w.heap.size ∧ w.cell? ⟨b, off + i, none⟩ = some (.int .u8 c) ∧ 0 ≤ c ∧ c ≤ 255

theorem CodeAt.below {w w' : World} {oa : Option Addr} {len : Nat} (h : CodeAt w oa len) (hb : Below w.heap.size w w') : CodeAt w' oa len := by
  intro i hi
  obtain ⟨b, off, c, e, h1, h2, h3⟩ := h i hi
  exact ⟨b, off, c, e, Nat.lt_of_lt_of_le h1 hb.size, by rw [hb.cell (p := ⟨b, off + i, none⟩) h1]; exact h2, h3⟩

theorem rd_new (w : World) (oa : Option Addr) (len cap : Nat) (h : CodeAt w oa len) (hl : len ≤ 2000) (t : Nat) : RdAt (w.alloc (.cells #[.slice oa len cap, .int .i64 0] t)) w.heap.size oa len cap 0 where
  old := by simp
  code := by simp
  place := by simp
  free := by simp
  short := hl
  bytes := fun i hi => by
    obtain ⟨b, off, c, e, h1, h2, h3⟩ := h i hi
    exact ⟨b, off, c, e, by simp; omega, by omega, by rw [World.cell?_alloc_lt (h := h1)]; exact h2, h3⟩

set_option maxHeartbeats 400000 in
theorem open_any (oa : Option Addr) (len cap : Nat) (w : World) (h : CodeAt w oa len) (hc : len ≤ cap) (hm : cap ≤ maxLen) :
    Calls Tryz.prog 11 #[.slice oa len cap] w fun e w' => e = .returned (.pointer (some ⟨w.heap.size, 0, none⟩)) ∧ (∃ l c, RdAt w' w.heap.size oa l c 0) ∧ Below w.heap.size w w' := by
  have hm' : cap ≤ 2 ^ 63 - 1 := hm
  have HC := hid h
  clear h
  by_cases hl : 2000 < (len : Int)
  · go_enter Tryz.func11, Tryz.ntmps11
    go_wp2
    go_ret
    exact ⟨rfl, ⟨2000, cap, rd_new w oa 2000 cap (fun i hi => HC.out i (by omega)) (by omega) _⟩, (Below.refl _ _).alloc (Nat.le_refl _) _⟩
  · go_enter Tryz.func11, Tryz.ntmps11
    go_wp2
    go_ret
    exact ⟨rfl, ⟨len, cap, rd_new w oa len cap HC.out (by omega) _⟩, (Below.refl _ _).alloc (Nat.le_refl _) _⟩

/-- Two cells of a block that are there, and may be written. -/
structure TwoAt (w : World) (b : Nat) (x y : Value) : Prop where
  old : b < w.heap.size
  c0 : w.cell? ⟨b, 0, none⟩ = some x
  c1 : w.cell? ⟨b, 1, none⟩ = some y
  f0 : w.frozen? ⟨b, 0, none⟩ = false
  f1 : w.frozen? ⟨b, 1, none⟩ = false

theorem TwoAt.keep {w w' : World} {R b : Nat} {x y : Value} (h : TwoAt w b x y) (k : Keeps R w w') (hb : b ≠ R) : TwoAt w' b x y :=
  ⟨Nat.lt_of_lt_of_le h.old k.size, by rw [k.cell _ _ h.old hb]; exact h.c0, by rw [k.cell _ _ h.old hb]; exact h.c1, by rw [k.frozen _ _ h.old]; exact h.f0, by rw [k.frozen _ _ h.old]; exact h.f1⟩

theorem TwoAt.below {w w' : World} {b : Nat} {x y : Value} (h : TwoAt w b x y) (k : Below w.heap.size w w') : TwoAt w' b x y :=
  ⟨Nat.lt_of_lt_of_le h.old k.size, by rw [k.cell (p := ⟨b, 0, none⟩) h.old]; exact h.c0, by rw [k.cell (p := ⟨b, 1, none⟩) h.old]; exact h.c1, by rw [k.frozen (p := ⟨b, 0, none⟩) h.old]; exact h.f0, by rw [k.frozen (p := ⟨b, 1, none⟩) h.old]; exact h.f1⟩

theorem TwoAt.new (w : World) (x y : Value) (t : Nat) : TwoAt (w.alloc (.cells #[x, y] t)) w.heap.size x y := ⟨by simp, by simp, by simp, by simp, by simp⟩

end Go.Proofs.YtplbfllhimcpiaaGreatDoor
