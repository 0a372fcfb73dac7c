/- DERIVED. The walks of the law's own helpers over lists of hosts. -/
import Derived.Test.YtahhjhhnjpbocadDoorHsList
import Derived.Test.YtahhjhhnjpbocadDoorSz
namespace Go.Proofs.YtahhjhhnjpbocadDoor
open Go.RowKit

structure OwnAt (w : World) (B n k : Nat) (S : Nat → ByteArray) (M : Nat → Int) : Prop where
  old : B < w.heap.size
  there : ∀ j, j < n * 2 → (w.cell? ⟨B, j, none⟩).isSome = true
  free : ∀ j, j < n * 2 → w.frozen? ⟨B, j, none⟩ = false
  name : ∀ i, i < k → w.cell? ⟨B, i * 2, none⟩ = some (.string (S i))
  num : ∀ i, i < k → w.cell? ⟨B, i * 2 + 1, none⟩ = some (.int .i64 (M i))

theorem OwnAt.below {w w' : World} {B n k : Nat} {S : Nat → ByteArray} {M : Nat → Int} (h : OwnAt w B n k S M) (hb : Below w.heap.size w w') : OwnAt w' B n k S M where
  old := Nat.lt_of_lt_of_le h.old hb.size
  there := fun j hj => by rw [hb.cell h.old]; exact h.there j hj
  free := fun j hj => by rw [hb.frozen h.old]; exact h.free j hj
  name := fun i hi => by rw [hb.cell h.old]; exact h.name i hi
  num := fun i hi => by rw [hb.cell h.old]; exact h.num i hi

theorem addr_ne {B p q : Nat} (h : p ≠ q) : (⟨B, p, none⟩ : Addr) ≠ ⟨B, q, none⟩ := fun e => h (by injection e)

theorem two_far {w : World} {B p q : Nat} {x y : Value} (h0 : p ≠ q) (h1 : p + 1 ≠ q) : ((w.setCell ⟨B, p, none⟩ x).setCell ⟨B, p + 1, none⟩ y).cell? ⟨B, q, none⟩ = w.cell? ⟨B, q, none⟩ := by
  rw [World.cell?_setCell_other (h := addr_ne h1), World.cell?_setCell_other (h := addr_ne h0)]

theorem two_fst {w : World} {B p : Nat} {x y : Value} (h : (w.cell? ⟨B, p, none⟩).isSome = true) : ((w.setCell ⟨B, p, none⟩ x).setCell ⟨B, p + 1, none⟩ y).cell? ⟨B, p, none⟩ = some x := by
  obtain ⟨u, hu⟩ := Option.isSome_iff_exists.mp h
  rw [World.cell?_setCell_other (h := addr_ne (by omega)), World.cell?_setCell_same (h := hu)]

theorem two_snd {w : World} {B p : Nat} {x y : Value} (h : (w.cell? ⟨B, p + 1, none⟩).isSome = true) : ((w.setCell ⟨B, p, none⟩ x).setCell ⟨B, p + 1, none⟩ y).cell? ⟨B, p + 1, none⟩ = some y := by
  obtain ⟨u, hu⟩ := Option.isSome_iff_exists.mp h
  have hu' : (w.setCell ⟨B, p, none⟩ x).cell? ⟨B, p + 1, none⟩ = some u := by rw [World.cell?_setCell_other (h := addr_ne (by omega))]; exact hu
  rw [World.cell?_setCell_same (h := hu')]

theorem OwnAt.put {w : World} {B n k : Nat} {S : Nat → ByteArray} {M : Nat → Int} (h : OwnAt w B n k S M) (hk : k < n) : OwnAt ((w.setCell ⟨B, k * 2, none⟩ (.string (S k))).setCell ⟨B, k * 2 + 1, none⟩ (.int .i64 (M k))) B n (k + 1) S M where
  old := by simpa using h.old
  there := fun j hj => by
    by_cases h0 : k * 2 = j
    · subst h0; rw [two_fst (h.there _ hj)]; rfl
    · by_cases h1 : k * 2 + 1 = j
      · subst h1; rw [two_snd (h.there _ hj)]; rfl
      · rw [two_far h0 h1]; exact h.there j hj
  free := fun j hj => by simpa using h.free j hj
  name := fun i hi => by
    by_cases e : i = k
    · subst e; exact two_fst (h.there _ (by omega))
    · rw [two_far (by omega) (by omega)]; exact h.name i (by omega)
  num := fun i hi => by
    by_cases e : i = k
    · subst e; exact two_snd (h.there _ (by omega))
    · rw [two_far (by omega) (by omega)]; exact h.num i (by omega)

theorem OwnAt.new (w : World) (A : Array Value) (e n : Nat) (S : Nat → ByteArray) (M : Nat → Int) (hA : A.size = n * 2) : OwnAt (w.alloc (.cells A e)) w.heap.size n 0 S M where
  old := by simp
  there := fun j hj => by simp [hA, hj]
  free := fun j hj => by simp
  name := fun i hi => by omega
  num := fun i hi => by omega

theorem OwnAt.row {w : World} {B n : Nat} {S : Nat → ByteArray} {M : Nat → Int} (h : OwnAt w B n n S M) (hs : ∀ i, i < n → (S i).size ≤ maxLen) : RowAt w B 0 n S M where
  old := h.old
  name := fun i hi => by rw [Nat.zero_add]; exact h.name i hi
  num := fun i hi => by rw [Nat.zero_add]; exact h.num i hi
  small := hs

theorem make_hosts (n : Nat) (hn : n ≤ 1048576) (w : World) : ∃ A : Array Value, A.size = n * 2 ∧ (Instr.makeSlice 22 (.int .i64 (n : Int)) (.int .i64 (n : Int))).run Tryd.prog w = .ok (.slice (some ⟨w.heap.size, 0, none⟩) n n) (w.alloc (.cells A 35)) := by
  have hi : (Tryd.prog.info? 35).map (fun i => (i.zero, i.size, i.bytes)) = some (some (.agg #[.string ⟨#[]⟩, .int .i64 0]), 2, 24) := by kernel_rfl
  obtain ⟨i, h1, hzz⟩ := Option.map_eq_some_iff.1 hi
  simp only [Prod.mk.injEq] at hzz
  obtain ⟨h2, h3, h4⟩ := hzz
  refine ⟨madeCells (Value.cells (.agg #[.string ⟨#[]⟩, .int .i64 0])) (n * 2), size_madeCells _ _, ?_⟩
  have := run_make (P := Tryd.prog) w 22 35 i _ Tryd.underlying22 h1 h2 .i64 .i64 n n (by omega) (Int.le_refl _) (by rw [h4]; omega) (by omega)
  rw [h3] at this
  simpa using this

end Go.Proofs.YtahhjhhnjpbocadDoor
