/- DERIVED. The walks of the law's own helpers over lists of hosts. -/
import Derived.Test.YtahhjhhnjpbocaeHsList
import Derived.Test.YtahhjhhnjpbocaeSz
namespace Go.Proofs.Ytahhjhhnjpbocae
open Go.RowKit

set_option maxHeartbeats 400000 in
theorem szS_none (oa : Option Addr) (cap : Nat) (w : World) :
    Calls Try.prog 4 #[.slice oa 0 cap, .int .i64 1048576] w fun e w' => e = .returned (.int .i64 1048576) ∧ w' = w := by
  go_enter Try.func4, Try.ntmps4
  go_wp2
  go_loop [1, 5] (fun l i => l = .int .i64 1048576 ∧ i = .int .i64 0) (fun _ _ => 0)
  case atStart => exact ⟨rfl, rfl⟩
  case round =>
    obtain ⟨rfl, rfl⟩ := hrel
    go_wp2
    go_ret
    exact ⟨rfl, rfl⟩

set_option maxHeartbeats 400000 in
theorem szS_any (b off len cap : Nat) (S : Nat → ByteArray) (M : Nat → Int) (w : World) (hc : len ≤ cap) (hm : cap ≤ maxLen) (R : RowAt w b off len S M) :
    Calls Try.prog 4 #[.slice (some ⟨b, off, none⟩) len cap, .int .i64 1048576] w fun e w' => (∃ r : Int, e = .returned (.int .i64 r) ∧ (0 ≤ r → len ≤ 1048576)) ∧ Below w.heap.size w w' := by
  have hm' : cap ≤ 2 ^ 63 - 1 := hm
  by_cases hbig : 1048576 - (len : Int) < 0
  · go_enter Try.func4, Try.ntmps4
    go_wp2
    go_ret
    exact ⟨⟨-1, rfl, by omega⟩, Below.refl _ _⟩
  · go_enter Try.func4, Try.ntmps4
    go_wp2
    go_loopw [1, 5] (fun l i w' => Below w.heap.size w w' ∧ ∃ (k : Nat) (x : Int), k ≤ len ∧ i = .int .i64 k ∧ l = .int .i64 x ∧ 0 ≤ x ∧ x ≤ 1048576) (fun _ i _ => len - (intOf i).toNat)
    case atStart => exact ⟨Below.refl _ _, 0, 1048576 - len, Nat.zero_le _, rfl, rfl, by omega, by omega⟩
    case round =>
      obtain ⟨hB, k, x, hk, rfl, rfl, x0, x1⟩ := hrel
      have HB := hid hB
      clear hB
      have HR : Hid (RowAt wr b off len S M) := R.below HB.out
      by_cases hlt : k < len
      · have c0 := HR.out.name k hlt
        have c1 := HR.out.num k hlt
        have HSZ := hid (HR.out.small k hlt)
        by_cases hx : x - ((S k).size : Int) < 0
        · go_wp2_with (go_at_call 11; refine (sz_any _ _ _ _ HSZ.out x0 x1).mono ?_; rintro e w' ⟨rfl, rfl⟩; rw [if_pos hx])
          go_ret
          exact ⟨⟨-1, rfl, by omega⟩, HB.out.alloc HB.out.size _⟩
        · go_wp2_with (go_at_call 11; refine (sz_any _ _ _ _ HSZ.out x0 x1).mono ?_; rintro e w' ⟨rfl, rfl⟩; rw [if_neg hx])
          go_roundw
          case rel => exact ⟨HB.out.alloc HB.out.size _, k + 1, x - (S k).size, by omega, by go_num, rfl, by omega, by omega⟩
          case measure => simp [intOf]; omega
      · go_wp2
        go_ret
        exact ⟨⟨x, rfl, by omega⟩, HB.out⟩

/-- A new row of hosts that is being filled: the first k are there. -/

structure OwnAt (w : World) (B n k : Nat) (S : Nat → ByteArray) (M : Nat → Int) : Prop where
  old : B < w.heap.size
  there : ∀ j, j < n * 2 → (w.cell? ⟨B, j, none⟩).isSome = true
  free : ∀ j, j < n * 2 → w.frozen? ⟨B, j, none⟩ = false
  name : ∀ i, i < k → w.cell? ⟨B, i * 2, none⟩ = some (.string (S i))
  num : ∀ i, i < k → w.cell? ⟨B, i * 2 + 1, none⟩ = some (.int .i64 (M i))

theorem OwnAt.below {w w' : World} {B n k : Nat} {S : Nat → ByteArray} {M : Nat → Int} (h : OwnAt w B n k S M) (hb : Below w.heap.size w w') : OwnAt w' B n k S M where
  old := Nat.lt_of_lt_of_le h.old hb.size
  there := fun j hj => by rw [hb.cell h.old]; exact h.there j hj
  free := fun j hj => by rw [hb.frozen h.old]; exact h.free j hj
  name := fun i hi => by rw [hb.cell h.old]; exact h.name i hi
  num := fun i hi => by rw [hb.cell h.old]; exact h.num i hi

theorem addr_ne {B p q : Nat} (h : p ≠ q) : (⟨B, p, none⟩ : Addr) ≠ ⟨B, q, none⟩ := fun e => h (by injection e)

theorem two_far {w : World} {B p q : Nat} {x y : Value} (h0 : p ≠ q) (h1 : p + 1 ≠ q) : ((w.setCell ⟨B, p, none⟩ x).setCell ⟨B, p + 1, none⟩ y).cell? ⟨B, q, none⟩ = w.cell? ⟨B, q, none⟩ := by
  rw [World.cell?_setCell_other (h := addr_ne h1), World.cell?_setCell_other (h := addr_ne h0)]

theorem two_fst {w : World} {B p : Nat} {x y : Value} (h : (w.cell? ⟨B, p, none⟩).isSome = true) : ((w.setCell ⟨B, p, none⟩ x).setCell ⟨B, p + 1, none⟩ y).cell? ⟨B, p, none⟩ = some x := by
  obtain ⟨u, hu⟩ := Option.isSome_iff_exists.mp h
  rw [World.cell?_setCell_other (h := addr_ne (by omega)), World.cell?_setCell_same (h := hu)]

theorem two_snd {w : World} {B p : Nat} {x y : Value} (h : (w.cell? ⟨B, p + 1, none⟩).isSome = true) : ((w.setCell ⟨B, p, none⟩ x).setCell ⟨B, p + 1, none⟩ y).cell? ⟨B, p + 1, none⟩ = some y := by
  obtain ⟨u, hu⟩ := Option.isSome_iff_exists.mp h
  have hu' : (w.setCell ⟨B, p, none⟩ x).cell? ⟨B, p + 1, none⟩ = some u := by rw [World.cell?_setCell_other (h := addr_ne (by omega))]; exact hu
  rw [World.cell?_setCell_same (h := hu')]

theorem OwnAt.put {w : World} {B n k : Nat} {S : Nat → ByteArray} {M : Nat → Int} (h : OwnAt w B n k S M) (hk : k < n) : OwnAt ((w.setCell ⟨B, k * 2, none⟩ (.string (S k))).setCell ⟨B, k * 2 + 1, none⟩ (.int .i64 (M k))) B n (k + 1) S M where
  old := by simpa using h.old
  there := fun j hj => by
    by_cases h0 : k * 2 = j
    · subst h0; rw [two_fst (h.there _ hj)]; rfl
    · by_cases h1 : k * 2 + 1 = j
      · subst h1; rw [two_snd (h.there _ hj)]; rfl
      · rw [two_far h0 h1]; exact h.there j hj
  free := fun j hj => by simpa using h.free j hj
  name := fun i hi => by
    by_cases e : i = k
    · subst e; exact two_fst (h.there _ (by omega))
    · rw [two_far (by omega) (by omega)]; exact h.name i (by omega)
  num := fun i hi => by
    by_cases e : i = k
    · subst e; exact two_snd (h.there _ (by omega))
    · rw [two_far (by omega) (by omega)]; exact h.num i (by omega)

theorem OwnAt.new (w : World) (A : Array Value) (e n : Nat) (S : Nat → ByteArray) (M : Nat → Int) (hA : A.size = n * 2) : OwnAt (w.alloc (.cells A e)) w.heap.size n 0 S M where
  old := by simp
  there := fun j hj => by simp [hA, hj]
  free := fun j hj => by simp
  name := fun i hi => by omega
  num := fun i hi => by omega

theorem OwnAt.row {w : World} {B n : Nat} {S : Nat → ByteArray} {M : Nat → Int} (h : OwnAt w B n n S M) (hs : ∀ i, i < n → (S i).size ≤ maxLen) : RowAt w B 0 n S M where
  old := h.old
  name := fun i hi => by rw [Nat.zero_add]; exact h.name i hi
  num := fun i hi => by rw [Nat.zero_add]; exact h.num i hi
  small := hs

theorem make_hosts (n : Nat) (hn : n ≤ 1048576) (w : World) : ∃ A : Array Value, A.size = n * 2 ∧ (Instr.makeSlice 24 (.int .i64 (n : Int)) (.int .i64 (n : Int))).run Try.prog w = .ok (.slice (some ⟨w.heap.size, 0, none⟩) n n) (w.alloc (.cells A 35)) := by
  have hi : (Try.prog.info? 35).map (fun i => (i.zero, i.size, i.bytes)) = some (some (.agg #[.string ⟨#[]⟩, .int .i64 0]), 2, 24) := by kernel_rfl
  obtain ⟨i, h1, hzz⟩ := Option.map_eq_some_iff.1 hi
  simp only [Prod.mk.injEq] at hzz
  obtain ⟨h2, h3, h4⟩ := hzz
  refine ⟨madeCells (Value.cells (.agg #[.string ⟨#[]⟩, .int .i64 0])) (n * 2), size_madeCells _ _, ?_⟩
  have := run_make (P := Try.prog) w 24 35 i _ Try.underlying24 h1 h2 .i64 .i64 n n (by omega) (Int.le_refl _) (by rw [h4]; omega) (by omega)
  rw [h3] at this
  simpa using this

end Go.Proofs.Ytahhjhhnjpbocae
