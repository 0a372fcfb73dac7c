/- DERIVED. The walks of what draws hosts and texts of hosts, further. -/
import Derived.Test.YtahhjhhnjpbocacDrawHost
namespace Go.Proofs.Ytahhjhhnjpbocac
open Go.RowKit

/-- The bytes of a code that came in. -/
def CodeAt (w : World) (oa : Option Addr) (len : Nat) : Prop :=
  ∀ i, i < len → ∃ b off c, oa = some ⟨b, off, none⟩ ∧ b < w.heap.size ∧ w.cell? ⟨b, off + i, none⟩ = some (.int .u8 c) ∧ 0 ≤ c ∧ c ≤ 255

theorem CodeAt.below {w w' : World} {oa : Option Addr} {len : Nat} (h : CodeAt w oa len) (hb : Below w.heap.size w w') : CodeAt w' oa len := by
  intro i hi
  obtain ⟨b, off, c, e, h1, h2, h3⟩ := h i hi
  exact ⟨b, off, c, e, Nat.lt_of_lt_of_le h1 hb.size, by rw [hb.cell (p := ⟨b, off + i, none⟩) h1]; exact h2, h3⟩

theorem rd_new (w : World) (oa : Option Addr) (len cap : Nat) (h : CodeAt w oa len) (hl : len ≤ 2000) (t : Nat) : RdAt (w.alloc (.cells #[.slice oa len cap, .int .i64 0] t)) w.heap.size oa len cap 0 where
  old := by simp
  code := by simp
  place := by simp
  free := by simp
  short := hl
  bytes := fun i hi => by
    obtain ⟨b, off, c, e, h1, h2, h3⟩ := h i hi
    exact ⟨b, off, c, e, by simp; omega, by omega, by rw [World.cell?_alloc_lt (h := h1)]; exact h2, h3⟩

set_option maxHeartbeats 400000 in
theorem open_any (oa : Option Addr) (len cap : Nat) (w : World) (h : CodeAt w oa len) (hc : len ≤ cap) (hm : cap ≤ maxLen) :
    Calls Try.prog 9 #[.slice oa len cap] w fun e w' => e = .returned (.pointer (some ⟨w.heap.size, 0, none⟩)) ∧ (∃ l c, RdAt w' w.heap.size oa l c 0) ∧ Below w.heap.size w w' := by
  have hm' : cap ≤ 2 ^ 63 - 1 := hm
  have HC := hid h
  clear h
  by_cases hl : 2000 < (len : Int)
  · go_enter Try.func9, Try.ntmps9
    go_wp2
    go_ret
    exact ⟨rfl, ⟨2000, cap, rd_new w oa 2000 cap (fun i hi => HC.out i (by omega)) (by omega) _⟩, (Below.refl _ _).alloc (Nat.le_refl _) _⟩
  · go_enter Try.func9, Try.ntmps9
    go_wp2
    go_ret
    exact ⟨rfl, ⟨len, cap, rd_new w oa len cap HC.out (by omega) _⟩, (Below.refl _ _).alloc (Nat.le_refl _) _⟩

/-- Two cells of a block that are there, and may be written. -/
structure TwoAt (w : World) (b : Nat) (x y : Value) : Prop where
  old : b < w.heap.size
  c0 : w.cell? ⟨b, 0, none⟩ = some x
  c1 : w.cell? ⟨b, 1, none⟩ = some y
  f0 : w.frozen? ⟨b, 0, none⟩ = false
  f1 : w.frozen? ⟨b, 1, none⟩ = false

theorem TwoAt.keep {w w' : World} {R b : Nat} {x y : Value} (h : TwoAt w b x y) (k : Keeps R w w') (hb : b ≠ R) : TwoAt w' b x y :=
  ⟨Nat.lt_of_lt_of_le h.old k.size, by rw [k.cell _ _ h.old hb]; exact h.c0, by rw [k.cell _ _ h.old hb]; exact h.c1, by rw [k.frozen _ _ h.old]; exact h.f0, by rw [k.frozen _ _ h.old]; exact h.f1⟩

theorem TwoAt.below {w w' : World} {b : Nat} {x y : Value} (h : TwoAt w b x y) (k : Below w.heap.size w w') : TwoAt w' b x y :=
  ⟨Nat.lt_of_lt_of_le h.old k.size, by rw [k.cell (p := ⟨b, 0, none⟩) h.old]; exact h.c0, by rw [k.cell (p := ⟨b, 1, none⟩) h.old]; exact h.c1, by rw [k.frozen (p := ⟨b, 0, none⟩) h.old]; exact h.f0, by rw [k.frozen (p := ⟨b, 1, none⟩) h.old]; exact h.f1⟩

theorem TwoAt.new (w : World) (x y : Value) (t : Nat) : TwoAt (w.alloc (.cells #[x, y] t)) w.heap.size x y := ⟨by simp, by simp, by simp, by simp, by simp⟩

set_option maxHeartbeats 1000000 in
theorem anyHost_any (R : Nat) (oa : Option Addr) (len cap p : Nat) (w : World) (h : RdAt w R oa len cap p) (hp : p ≤ 999980) :
    Calls Try.prog 20 #[.pointer (some ⟨R, 0, none⟩)] w fun e w' => (∃ (s : ByteArray) (z : Int), e = .returned (.agg #[.string s, .int .i64 z]) ∧ s.size ≤ 7 ∧ -1 ≤ z ∧ z ≤ 1000) ∧ (∃ q, q ≤ p + 5 ∧ Drawn R oa len cap q w w') := by
  have HR := hid h
  have hRo := h.old
  clear h
  go_enter Try.func20, Try.ntmps20
  go_wp2_with fail
  refine (host_any R oa len cap p _ ?_ (by omega)).mono ?_
  · exact HR.out.keep ((Below.refl _ _).alloc (Nat.le_refl _) _)
  rintro e w1 ⟨⟨s, z, rfl, hs, hz0, hz9⟩, hd⟩
  have HT1 : Hid (TwoAt w1 w.heap.size (.string { data := #[] }) (.int .i64 0)) := (TwoAt.new w _ _ _).keep hd.2 (by omega)
  have HD1 : Hid (Drawn R oa len cap (p + 3) w w1) := ⟨hd.1, (Keeps.of_below ((Below.refl _ _).alloc (Nat.le_refl _) _) hRo).trans hd.2⟩
  have hz1 : w.heap.size < w1.heap.size := HT1.out.old
  have hR1 := hd.1.old
  clear hd
  go_wp2_with fail
  refine (pick_any R oa len cap (p + 3) 12 _ ?_ (by omega) (by decide)).mono ?_
  · exact HD1.out.1.keep ((Below.refl _ _).alloc (Nat.le_refl _) _)
  rintro e w2 ⟨⟨x, rfl, hx0, hx1⟩, hd⟩
  have HT2 : Hid (TwoAt w2 w.heap.size (.string { data := #[] }) (.int .i64 0)) := (HT1.out.below ((Below.refl _ _).alloc (Nat.le_refl _) _)).keep hd.2 (by omega)
  have HH2 : Hid (TwoAt w2 w1.heap.size (.string s) (.int .i64 z)) := (TwoAt.new w1 _ _ _).keep hd.2 (by omega)
  have HD2 : Hid (Drawn R oa len cap (p + 4) w w2) := ⟨hd.1, HD1.out.2.trans ((Keeps.of_below ((Below.refl _ _).alloc (Nat.le_refl _) _) hR1).trans hd.2)⟩
  have hz2 : w1.heap.size < w2.heap.size := HH2.out.old
  have hR2 := hd.1.old
  clear hd HD1
  by_cases h0 : x = 0
  · subst h0
    go_wp2_with fail
    refine (of_any R _ 4 7 oa len cap (p + 4) _ ?_ (by omega) (by decide) (by decide) ?_ ?_ ?_).mono ?_
    · exact HD2.out.1.keep ((Below.refl _ _).alloc (Nat.le_refl _) _)
    · simp
    · omega
    · exact strs_new _ _ _ 7 _ 4 (by simp) (by rfl) (by kernel_rfl)
    rintro e w3 ⟨⟨s', rfl, hs'⟩, hd⟩
    have HT3 : Hid (TwoAt w3 w.heap.size (.string { data := #[] }) (.int .i64 0)) := (HT2.out.below ((Below.refl _ _).alloc (Nat.le_refl _) _)).keep hd.2 (by omega)
    have HH3 : Hid (TwoAt w3 w1.heap.size (.string s) (.int .i64 z)) := (HH2.out.below ((Below.refl _ _).alloc (Nat.le_refl _) _)).keep hd.2 (by omega)
    have HD3 : Hid (Drawn R oa len cap (p + 5) w w3) := ⟨hd.1, HD2.out.2.trans ((Keeps.of_below ((Below.refl _ _).alloc (Nat.le_refl _) _) hR2).trans hd.2)⟩
    clear hd
    have t0 := HT3.out.c0
    have t1 := HT3.out.c1
    have t2 := HT3.out.f0
    have t3 := HT3.out.f1
    have u0 := HH3.out.c0
    have u1 := HH3.out.c1
    have u2 := HH3.out.f0
    have u3 := HH3.out.f1
    have hne : w1.heap.size ≠ w.heap.size := by omega
    have hne' : w.heap.size ≠ w1.heap.size := by omega
    go_wp2
    refine bodyPost_ret (v := .agg #[.string s', .int .i64 z]) (by simp [results, Try.results20, go_sem, t0, t1]) rfl ⟨⟨s', z, rfl, hs', by omega, by omega⟩, p + 5, by omega, ?_⟩
    exact ((HD3.out.put HR.out (Nat.le_of_lt hz1) _ _).put HR.out (Nat.le_refl _) _ _).put HR.out (Nat.le_refl _) _ _
  · by_cases h1 : x = 1
    · subst h1
      go_wp2_with fail
      refine (one_any R _ 2 (-1) 1000 oa len cap (p + 4) _ ?_ (by omega) (by decide) (by decide) ?_ ?_ ?_).mono ?_
      · exact HD2.out.1.keep ((Below.refl _ _).alloc (Nat.le_refl _) _)
      · simp
      · omega
      · refine ints_new _ _ _ _ 2 (-1) 1000 (by simp) (by rfl) ?_
        intro v hv
        simp at hv
        rcases hv with rfl | rfl <;> simp [intOk]
      rintro e w3 ⟨⟨z', rfl, hz0', hz9'⟩, hd⟩
      have HT3 : Hid (TwoAt w3 w.heap.size (.string { data := #[] }) (.int .i64 0)) := (HT2.out.below ((Below.refl _ _).alloc (Nat.le_refl _) _)).keep hd.2 (by omega)
      have HH3 : Hid (TwoAt w3 w1.heap.size (.string s) (.int .i64 z)) := (HH2.out.below ((Below.refl _ _).alloc (Nat.le_refl _) _)).keep hd.2 (by omega)
      have HD3 : Hid (Drawn R oa len cap (p + 5) w w3) := ⟨hd.1, HD2.out.2.trans ((Keeps.of_below ((Below.refl _ _).alloc (Nat.le_refl _) _) hR2).trans hd.2)⟩
      clear hd
      have t0 := HT3.out.c0
      have t1 := HT3.out.c1
      have t2 := HT3.out.f0
      have t3 := HT3.out.f1
      have u0 := HH3.out.c0
      have u1 := HH3.out.c1
      have u2 := HH3.out.f0
      have u3 := HH3.out.f1
      have hne : w1.heap.size ≠ w.heap.size := by omega
      have hne' : w.heap.size ≠ w1.heap.size := by omega
      go_wp2
      refine bodyPost_ret (v := .agg #[.string s, .int .i64 z']) (by simp [results, Try.results20, go_sem, t0, t1]) rfl ⟨⟨s, z', rfl, by omega, by omega, by omega⟩, p + 5, by omega, ?_⟩
      exact ((HD3.out.put HR.out (Nat.le_of_lt hz1) _ _).put HR.out (Nat.le_refl _) _ _).put HR.out (Nat.le_refl _) _ _
    · have hb0 : (x == 0) = false := by rw [beq_eq_false_iff_ne]; exact h0
      have hb1 : (x == 1) = false := by rw [beq_eq_false_iff_ne]; exact h1
      clear h0 h1
      have t0 := HT2.out.c0
      have t1 := HT2.out.c1
      have t2 := HT2.out.f0
      have t3 := HT2.out.f1
      have u0 := HH2.out.c0
      have u1 := HH2.out.c1
      have hne : w1.heap.size ≠ w.heap.size := by omega
      have hne' : w.heap.size ≠ w1.heap.size := by omega
      go_wp2
      refine bodyPost_ret (v := .agg #[.string s, .int .i64 z]) (by simp [results, Try.results20, go_sem, t0, t1]) rfl ⟨⟨s, z, rfl, by omega, by omega, by omega⟩, p + 4, by omega, ?_⟩
      exact (HD2.out.put HR.out (Nat.le_refl _) _ _).put HR.out (Nat.le_refl _) _ _

end Go.Proofs.Ytahhjhhnjpbocac
