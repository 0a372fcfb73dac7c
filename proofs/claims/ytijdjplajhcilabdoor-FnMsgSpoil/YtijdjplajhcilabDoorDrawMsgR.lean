/- DERIVED. The walk of what draws a message: l16Msg. -/
import Derived.Test.YtijdjplajhcilabDoorDrawVsM
import Derived.Test.YtijdjplajhcilabDoorGetMsg
namespace Go.Proofs.YtijdjplajhcilabDoor
open Go.RowKit

/-- A message lies in block g, its rows above a base. -/
def MAt (base g : Nat) (w : World) : Prop := ∃ (a b c d e : Int) (o1 o2 : Option Addr) (c1 c2 : Nat) (V : List Int) (L : List Ent) (xs : List Value), w.heap[g]? = some (.cells #[.int .i64 a, .int .i64 b, .int .i64 c, .int .i64 d, .int .i64 e, .slice o1 V.length c1, .slice o2 L.length c2] 26 (0, 0)) ∧ w.ownsRow base 3 1 (.slice o1 V.length c1) V.length (V.map (Value.int .i64)) ∧ w.ownsRow base 53 3 (.slice o2 L.length c2) L.length xs ∧ ECells base w L xs ∧ V.length ≤ 5 ∧ L.length ≤ 5 ∧ o1 = none ∧ L = []

theorem row_ty {w : World} {base : Nat} {e t : TypeId} {size n g : Nat} {v : Value} {xs : List Value} {cur : Array Value} {fz : Nat × Nat} (h : w.ownsRow base e size v n xs) (hg : w.heap[g]? = some (.cells cur t fz)) (hne : e ≠ t) (j : Nat) (u : Value) : (w.setCell ⟨g, j, none⟩ u).ownsRow base e size v n xs := by
  refine ⟨h.1, ?_⟩
  rcases h.2 with h0 | ⟨g', cap, c2, e1, e2, hb, e3⟩
  · exact Or.inl h0
  · refine Or.inr ⟨g', cap, c2, e1, e2, set_other hb g j u ?_, e3⟩
    intro c
    subst c
    rw [hb] at hg
    injection hg with hg
    injection hg with _ h2 _
    exact hne h2

theorem ecells_ty {w : World} {base g : Nat} {t : TypeId} {L : List Ent} {xs : List Value} {cur : Array Value} {fz : Nat × Nat} (h : ECells base w L xs) (hg : w.heap[g]? = some (.cells cur t fz)) (hne : (3 : TypeId) ≠ t) (j : Nat) (u : Value) : ECells base (w.setCell ⟨g, j, none⟩ u) L xs := by
  refine h.kept (fun b cur2 fz2 hb hh => set_other hh g j u ?_)
  intro c
  subst c
  rw [hh] at hg
  injection hg with hg
  injection hg with _ h2 _
  exact hne h2

theorem MAt.keeps {w w' : World} {R base g : Nat} (h : MAt base g w) (k : Keeps R w w') (hR : R < base) (hg : g ≠ R) : MAt base g w' := by
  obtain ⟨a, b, c, d, e, o1, o2, c1, c2, V, L, xs, hm, hv, hl, hx, hV, hL, hN⟩ := h
  exact ⟨a, b, c, d, e, o1, o2, c1, c2, V, L, xs, keeps_block hm k hg, rowv_keeps hv k hR, rowv_keeps hl k hR, hx.kept (kept_keeps k hR), hV, hL, hN⟩

theorem MAt.below {w w' : World} {base g : Nat} (h : MAt base g w) (k : Below w.heap.size w w') : MAt base g w' := by
  obtain ⟨a, b, c, d, e, o1, o2, c1, c2, V, L, xs, hm, hv, hl, hx, hV, hL, hN⟩ := h
  refine ⟨a, b, c, d, e, o1, o2, c1, c2, V, L, xs, ?_, row_below hv k, row_below hl k, hx.kept (fun b cur fz hb hh => kept_below k b cur fz hb hh), hV, hL, hN⟩
  rw [k.block g (Array.getElem?_eq_some_iff.1 hm).1]
  exact hm

theorem neMsgInt : (3 : TypeId) ≠ 26 := by decide
theorem neMsgEnt : (53 : TypeId) ≠ 26 := by decide

theorem MAt.cell {w : World} {base g : Nat} (h : MAt base g w) (j : Nat) (hj : j < 7) : (∃ u, w.cell? ⟨g, j, none⟩ = some u) ∧ w.frozen? ⟨g, j, none⟩ = false := by
  obtain ⟨a, b, c, d, e, o1, o2, c1, c2, V, L, xs, hm, _⟩ := h
  refine ⟨?_, free_block hm j⟩
  rw [in_block hm j]
  match j, hj with
  | 0, _ => exact ⟨_, rfl⟩
  | 1, _ => exact ⟨_, rfl⟩
  | 2, _ => exact ⟨_, rfl⟩
  | 3, _ => exact ⟨_, rfl⟩
  | 4, _ => exact ⟨_, rfl⟩
  | 5, _ => exact ⟨_, rfl⟩
  | 6, _ => exact ⟨_, rfl⟩

theorem MAt.int {w : World} {base g : Nat} (h : MAt base g w) (j : Nat) (hj : j < 5) (z : Int) : MAt base g (w.setCell ⟨g, j, none⟩ (.int .i64 z)) := by
  obtain ⟨a, b, c, d, e, o1, o2, c1, c2, V, L, xs, hm, hv, hl, hx, hV, hL, hN⟩ := h
  have hs := set_block w g j _ _ (.int .i64 z) hm
  have r1 := row_ty hv hm neMsgInt j (.int .i64 z)
  have r2 := row_ty hl hm neMsgEnt j (.int .i64 z)
  have r3 := ecells_ty hx hm neMsgInt j (.int .i64 z)
  match j, hj with
  | 0, _ => exact ⟨z, b, c, d, e, o1, o2, c1, c2, V, L, xs, hs, r1, r2, r3, hV, hL, hN⟩
  | 1, _ => exact ⟨a, z, c, d, e, o1, o2, c1, c2, V, L, xs, hs, r1, r2, r3, hV, hL, hN⟩
  | 2, _ => exact ⟨a, b, z, d, e, o1, o2, c1, c2, V, L, xs, hs, r1, r2, r3, hV, hL, hN⟩
  | 3, _ => exact ⟨a, b, c, z, e, o1, o2, c1, c2, V, L, xs, hs, r1, r2, r3, hV, hL, hN⟩
  | 4, _ => exact ⟨a, b, c, d, z, o1, o2, c1, c2, V, L, xs, hs, r1, r2, r3, hV, hL, hN⟩

/-- A store into the message is one above what was there. -/
theorem Drawn.store {R : Nat} {oa : Option Addr} {len cap q p0 : Nat} {w w1 : World} (h0 : RdAt w R oa len cap p0) (h : Drawn R oa len cap q w w1) (g j : Nat) (u : Value) (hg : w.heap.size ≤ g) : Drawn R oa len cap q w (w1.setCell ⟨g, j, none⟩ u) :=
  Drawn.put h h0 hg j u

theorem ecells_bel {w w' : World} {base : Nat} {L : List Ent} {xs : List Value} (h : ECells base w L xs) (k : Below w.heap.size w w') : ECells base w' L xs :=
  h.kept (fun b cur fz hb hh => kept_below k b cur fz hb hh)

theorem ints_to (W : World) : IntsAt (W.alloc (.cells #[.int .i64 10, .int .i64 11, .int .i64 12, .int .i64 0, .int .i64 1] 3)) W.heap.size 5 (0) 12 := by
  refine ints_new W _ _ _ 5 (0) 12 rfl (by rfl) ?_
  intro v hv
  simp at hv
  rcases hv with rfl | rfl | rfl | rfl | rfl <;> simp [intOk]

theorem ints_inst (W : World) : IntsAt (W.alloc (.cells #[.int .i64 0, .int .i64 0, .int .i64 1, .int .i64 1, .int .i64 2, .int .i64 3, .int .i64 11, .int .i64 12] 3)) W.heap.size 8 (0) 12 := by
  refine ints_new W _ _ _ 8 (0) 12 rfl (by rfl) ?_
  intro v hv
  simp at hv
  rcases hv with rfl | rfl | rfl | rfl | rfl | rfl | rfl | rfl <;> simp [intOk]

theorem ints_stat (W : World) : IntsAt (W.alloc (.cells #[.int .i64 0, .int .i64 1, .int .i64 127, .int .i64 126] 3)) W.heap.size 4 (0) 127 := by
  refine ints_new W _ _ _ 4 (0) 127 rfl (by rfl) ?_
  intro v hv
  simp at hv
  rcases hv with rfl | rfl | rfl | rfl <;> simp [intOk]

set_option maxRecDepth 100000 in
set_option maxHeartbeats 6400000 in
theorem drawMsg_any (R : Nat) (oa : Option Addr) (len cap p : Nat) (many : Int) (w : World) (h : RdAt w R oa len cap p) (hp : p ≤ 80000) (hm0 : 0 ≤ many) (hm3 : many ≤ 3) :
    Calls Tryd.prog 19 #[.pointer (some ⟨R, 0, none⟩), .int .i64 many] w fun ee w' => (∃ (a b c d e : Int) (o1 o2 : Option Addr) (c1 c2 : Nat) (V : List Int) (L : List Ent) (xs : List Value), ee = .returned (.agg #[.int .i64 a, .int .i64 b, .int .i64 c, .int .i64 d, .int .i64 e, .slice o1 V.length c1, .slice o2 L.length c2]) ∧ w'.ownsRow w.heap.size 3 1 (.slice o1 V.length c1) V.length (V.map (Value.int .i64)) ∧ w'.ownsRow w.heap.size 53 3 (.slice o2 L.length c2) L.length xs ∧ ECells w.heap.size w' L xs ∧ V.length ≤ 5 ∧ L.length ≤ 5 ∧ (o1 = none ∨ L = [])) ∧ (∃ q, q ≤ p + 40 ∧ Drawn R oa len cap q w w') := by
  obtain ⟨mn, rfl⟩ : ∃ n : Nat, many = (n : Int) := ⟨many.toNat, by omega⟩
  have hmn : mn ≤ 3 := by omega
  have HR := hid h
  have HRo : Hid (R < w.heap.size) := h.old
  have hal : Below w.heap.size w (w.alloc (.cells #[.int .i64 0, .int .i64 0, .int .i64 0, .int .i64 0, .int .i64 0, .slice none 0 0, .slice none 0 0] 26)) := (Below.refl _ _).alloc (Nat.le_refl _) _
  have HZ0 : Hid ((w.alloc (.cells #[.int .i64 0, .int .i64 0, .int .i64 0, .int .i64 0, .int .i64 0, .slice none 0 0, .slice none 0 0] 26)).heap[w.heap.size]? = some (.cells #[.int .i64 0, .int .i64 0, .int .i64 0, .int .i64 0, .int .i64 0, .slice none 0 0, .slice none 0 0] 26 (0, 0))) := alloc_new _ _
  have HD0 : Hid (Drawn R oa len cap p w (w.alloc (.cells #[.int .i64 0, .int .i64 0, .int .i64 0, .int .i64 0, .int .i64 0, .slice none 0 0, .slice none 0 0] 26))) := ⟨h.keep hal, Keeps.of_below hal h.old⟩
  have HNE : Hid (w.heap.size ≠ R) := by have := h.old; show _ ≠ _; omega
  clear h hal hm0 hm3
  go_enter Tryd.func19, Tryd.ntmps19
  go_wp2_with fail
  refine (pick_any R oa len cap p 9 _ HD0.out.1 (by omega) (by decide)).mono ?_
  rintro e w1 ⟨⟨x, rfl, hx0, hx1⟩, hd⟩
  have HD1 := hid (HD0.out.thenV hd)
  have HZ1 := hid (keeps_block HZ0.out hd.2 HNE.out)
  have hw1 : IntKind.i64.wrap (1 + x) = 1 + x := by rw [IntKind.wrap_i64]; omega
  clear hd
  go_wp2_with fail
  refine (pick_any R oa len cap (p + 1) 3 _ HD1.out.1 (by omega) (by decide)).mono ?_
  rintro e w2 ⟨⟨y, rfl, hy0, hy1⟩, hd⟩
  have HD2 := hid (HD1.out.thenV hd)
  have HZ2 := hid (keeps_block HZ1.out hd.2 HNE.out)
  have hw2 : IntKind.i64.wrap (10 + y) = 10 + y := by rw [IntKind.wrap_i64]; omega
  have hR2 := hd.1.old
  clear hd
  go_wp2_with fail
  refine (one_any R _ 5 0 12 oa len cap (p + 1 + 1) _ (HD2.out.1.keep ((Below.refl _ _).alloc (Nat.le_refl _) _)) (by omega) (by decide) (by decide) ?_ ?_ (ints_to _)).mono ?_
  · simp
  · omega
  rintro e w3 ⟨⟨z2, rfl, _⟩, hd⟩
  have HD3 : Hid (Drawn R oa len cap (p + 3) w w3) := ⟨hd.1, HD2.out.2.trans ((Keeps.of_below ((Below.refl _ _).alloc (Nat.le_refl _) _) hR2).trans hd.2)⟩
  have HZ3 := hid (keeps_block (alloc_keep HZ2.out) hd.2 HNE.out)
  have hR3 := hd.1.old
  clear hd hR2
  go_wp2_with fail
  refine (one_any R _ 8 0 12 oa len cap (p + 3) _ (HD3.out.1.keep ((Below.refl _ _).alloc (Nat.le_refl _) _)) (by omega) (by decide) (by decide) ?_ ?_ (ints_inst _)).mono ?_
  · simp
  · omega
  rintro e w4 ⟨⟨z3, rfl, _⟩, hd⟩
  have HD4 : Hid (Drawn R oa len cap (p + 4) w w4) := ⟨hd.1, HD3.out.2.trans ((Keeps.of_below ((Below.refl _ _).alloc (Nat.le_refl _) _) hR3).trans hd.2)⟩
  have HZ4 := hid (keeps_block (alloc_keep HZ3.out) hd.2 HNE.out)
  have hS4 := HD4.out.2.size
  clear hd hR3
  have HG : Hid (w.heap.size < w4.heap.size) := (Array.getElem?_eq_some_iff.1 HZ4.out).1
  have HGR : Hid (w4.heap.size ≠ R) := by have := HRo.out; have := HG.out; show _ ≠ _; omega
  clear hw1 hS4
  have hx : x = 0 ∨ x = 2 ∨ x = 4 ∨ x = 8 ∨ x = 1 ∨ x = 3 ∨ x = 5 ∨ x = 6 ∨ x = 7 := by omega
  clear hx0 hx1
  rcases hx with rfl | rfl | rfl | rfl | rfl | rfl | rfl | rfl | rfl
  · have hal : Below w4.heap.size w4 (w4.alloc (.cells #[.int .i64 1, .int .i64 (10 + y), .int .i64 z2, .int .i64 0, .int .i64 z3, .slice none 0 0, .slice none 0 0] 26)) := (Below.refl _ _).alloc (Nat.le_refl _) _
    have HM5 : Hid (MAt w.heap.size w4.heap.size (w4.alloc (.cells #[.int .i64 1, .int .i64 (10 + y), .int .i64 z2, .int .i64 0, .int .i64 z3, .slice none 0 0, .slice none 0 0] 26))) := ⟨1, 10 + y, z2, 0, z3, none, none, 0, 0, [], [], [], alloc_new _ _, row_nil _ _ _ _, row_nil _ _ _ _, ⟨rfl, fun i hi => absurd hi (Nat.not_lt_zero _)⟩, by simp, by simp, rfl, rfl⟩
    have HD5 := hid (HD4.out.belowV hal)
    have HZ5 : Hid ((w4.alloc (.cells #[.int .i64 1, .int .i64 (10 + y), .int .i64 z2, .int .i64 0, .int .i64 z3, .slice none 0 0, .slice none 0 0] 26)).heap[w.heap.size]? = some (.cells #[.int .i64 0, .int .i64 0, .int .i64 0, .int .i64 0, .int .i64 0, .slice none 0 0, .slice none 0 0] 26 (0, 0))) := alloc_keep HZ4.out
    clear hal
    go_wp2_with fail
    refine (pick_any R oa len cap (p + 4) 3 _ HD5.out.1 (by omega) (by decide)).mono ?_
    rintro e w6 ⟨⟨x6, rfl, _, _⟩, hd⟩
    have HD6 := hid (HD5.out.thenV hd)
    have HZ6 := hid (keeps_block HZ5.out hd.2 HNE.out)
    have HM6 := hid (HM5.out.keeps hd.2 HRo.out HGR.out)
    have hg6 : w4.heap.size < w6.heap.size := by obtain ⟨_, _, _, _, _, _, _, _, _, _, _, _, hm, _⟩ := HM6.out; exact (Array.getElem?_eq_some_iff.1 hm).1
    clear hd
    obtain ⟨⟨u6, cu6⟩, cf6⟩ := HM6.out.cell 1 (by decide)
    have HM7 := hid (HM6.out.int 1 (by decide) x6)
    have HD7 := hid (Drawn.store HR.out HD6.out w4.heap.size 1 (.int .i64 x6) (Nat.le_of_lt HG.out))
    have HZ7 := hid (set_other HZ6.out w4.heap.size 1 (.int .i64 x6) (Nat.ne_of_lt HG.out))
    have hR7 := HD7.out.1.old
    go_wp2_with fail
    have hsz7 : (w6.setCell ⟨w4.heap.size, 1, none⟩ (.int .i64 x6)).heap.size = w6.heap.size := by simp
    have HI7 := hid (ints_stat (w6.setCell ⟨w4.heap.size, 1, none⟩ (.int .i64 x6)))
    rw [hsz7] at HI7 hR7
    have hal7 : Below (w6.setCell ⟨w4.heap.size, 1, none⟩ (.int .i64 x6)).heap.size (w6.setCell ⟨w4.heap.size, 1, none⟩ (.int .i64 x6)) ((w6.setCell ⟨w4.heap.size, 1, none⟩ (.int .i64 x6)).alloc (.cells #[.int .i64 0, .int .i64 1, .int .i64 127, .int .i64 126] 3)) := (Below.refl _ _).alloc (Nat.le_refl _) _
    have HRK := hid (HD7.out.1.keep hal7)
    have HKK := hid (Keeps.of_below hal7 HD7.out.1.old)
    have hB7 : w6.heap.size < ((w6.setCell ⟨w4.heap.size, 1, none⟩ (.int .i64 x6)).alloc (.cells #[.int .i64 0, .int .i64 1, .int .i64 127, .int .i64 126] 3)).heap.size := by simp
    clear hal7
    refine (one_any R w6.heap.size 4 0 127 oa len cap (p + 4 + 1) _ HRK.out (by omega) (by decide) (by decide) hB7 (Nat.ne_of_gt hR7) HI7.out).mono ?_
    rintro e w8 ⟨⟨x8, rfl, _⟩, hd⟩
    have hk8 := HKK.out.trans hd.2
    have HD8 : Hid (Drawn R oa len cap (p + 4 + 1 + 1) w w8) := ⟨hd.1, HD7.out.2.trans hk8⟩
    have HZ8 := hid (keeps_block HZ7.out hk8 HNE.out)
    have HM8 := hid (HM7.out.keeps hk8 HRo.out HGR.out)
    have hg8 : w4.heap.size < w8.heap.size := by obtain ⟨_, _, _, _, _, _, _, _, _, _, _, _, hm, _⟩ := HM8.out; exact (Array.getElem?_eq_some_iff.1 hm).1
    clear hd hk8 hR7 hB7 hsz7 cu6 cf6
    obtain ⟨a, b, c, d, e, o1, o2, c1, c2, V, L, xs, hm, hv, hl, hx, hV, hL, hN⟩ := HM8.out
    have m0 : w8.cell? ⟨w4.heap.size, 0, none⟩ = some (.int .i64 a) := by rw [in_block hm 0]; rfl
    have m1 : w8.cell? ⟨w4.heap.size, 1, none⟩ = some (.int .i64 b) := by rw [in_block hm 1]; rfl
    have m2 : w8.cell? ⟨w4.heap.size, 2, none⟩ = some (.int .i64 c) := by rw [in_block hm 2]; rfl
    have m3 : w8.cell? ⟨w4.heap.size, 3, none⟩ = some (.int .i64 d) := by rw [in_block hm 3]; rfl
    have m4 : w8.cell? ⟨w4.heap.size, 4, none⟩ = some (.int .i64 e) := by rw [in_block hm 4]; rfl
    have m5 : w8.cell? ⟨w4.heap.size, 5, none⟩ = some (.slice o1 V.length c1) := by rw [in_block hm 5]; rfl
    have m6 : w8.cell? ⟨w4.heap.size, 6, none⟩ = some (.slice o2 L.length c2) := by rw [in_block hm 6]; rfl
    have mf : w8.frozen? ⟨w4.heap.size, 5, none⟩ = false := free_block hm 5
    have z0 : w8.cell? ⟨w.heap.size, 0, none⟩ = some (.int .i64 0) := by rw [in_block HZ8.out 0]; rfl
    have fz0 : w8.frozen? ⟨w.heap.size, 0, none⟩ = false := free_block HZ8.out 0
    have z1 : w8.cell? ⟨w.heap.size, 1, none⟩ = some (.int .i64 0) := by rw [in_block HZ8.out 1]; rfl
    have fz1 : w8.frozen? ⟨w.heap.size, 1, none⟩ = false := free_block HZ8.out 1
    have z2 : w8.cell? ⟨w.heap.size, 2, none⟩ = some (.int .i64 0) := by rw [in_block HZ8.out 2]; rfl
    have fz2 : w8.frozen? ⟨w.heap.size, 2, none⟩ = false := free_block HZ8.out 2
    have z3 : w8.cell? ⟨w.heap.size, 3, none⟩ = some (.int .i64 0) := by rw [in_block HZ8.out 3]; rfl
    have fz3 : w8.frozen? ⟨w.heap.size, 3, none⟩ = false := free_block HZ8.out 3
    have z4 : w8.cell? ⟨w.heap.size, 4, none⟩ = some (.int .i64 0) := by rw [in_block HZ8.out 4]; rfl
    have fz4 : w8.frozen? ⟨w.heap.size, 4, none⟩ = false := free_block HZ8.out 4
    have z5 : w8.cell? ⟨w.heap.size, 5, none⟩ = some (.slice none 0 0) := by rw [in_block HZ8.out 5]; rfl
    have fz5 : w8.frozen? ⟨w.heap.size, 5, none⟩ = false := free_block HZ8.out 5
    have z6 : w8.cell? ⟨w.heap.size, 6, none⟩ = some (.slice none 0 0) := by rw [in_block HZ8.out 6]; rfl
    have fz6 : w8.frozen? ⟨w.heap.size, 6, none⟩ = false := free_block HZ8.out 6
    have hmA := hm
    have hb0 := set_other HZ8.out w4.heap.size 5 (.slice (some ⟨w8.heap.size, 0, none⟩) 1 1) (Nat.ne_of_lt HG.out)
    have hb1 := set_block _ w.heap.size 0 _ _ (.int .i64 a) hb0
    have hb2 := set_block _ w.heap.size 1 _ _ (.int .i64 b) hb1
    have hb3 := set_block _ w.heap.size 2 _ _ (.int .i64 c) hb2
    have hb4 := set_block _ w.heap.size 3 _ _ (.int .i64 d) hb3
    have hb5 := set_block _ w.heap.size 4 _ _ (.int .i64 e) hb4
    have hb6 := set_block _ w.heap.size 5 _ _ (.slice (some ⟨w8.heap.size, 0, none⟩) 1 1) hb5
    obtain ⟨wc, hwc⟩ : ∃ wc, wc = ((((((((w8.setCell ⟨w4.heap.size, 5, none⟩ (.slice (some ⟨w8.heap.size, 0, none⟩) 1 1)).setCell ⟨w.heap.size, 0, none⟩ (.int .i64 a)).setCell ⟨w.heap.size, 1, none⟩ (.int .i64 b)).setCell ⟨w.heap.size, 2, none⟩ (.int .i64 c)).setCell ⟨w.heap.size, 3, none⟩ (.int .i64 d)).setCell ⟨w.heap.size, 4, none⟩ (.int .i64 e)).setCell ⟨w.heap.size, 5, none⟩ (.slice (some ⟨w8.heap.size, 0, none⟩) 1 1)).setCell ⟨w.heap.size, 6, none⟩ (.slice o2 L.length c2)) := ⟨_, rfl⟩
    have hsc : wc.heap.size = w8.heap.size := by rw [hwc]; simp
    have hlw : wc.ownsRow w.heap.size 53 3 (.slice o2 L.length c2) L.length xs := by rw [hwc]; exact row_ty (row_ty (row_ty (row_ty (row_ty (row_ty (row_ty (row_ty (hl) hmA neMsgEnt 5 (.slice (some ⟨w8.heap.size, 0, none⟩) 1 1)) hb0 neMsgEnt 0 (.int .i64 a)) hb1 neMsgEnt 1 (.int .i64 b)) hb2 neMsgEnt 2 (.int .i64 c)) hb3 neMsgEnt 3 (.int .i64 d)) hb4 neMsgEnt 4 (.int .i64 e)) hb5 neMsgEnt 5 (.slice (some ⟨w8.heap.size, 0, none⟩) 1 1)) hb6 neMsgEnt 6 (.slice o2 L.length c2)
    have hxw : ECells w.heap.size wc L xs := by rw [hwc]; exact ecells_ty (ecells_ty (ecells_ty (ecells_ty (ecells_ty (ecells_ty (ecells_ty (ecells_ty (hx) hmA neMsgInt 5 (.slice (some ⟨w8.heap.size, 0, none⟩) 1 1)) hb0 neMsgInt 0 (.int .i64 a)) hb1 neMsgInt 1 (.int .i64 b)) hb2 neMsgInt 2 (.int .i64 c)) hb3 neMsgInt 3 (.int .i64 d)) hb4 neMsgInt 4 (.int .i64 e)) hb5 neMsgInt 5 (.slice (some ⟨w8.heap.size, 0, none⟩) 1 1)) hb6 neMsgInt 6 (.slice o2 L.length c2)
    have hdw : Drawn R oa len cap (p + 4 + 1 + 1) w wc := by rw [hwc]; exact Drawn.store HR.out (Drawn.store HR.out (Drawn.store HR.out (Drawn.store HR.out (Drawn.store HR.out (Drawn.store HR.out (Drawn.store HR.out (Drawn.store HR.out (HD8.out) w4.heap.size 5 (.slice (some ⟨w8.heap.size, 0, none⟩) 1 1) (Nat.le_of_lt HG.out)) w.heap.size 0 (.int .i64 a) (Nat.le_refl _)) w.heap.size 1 (.int .i64 b) (Nat.le_refl _)) w.heap.size 2 (.int .i64 c) (Nat.le_refl _)) w.heap.size 3 (.int .i64 d) (Nat.le_refl _)) w.heap.size 4 (.int .i64 e) (Nat.le_refl _)) w.heap.size 5 (.slice (some ⟨w8.heap.size, 0, none⟩) 1 1) (Nat.le_refl _)) w.heap.size 6 (.slice o2 L.length c2) (Nat.le_refl _)
    have hal : Below wc.heap.size wc (wc.alloc (.cells #[.int .i64 x8] 3)) := (Below.refl _ _).alloc (Nat.le_refl _) _
    have hnb : (wc.alloc (.cells #[.int .i64 x8] 3)).heap[w8.heap.size]? = some (.cells #[.int .i64 x8] 3 (0, 0)) := by rw [← hsc]; exact alloc_new _ _
    have HRN : Hid ((wc.alloc (.cells #[.int .i64 x8] 3)).ownsRow w.heap.size 3 1 (.slice (some ⟨w8.heap.size, 0, none⟩) 1 1) [x8].length ([x8].map (Value.int .i64))) := ⟨rfl, Or.inr ⟨w8.heap.size, 1, #[.int .i64 x8], rfl, HD8.out.2.size, hnb, Nat.le_refl _, by decide, rfl, rfl⟩⟩
    have HLF := hid (row_below hlw hal)
    have HXF := hid (ecells_bel hxw hal)
    have HDF := hid (hdw.belowV hal)
    have HVL : Hid ([x8].length ≤ 5) := by show [x8].length ≤ 5; simp
    have HLLn := hid hL
    have HNN : Hid (some (⟨w8.heap.size, 0, none⟩ : Addr) = none ∨ L = []) := Or.inr hN.2
    have HBF : Hid (((((((((((w8.setCell ⟨w4.heap.size, 5, none⟩ (.slice (some ⟨w8.heap.size, 0, none⟩) 1 1)).setCell ⟨w.heap.size, 0, none⟩ (.int .i64 a)).setCell ⟨w.heap.size, 1, none⟩ (.int .i64 b)).setCell ⟨w.heap.size, 2, none⟩ (.int .i64 c)).setCell ⟨w.heap.size, 3, none⟩ (.int .i64 d)).setCell ⟨w.heap.size, 4, none⟩ (.int .i64 e)).setCell ⟨w.heap.size, 5, none⟩ (.slice (some ⟨w8.heap.size, 0, none⟩) 1 1)).setCell ⟨w.heap.size, 6, none⟩ (.slice o2 L.length c2))).alloc (.cells #[.int .i64 x8] 3)).heap[w.heap.size]? = some (.cells #[.int .i64 a, .int .i64 b, .int .i64 c, .int .i64 d, .int .i64 e, .slice (some ⟨w8.heap.size, 0, none⟩) 1 1, .slice o2 L.length c2] 26 (0, 0))) := alloc_keep (set_block _ w.heap.size 6 _ _ (.slice o2 L.length c2) hb6)
    have HWC := hid hwc
    have hgd : w.heap.size < w8.heap.size := Nat.lt_trans HG.out hg8
    have hga : ¬ w4.heap.size = w.heap.size := Nat.ne_of_gt HG.out
    have hgb : ¬ w.heap.size = w4.heap.size := Nat.ne_of_lt HG.out
    have hgc := HG.out
    have hge : ¬ w.heap.size = w8.heap.size := Nat.ne_of_lt hgd
    have hgf : ¬ w8.heap.size = w.heap.size := Nat.ne_of_gt hgd
    have hgh : ¬ w4.heap.size = w8.heap.size := Nat.ne_of_lt hg8
    have hgi : ¬ w8.heap.size = w4.heap.size := Nat.ne_of_gt hg8
    clear hal hnb hlw hxw hdw hsc hwc hmA hm hv hl hx hV hL hN hb0 hb1 hb2 hb3 hb4 hb5 hb6
    go_wp2
    refine bodyPost_ret (results_cell_row Tryd.results19 _ _ w.heap.size 26 _ _ _ rfl HBF.out Tryd.underlying26 rfl (by kernel_rfl)) rfl ?_
    rw [← HWC.out]
    exact ⟨⟨a, b, c, d, e, some ⟨w8.heap.size, 0, none⟩, o2, 1, c2, [x8], L, xs, rfl, HRN.out, HLF.out, HXF.out, HVL.out, HLLn.out, HNN.out⟩, _, by omega, HDF.out⟩
  · have hal : Below w4.heap.size w4 (w4.alloc (.cells #[.int .i64 3, .int .i64 (10 + y), .int .i64 z2, .int .i64 0, .int .i64 z3, .slice none 0 0, .slice none 0 0] 26)) := (Below.refl _ _).alloc (Nat.le_refl _) _
    have HM5 : Hid (MAt w.heap.size w4.heap.size (w4.alloc (.cells #[.int .i64 3, .int .i64 (10 + y), .int .i64 z2, .int .i64 0, .int .i64 z3, .slice none 0 0, .slice none 0 0] 26))) := ⟨3, 10 + y, z2, 0, z3, none, none, 0, 0, [], [], [], alloc_new _ _, row_nil _ _ _ _, row_nil _ _ _ _, ⟨rfl, fun i hi => absurd hi (Nat.not_lt_zero _)⟩, by simp, by simp, rfl, rfl⟩
    have HD5 := hid (HD4.out.belowV hal)
    have HZ5 : Hid ((w4.alloc (.cells #[.int .i64 3, .int .i64 (10 + y), .int .i64 z2, .int .i64 0, .int .i64 z3, .slice none 0 0, .slice none 0 0] 26)).heap[w.heap.size]? = some (.cells #[.int .i64 0, .int .i64 0, .int .i64 0, .int .i64 0, .int .i64 0, .slice none 0 0, .slice none 0 0] 26 (0, 0))) := alloc_keep HZ4.out
    clear hal
    go_wp2_with fail
    refine (ballot_any R oa len cap (p + 4) _ HD5.out.1 (by omega)).mono ?_
    rintro e w6 ⟨⟨bz, rfl⟩, hd⟩
    have HD6 := hid (HD5.out.thenV hd)
    have HZ6 := hid (keeps_block HZ5.out hd.2 HNE.out)
    have HM6 := hid (HM5.out.keeps hd.2 HRo.out HGR.out)
    have hg6 : w4.heap.size < w6.heap.size := by obtain ⟨_, _, _, _, _, _, _, _, _, _, _, _, hm, _⟩ := HM6.out; exact (Array.getElem?_eq_some_iff.1 hm).1
    clear hd
    obtain ⟨⟨u6, cu6⟩, cf6⟩ := HM6.out.cell 3 (by decide)
    have HM7 := hid (HM6.out.int 3 (by decide) bz)
    have HD7 := hid (Drawn.store HR.out HD6.out w4.heap.size 3 (.int .i64 bz) (Nat.le_of_lt HG.out))
    have HZ7 := hid (set_other HZ6.out w4.heap.size 3 (.int .i64 bz) (Nat.ne_of_lt HG.out))
    go_wp2_with fail
    refine (drawEnts_any R oa len cap (p + 4 + 2) mn _ HD7.out.1 (by omega) hmn).mono ?_
    rintro e w8 ⟨⟨v8, rfl, U, ys, hu, hy, hu3⟩, q8, hq8, hd⟩
    have HD8 := hid (HD7.out.thenV hd)
    have HZ8 := hid (keeps_block HZ7.out hd.2 HNE.out)
    have HM8 := hid (HM7.out.keeps hd.2 HRo.out HGR.out)
    have hg8 : w4.heap.size < w8.heap.size := by obtain ⟨_, _, _, _, _, _, _, _, _, _, _, _, hm, _⟩ := HM8.out; exact (Array.getElem?_eq_some_iff.1 hm).1
    clear hd cu6 cf6
    obtain ⟨ovv, cvv, rfl⟩ := rowv_shape hu
    have hU := row_base hu HD7.out.2.size
    have hY : ECells w.heap.size w8 U ys := ⟨hy.1, fun i hi => by obtain ⟨ov', n', cv', g1, g2, g3, g4, g5, g6⟩ := hy.2 i hi; exact ⟨ov', n', cv', g1, g2, g3, g4, g5, g6.base HD7.out.2.size⟩⟩
    clear hu hy
    obtain ⟨a, b, c, d, e, o1, o2, c1, c2, V, L, xs, hm, hv, hl, hx, hV, hL, hN⟩ := HM8.out
    have m0 : w8.cell? ⟨w4.heap.size, 0, none⟩ = some (.int .i64 a) := by rw [in_block hm 0]; rfl
    have m1 : w8.cell? ⟨w4.heap.size, 1, none⟩ = some (.int .i64 b) := by rw [in_block hm 1]; rfl
    have m2 : w8.cell? ⟨w4.heap.size, 2, none⟩ = some (.int .i64 c) := by rw [in_block hm 2]; rfl
    have m3 : w8.cell? ⟨w4.heap.size, 3, none⟩ = some (.int .i64 d) := by rw [in_block hm 3]; rfl
    have m4 : w8.cell? ⟨w4.heap.size, 4, none⟩ = some (.int .i64 e) := by rw [in_block hm 4]; rfl
    have m5 : w8.cell? ⟨w4.heap.size, 5, none⟩ = some (.slice o1 V.length c1) := by rw [in_block hm 5]; rfl
    have m6 : w8.cell? ⟨w4.heap.size, 6, none⟩ = some (.slice o2 L.length c2) := by rw [in_block hm 6]; rfl
    have mf : w8.frozen? ⟨w4.heap.size, 6, none⟩ = false := free_block hm 6
    have z0 : w8.cell? ⟨w.heap.size, 0, none⟩ = some (.int .i64 0) := by rw [in_block HZ8.out 0]; rfl
    have fz0 : w8.frozen? ⟨w.heap.size, 0, none⟩ = false := free_block HZ8.out 0
    have z1 : w8.cell? ⟨w.heap.size, 1, none⟩ = some (.int .i64 0) := by rw [in_block HZ8.out 1]; rfl
    have fz1 : w8.frozen? ⟨w.heap.size, 1, none⟩ = false := free_block HZ8.out 1
    have z2 : w8.cell? ⟨w.heap.size, 2, none⟩ = some (.int .i64 0) := by rw [in_block HZ8.out 2]; rfl
    have fz2 : w8.frozen? ⟨w.heap.size, 2, none⟩ = false := free_block HZ8.out 2
    have z3 : w8.cell? ⟨w.heap.size, 3, none⟩ = some (.int .i64 0) := by rw [in_block HZ8.out 3]; rfl
    have fz3 : w8.frozen? ⟨w.heap.size, 3, none⟩ = false := free_block HZ8.out 3
    have z4 : w8.cell? ⟨w.heap.size, 4, none⟩ = some (.int .i64 0) := by rw [in_block HZ8.out 4]; rfl
    have fz4 : w8.frozen? ⟨w.heap.size, 4, none⟩ = false := free_block HZ8.out 4
    have z5 : w8.cell? ⟨w.heap.size, 5, none⟩ = some (.slice none 0 0) := by rw [in_block HZ8.out 5]; rfl
    have fz5 : w8.frozen? ⟨w.heap.size, 5, none⟩ = false := free_block HZ8.out 5
    have z6 : w8.cell? ⟨w.heap.size, 6, none⟩ = some (.slice none 0 0) := by rw [in_block HZ8.out 6]; rfl
    have fz6 : w8.frozen? ⟨w.heap.size, 6, none⟩ = false := free_block HZ8.out 6
    have hmA := hm
    have hb0 := set_other (HZ8.out) w4.heap.size 6 (.slice ovv U.length cvv) (Nat.ne_of_lt HG.out)
    have hb1 := set_block _ w.heap.size 0 _ _ (.int .i64 a) hb0
    have hb2 := set_block _ w.heap.size 1 _ _ (.int .i64 b) hb1
    have hb3 := set_block _ w.heap.size 2 _ _ (.int .i64 c) hb2
    have hb4 := set_block _ w.heap.size 3 _ _ (.int .i64 d) hb3
    have hb5 := set_block _ w.heap.size 4 _ _ (.int .i64 e) hb4
    have hb6 := set_block _ w.heap.size 5 _ _ (.slice o1 V.length c1) hb5
    have HVF := hid (row_ty (row_ty (row_ty (row_ty (row_ty (row_ty (row_ty (row_ty (hv) hmA neMsgInt 6 (.slice ovv U.length cvv)) hb0 neMsgInt 0 (.int .i64 a)) hb1 neMsgInt 1 (.int .i64 b)) hb2 neMsgInt 2 (.int .i64 c)) hb3 neMsgInt 3 (.int .i64 d)) hb4 neMsgInt 4 (.int .i64 e)) hb5 neMsgInt 5 (.slice o1 V.length c1)) hb6 neMsgInt 6 (.slice ovv U.length cvv))
    have HLF := hid (row_ty (row_ty (row_ty (row_ty (row_ty (row_ty (row_ty (row_ty (hU) hmA neMsgEnt 6 (.slice ovv U.length cvv)) hb0 neMsgEnt 0 (.int .i64 a)) hb1 neMsgEnt 1 (.int .i64 b)) hb2 neMsgEnt 2 (.int .i64 c)) hb3 neMsgEnt 3 (.int .i64 d)) hb4 neMsgEnt 4 (.int .i64 e)) hb5 neMsgEnt 5 (.slice o1 V.length c1)) hb6 neMsgEnt 6 (.slice ovv U.length cvv))
    have HXF := hid (ecells_ty (ecells_ty (ecells_ty (ecells_ty (ecells_ty (ecells_ty (ecells_ty (ecells_ty (hY) hmA neMsgInt 6 (.slice ovv U.length cvv)) hb0 neMsgInt 0 (.int .i64 a)) hb1 neMsgInt 1 (.int .i64 b)) hb2 neMsgInt 2 (.int .i64 c)) hb3 neMsgInt 3 (.int .i64 d)) hb4 neMsgInt 4 (.int .i64 e)) hb5 neMsgInt 5 (.slice o1 V.length c1)) hb6 neMsgInt 6 (.slice ovv U.length cvv))
    have HDF := hid (Drawn.store HR.out (Drawn.store HR.out (Drawn.store HR.out (Drawn.store HR.out (Drawn.store HR.out (Drawn.store HR.out (Drawn.store HR.out (Drawn.store HR.out (HD8.out) w4.heap.size 6 (.slice ovv U.length cvv) (Nat.le_of_lt HG.out)) w.heap.size 0 (.int .i64 a) (Nat.le_refl _)) w.heap.size 1 (.int .i64 b) (Nat.le_refl _)) w.heap.size 2 (.int .i64 c) (Nat.le_refl _)) w.heap.size 3 (.int .i64 d) (Nat.le_refl _)) w.heap.size 4 (.int .i64 e) (Nat.le_refl _)) w.heap.size 5 (.slice o1 V.length c1) (Nat.le_refl _)) w.heap.size 6 (.slice ovv U.length cvv) (Nat.le_refl _))
    have HVL := hid (hV)
    have HLLn := hid ((show U.length ≤ 5 by omega))
    have HNN : Hid (o1 = none ∨ U = []) := Or.inl hN.1
    clear hU hY hu3 hmA hm hv hl hx hV hL hN hb0 hb1 hb2 hb3 hb4 hb5 hb6
    have hga : ¬ w4.heap.size = w.heap.size := Nat.ne_of_gt HG.out
    have hgb : ¬ w.heap.size = w4.heap.size := Nat.ne_of_lt HG.out
    have hgc := HG.out
    go_wp2
    refine bodyPost_ret (v := .agg #[.int .i64 a, .int .i64 b, .int .i64 c, .int .i64 d, .int .i64 e, .slice o1 V.length c1, .slice ovv U.length cvv]) (by simp [results, Tryd.results19, go_sem, z0, z1, z2, z3, z4, z5, z6]) rfl ?_
    exact ⟨⟨a, b, c, d, e, o1, ovv, c1, cvv, V, U, ys, rfl, HVF.out, HLF.out, HXF.out, HVL.out, HLLn.out, HNN.out⟩, _, by omega, HDF.out⟩
  · have hal : Below w4.heap.size w4 (w4.alloc (.cells #[.int .i64 5, .int .i64 (10 + y), .int .i64 z2, .int .i64 0, .int .i64 z3, .slice none 0 0, .slice none 0 0] 26)) := (Below.refl _ _).alloc (Nat.le_refl _) _
    have HM5 : Hid (MAt w.heap.size w4.heap.size (w4.alloc (.cells #[.int .i64 5, .int .i64 (10 + y), .int .i64 z2, .int .i64 0, .int .i64 z3, .slice none 0 0, .slice none 0 0] 26))) := ⟨5, 10 + y, z2, 0, z3, none, none, 0, 0, [], [], [], alloc_new _ _, row_nil _ _ _ _, row_nil _ _ _ _, ⟨rfl, fun i hi => absurd hi (Nat.not_lt_zero _)⟩, by simp, by simp, rfl, rfl⟩
    have HD5 := hid (HD4.out.belowV hal)
    have HZ5 : Hid ((w4.alloc (.cells #[.int .i64 5, .int .i64 (10 + y), .int .i64 z2, .int .i64 0, .int .i64 z3, .slice none 0 0, .slice none 0 0] 26)).heap[w.heap.size]? = some (.cells #[.int .i64 0, .int .i64 0, .int .i64 0, .int .i64 0, .int .i64 0, .slice none 0 0, .slice none 0 0] 26 (0, 0))) := alloc_keep HZ4.out
    clear hal
    go_wp2_with fail
    refine (ballot_any R oa len cap (p + 4) _ HD5.out.1 (by omega)).mono ?_
    rintro e w6 ⟨⟨bz, rfl⟩, hd⟩
    have HD6 := hid (HD5.out.thenV hd)
    have HZ6 := hid (keeps_block HZ5.out hd.2 HNE.out)
    have HM6 := hid (HM5.out.keeps hd.2 HRo.out HGR.out)
    have hg6 : w4.heap.size < w6.heap.size := by obtain ⟨_, _, _, _, _, _, _, _, _, _, _, _, hm, _⟩ := HM6.out; exact (Array.getElem?_eq_some_iff.1 hm).1
    clear hd
    obtain ⟨⟨u6, cu6⟩, cf6⟩ := HM6.out.cell 3 (by decide)
    have HM7 := hid (HM6.out.int 3 (by decide) bz)
    have HD7 := hid (Drawn.store HR.out HD6.out w4.heap.size 3 (.int .i64 bz) (Nat.le_of_lt HG.out))
    have HZ7 := hid (set_other HZ6.out w4.heap.size 3 (.int .i64 bz) (Nat.ne_of_lt HG.out))
    go_wp2_with fail
    refine (votes_any R oa len cap (p + 4 + 2) mn _ HD7.out.1 (by omega) hmn).mono ?_
    rintro e w8 ⟨⟨v8, rfl, U, hu, hu3⟩, q8, hq8, hd⟩
    have HD8 := hid (HD7.out.thenV hd)
    have HZ8 := hid (keeps_block HZ7.out hd.2 HNE.out)
    have HM8 := hid (HM7.out.keeps hd.2 HRo.out HGR.out)
    have hg8 : w4.heap.size < w8.heap.size := by obtain ⟨_, _, _, _, _, _, _, _, _, _, _, _, hm, _⟩ := HM8.out; exact (Array.getElem?_eq_some_iff.1 hm).1
    clear hd cu6 cf6
    obtain ⟨ovv, cvv, rfl⟩ := rowv_shape hu
    have hU := row_base hu HD7.out.2.size
    clear hu
    obtain ⟨a, b, c, d, e, o1, o2, c1, c2, V, L, xs, hm, hv, hl, hx, hV, hL, hN⟩ := HM8.out
    have m0 : w8.cell? ⟨w4.heap.size, 0, none⟩ = some (.int .i64 a) := by rw [in_block hm 0]; rfl
    have m1 : w8.cell? ⟨w4.heap.size, 1, none⟩ = some (.int .i64 b) := by rw [in_block hm 1]; rfl
    have m2 : w8.cell? ⟨w4.heap.size, 2, none⟩ = some (.int .i64 c) := by rw [in_block hm 2]; rfl
    have m3 : w8.cell? ⟨w4.heap.size, 3, none⟩ = some (.int .i64 d) := by rw [in_block hm 3]; rfl
    have m4 : w8.cell? ⟨w4.heap.size, 4, none⟩ = some (.int .i64 e) := by rw [in_block hm 4]; rfl
    have m5 : w8.cell? ⟨w4.heap.size, 5, none⟩ = some (.slice o1 V.length c1) := by rw [in_block hm 5]; rfl
    have m6 : w8.cell? ⟨w4.heap.size, 6, none⟩ = some (.slice o2 L.length c2) := by rw [in_block hm 6]; rfl
    have mf : w8.frozen? ⟨w4.heap.size, 5, none⟩ = false := free_block hm 5
    have z0 : w8.cell? ⟨w.heap.size, 0, none⟩ = some (.int .i64 0) := by rw [in_block HZ8.out 0]; rfl
    have fz0 : w8.frozen? ⟨w.heap.size, 0, none⟩ = false := free_block HZ8.out 0
    have z1 : w8.cell? ⟨w.heap.size, 1, none⟩ = some (.int .i64 0) := by rw [in_block HZ8.out 1]; rfl
    have fz1 : w8.frozen? ⟨w.heap.size, 1, none⟩ = false := free_block HZ8.out 1
    have z2 : w8.cell? ⟨w.heap.size, 2, none⟩ = some (.int .i64 0) := by rw [in_block HZ8.out 2]; rfl
    have fz2 : w8.frozen? ⟨w.heap.size, 2, none⟩ = false := free_block HZ8.out 2
    have z3 : w8.cell? ⟨w.heap.size, 3, none⟩ = some (.int .i64 0) := by rw [in_block HZ8.out 3]; rfl
    have fz3 : w8.frozen? ⟨w.heap.size, 3, none⟩ = false := free_block HZ8.out 3
    have z4 : w8.cell? ⟨w.heap.size, 4, none⟩ = some (.int .i64 0) := by rw [in_block HZ8.out 4]; rfl
    have fz4 : w8.frozen? ⟨w.heap.size, 4, none⟩ = false := free_block HZ8.out 4
    have z5 : w8.cell? ⟨w.heap.size, 5, none⟩ = some (.slice none 0 0) := by rw [in_block HZ8.out 5]; rfl
    have fz5 : w8.frozen? ⟨w.heap.size, 5, none⟩ = false := free_block HZ8.out 5
    have z6 : w8.cell? ⟨w.heap.size, 6, none⟩ = some (.slice none 0 0) := by rw [in_block HZ8.out 6]; rfl
    have fz6 : w8.frozen? ⟨w.heap.size, 6, none⟩ = false := free_block HZ8.out 6
    have hmA := hm
    have hb0 := set_other (HZ8.out) w4.heap.size 5 (.slice ovv U.length cvv) (Nat.ne_of_lt HG.out)
    have hb1 := set_block _ w.heap.size 0 _ _ (.int .i64 a) hb0
    have hb2 := set_block _ w.heap.size 1 _ _ (.int .i64 b) hb1
    have hb3 := set_block _ w.heap.size 2 _ _ (.int .i64 c) hb2
    have hb4 := set_block _ w.heap.size 3 _ _ (.int .i64 d) hb3
    have hb5 := set_block _ w.heap.size 4 _ _ (.int .i64 e) hb4
    have hb6 := set_block _ w.heap.size 5 _ _ (.slice ovv U.length cvv) hb5
    have HVF := hid (row_ty (row_ty (row_ty (row_ty (row_ty (row_ty (row_ty (row_ty (hU) hmA neMsgInt 5 (.slice ovv U.length cvv)) hb0 neMsgInt 0 (.int .i64 a)) hb1 neMsgInt 1 (.int .i64 b)) hb2 neMsgInt 2 (.int .i64 c)) hb3 neMsgInt 3 (.int .i64 d)) hb4 neMsgInt 4 (.int .i64 e)) hb5 neMsgInt 5 (.slice ovv U.length cvv)) hb6 neMsgInt 6 (.slice o2 L.length c2))
    have HLF := hid (row_ty (row_ty (row_ty (row_ty (row_ty (row_ty (row_ty (row_ty (hl) hmA neMsgEnt 5 (.slice ovv U.length cvv)) hb0 neMsgEnt 0 (.int .i64 a)) hb1 neMsgEnt 1 (.int .i64 b)) hb2 neMsgEnt 2 (.int .i64 c)) hb3 neMsgEnt 3 (.int .i64 d)) hb4 neMsgEnt 4 (.int .i64 e)) hb5 neMsgEnt 5 (.slice ovv U.length cvv)) hb6 neMsgEnt 6 (.slice o2 L.length c2))
    have HXF := hid (ecells_ty (ecells_ty (ecells_ty (ecells_ty (ecells_ty (ecells_ty (ecells_ty (ecells_ty (hx) hmA neMsgInt 5 (.slice ovv U.length cvv)) hb0 neMsgInt 0 (.int .i64 a)) hb1 neMsgInt 1 (.int .i64 b)) hb2 neMsgInt 2 (.int .i64 c)) hb3 neMsgInt 3 (.int .i64 d)) hb4 neMsgInt 4 (.int .i64 e)) hb5 neMsgInt 5 (.slice ovv U.length cvv)) hb6 neMsgInt 6 (.slice o2 L.length c2))
    have HDF := hid (Drawn.store HR.out (Drawn.store HR.out (Drawn.store HR.out (Drawn.store HR.out (Drawn.store HR.out (Drawn.store HR.out (Drawn.store HR.out (Drawn.store HR.out (HD8.out) w4.heap.size 5 (.slice ovv U.length cvv) (Nat.le_of_lt HG.out)) w.heap.size 0 (.int .i64 a) (Nat.le_refl _)) w.heap.size 1 (.int .i64 b) (Nat.le_refl _)) w.heap.size 2 (.int .i64 c) (Nat.le_refl _)) w.heap.size 3 (.int .i64 d) (Nat.le_refl _)) w.heap.size 4 (.int .i64 e) (Nat.le_refl _)) w.heap.size 5 (.slice ovv U.length cvv) (Nat.le_refl _)) w.heap.size 6 (.slice o2 L.length c2) (Nat.le_refl _))
    have HVL := hid ((show U.length ≤ 5 by omega))
    have HLLn := hid (hL)
    have HNN : Hid (ovv = none ∨ L = []) := Or.inr hN.2
    clear hU hu3 hmA hm hv hl hx hV hL hN hb0 hb1 hb2 hb3 hb4 hb5 hb6
    have hga : ¬ w4.heap.size = w.heap.size := Nat.ne_of_gt HG.out
    have hgb : ¬ w.heap.size = w4.heap.size := Nat.ne_of_lt HG.out
    have hgc := HG.out
    go_wp2
    refine bodyPost_ret (v := .agg #[.int .i64 a, .int .i64 b, .int .i64 c, .int .i64 d, .int .i64 e, .slice ovv U.length cvv, .slice o2 L.length c2]) (by simp [results, Tryd.results19, go_sem, z0, z1, z2, z3, z4, z5, z6]) rfl ?_
    exact ⟨⟨a, b, c, d, e, ovv, o2, cvv, c2, U, L, xs, rfl, HVF.out, HLF.out, HXF.out, HVL.out, HLLn.out, HNN.out⟩, _, by omega, HDF.out⟩
  · have hal : Below w4.heap.size w4 (w4.alloc (.cells #[.int .i64 9, .int .i64 (10 + y), .int .i64 z2, .int .i64 0, .int .i64 z3, .slice none 0 0, .slice none 0 0] 26)) := (Below.refl _ _).alloc (Nat.le_refl _) _
    have HM5 : Hid (MAt w.heap.size w4.heap.size (w4.alloc (.cells #[.int .i64 9, .int .i64 (10 + y), .int .i64 z2, .int .i64 0, .int .i64 z3, .slice none 0 0, .slice none 0 0] 26))) := ⟨9, 10 + y, z2, 0, z3, none, none, 0, 0, [], [], [], alloc_new _ _, row_nil _ _ _ _, row_nil _ _ _ _, ⟨rfl, fun i hi => absurd hi (Nat.not_lt_zero _)⟩, by simp, by simp, rfl, rfl⟩
    have HD5 := hid (HD4.out.belowV hal)
    have HZ5 : Hid ((w4.alloc (.cells #[.int .i64 9, .int .i64 (10 + y), .int .i64 z2, .int .i64 0, .int .i64 z3, .slice none 0 0, .slice none 0 0] 26)).heap[w.heap.size]? = some (.cells #[.int .i64 0, .int .i64 0, .int .i64 0, .int .i64 0, .int .i64 0, .slice none 0 0, .slice none 0 0] 26 (0, 0))) := alloc_keep HZ4.out
    clear hal
    go_wp2_with fail
    refine (votes_any R oa len cap (p + 4) mn _ HD5.out.1 (by omega) hmn).mono ?_
    rintro e w6 ⟨⟨v6, rfl, U, hu, hu3⟩, q6, hq6, hd⟩
    have HD6 := hid (HD5.out.thenV hd)
    have HZ6 := hid (keeps_block HZ5.out hd.2 HNE.out)
    have HM6 := hid (HM5.out.keeps hd.2 HRo.out HGR.out)
    have hg6 : w4.heap.size < w6.heap.size := by obtain ⟨_, _, _, _, _, _, _, _, _, _, _, _, hm, _⟩ := HM6.out; exact (Array.getElem?_eq_some_iff.1 hm).1
    clear hd
    obtain ⟨ovv, cvv, rfl⟩ := rowv_shape hu
    have hU := row_base hu HD5.out.2.size
    clear hu
    obtain ⟨a, b, c, d, e, o1, o2, c1, c2, V, L, xs, hm, hv, hl, hx, hV, hL, hN⟩ := HM6.out
    have m0 : w6.cell? ⟨w4.heap.size, 0, none⟩ = some (.int .i64 a) := by rw [in_block hm 0]; rfl
    have m1 : w6.cell? ⟨w4.heap.size, 1, none⟩ = some (.int .i64 b) := by rw [in_block hm 1]; rfl
    have m2 : w6.cell? ⟨w4.heap.size, 2, none⟩ = some (.int .i64 c) := by rw [in_block hm 2]; rfl
    have m3 : w6.cell? ⟨w4.heap.size, 3, none⟩ = some (.int .i64 d) := by rw [in_block hm 3]; rfl
    have m4 : w6.cell? ⟨w4.heap.size, 4, none⟩ = some (.int .i64 e) := by rw [in_block hm 4]; rfl
    have m5 : w6.cell? ⟨w4.heap.size, 5, none⟩ = some (.slice o1 V.length c1) := by rw [in_block hm 5]; rfl
    have m6 : w6.cell? ⟨w4.heap.size, 6, none⟩ = some (.slice o2 L.length c2) := by rw [in_block hm 6]; rfl
    have mf : w6.frozen? ⟨w4.heap.size, 5, none⟩ = false := free_block hm 5
    have z0 : w6.cell? ⟨w.heap.size, 0, none⟩ = some (.int .i64 0) := by rw [in_block HZ6.out 0]; rfl
    have fz0 : w6.frozen? ⟨w.heap.size, 0, none⟩ = false := free_block HZ6.out 0
    have z1 : w6.cell? ⟨w.heap.size, 1, none⟩ = some (.int .i64 0) := by rw [in_block HZ6.out 1]; rfl
    have fz1 : w6.frozen? ⟨w.heap.size, 1, none⟩ = false := free_block HZ6.out 1
    have z2 : w6.cell? ⟨w.heap.size, 2, none⟩ = some (.int .i64 0) := by rw [in_block HZ6.out 2]; rfl
    have fz2 : w6.frozen? ⟨w.heap.size, 2, none⟩ = false := free_block HZ6.out 2
    have z3 : w6.cell? ⟨w.heap.size, 3, none⟩ = some (.int .i64 0) := by rw [in_block HZ6.out 3]; rfl
    have fz3 : w6.frozen? ⟨w.heap.size, 3, none⟩ = false := free_block HZ6.out 3
    have z4 : w6.cell? ⟨w.heap.size, 4, none⟩ = some (.int .i64 0) := by rw [in_block HZ6.out 4]; rfl
    have fz4 : w6.frozen? ⟨w.heap.size, 4, none⟩ = false := free_block HZ6.out 4
    have z5 : w6.cell? ⟨w.heap.size, 5, none⟩ = some (.slice none 0 0) := by rw [in_block HZ6.out 5]; rfl
    have fz5 : w6.frozen? ⟨w.heap.size, 5, none⟩ = false := free_block HZ6.out 5
    have z6 : w6.cell? ⟨w.heap.size, 6, none⟩ = some (.slice none 0 0) := by rw [in_block HZ6.out 6]; rfl
    have fz6 : w6.frozen? ⟨w.heap.size, 6, none⟩ = false := free_block HZ6.out 6
    have hmA := hm
    have hb0 := set_other (HZ6.out) w4.heap.size 5 (.slice ovv U.length cvv) (Nat.ne_of_lt HG.out)
    have hb1 := set_block _ w.heap.size 0 _ _ (.int .i64 a) hb0
    have hb2 := set_block _ w.heap.size 1 _ _ (.int .i64 b) hb1
    have hb3 := set_block _ w.heap.size 2 _ _ (.int .i64 c) hb2
    have hb4 := set_block _ w.heap.size 3 _ _ (.int .i64 d) hb3
    have hb5 := set_block _ w.heap.size 4 _ _ (.int .i64 e) hb4
    have hb6 := set_block _ w.heap.size 5 _ _ (.slice ovv U.length cvv) hb5
    have HVF := hid (row_ty (row_ty (row_ty (row_ty (row_ty (row_ty (row_ty (row_ty (hU) hmA neMsgInt 5 (.slice ovv U.length cvv)) hb0 neMsgInt 0 (.int .i64 a)) hb1 neMsgInt 1 (.int .i64 b)) hb2 neMsgInt 2 (.int .i64 c)) hb3 neMsgInt 3 (.int .i64 d)) hb4 neMsgInt 4 (.int .i64 e)) hb5 neMsgInt 5 (.slice ovv U.length cvv)) hb6 neMsgInt 6 (.slice o2 L.length c2))
    have HLF := hid (row_ty (row_ty (row_ty (row_ty (row_ty (row_ty (row_ty (row_ty (hl) hmA neMsgEnt 5 (.slice ovv U.length cvv)) hb0 neMsgEnt 0 (.int .i64 a)) hb1 neMsgEnt 1 (.int .i64 b)) hb2 neMsgEnt 2 (.int .i64 c)) hb3 neMsgEnt 3 (.int .i64 d)) hb4 neMsgEnt 4 (.int .i64 e)) hb5 neMsgEnt 5 (.slice ovv U.length cvv)) hb6 neMsgEnt 6 (.slice o2 L.length c2))
    have HXF := hid (ecells_ty (ecells_ty (ecells_ty (ecells_ty (ecells_ty (ecells_ty (ecells_ty (ecells_ty (hx) hmA neMsgInt 5 (.slice ovv U.length cvv)) hb0 neMsgInt 0 (.int .i64 a)) hb1 neMsgInt 1 (.int .i64 b)) hb2 neMsgInt 2 (.int .i64 c)) hb3 neMsgInt 3 (.int .i64 d)) hb4 neMsgInt 4 (.int .i64 e)) hb5 neMsgInt 5 (.slice ovv U.length cvv)) hb6 neMsgInt 6 (.slice o2 L.length c2))
    have HDF := hid (Drawn.store HR.out (Drawn.store HR.out (Drawn.store HR.out (Drawn.store HR.out (Drawn.store HR.out (Drawn.store HR.out (Drawn.store HR.out (Drawn.store HR.out (HD6.out) w4.heap.size 5 (.slice ovv U.length cvv) (Nat.le_of_lt HG.out)) w.heap.size 0 (.int .i64 a) (Nat.le_refl _)) w.heap.size 1 (.int .i64 b) (Nat.le_refl _)) w.heap.size 2 (.int .i64 c) (Nat.le_refl _)) w.heap.size 3 (.int .i64 d) (Nat.le_refl _)) w.heap.size 4 (.int .i64 e) (Nat.le_refl _)) w.heap.size 5 (.slice ovv U.length cvv) (Nat.le_refl _)) w.heap.size 6 (.slice o2 L.length c2) (Nat.le_refl _))
    have HVL := hid ((show U.length ≤ 5 by omega))
    have HLLn := hid (hL)
    have HNN : Hid (ovv = none ∨ L = []) := Or.inr hN.2
    clear hU hu3 hmA hm hv hl hx hV hL hN hb0 hb1 hb2 hb3 hb4 hb5 hb6
    have hga : ¬ w4.heap.size = w.heap.size := Nat.ne_of_gt HG.out
    have hgb : ¬ w.heap.size = w4.heap.size := Nat.ne_of_lt HG.out
    have hgc := HG.out
    go_wp2
    refine bodyPost_ret (v := .agg #[.int .i64 a, .int .i64 b, .int .i64 c, .int .i64 d, .int .i64 e, .slice ovv U.length cvv, .slice o2 L.length c2]) (by simp [results, Tryd.results19, go_sem, z0, z1, z2, z3, z4, z5, z6]) rfl ?_
    exact ⟨⟨a, b, c, d, e, ovv, o2, cvv, c2, U, L, xs, rfl, HVF.out, HLF.out, HXF.out, HVL.out, HLLn.out, HNN.out⟩, _, by omega, HDF.out⟩
  · have hal : Below w4.heap.size w4 (w4.alloc (.cells #[.int .i64 2, .int .i64 (10 + y), .int .i64 z2, .int .i64 0, .int .i64 z3, .slice none 0 0, .slice none 0 0] 26)) := (Below.refl _ _).alloc (Nat.le_refl _) _
    have HM5 : Hid (MAt w.heap.size w4.heap.size (w4.alloc (.cells #[.int .i64 2, .int .i64 (10 + y), .int .i64 z2, .int .i64 0, .int .i64 z3, .slice none 0 0, .slice none 0 0] 26))) := ⟨2, 10 + y, z2, 0, z3, none, none, 0, 0, [], [], [], alloc_new _ _, row_nil _ _ _ _, row_nil _ _ _ _, ⟨rfl, fun i hi => absurd hi (Nat.not_lt_zero _)⟩, by simp, by simp, rfl, rfl⟩
    have HD5 := hid (HD4.out.belowV hal)
    have HZ5 : Hid ((w4.alloc (.cells #[.int .i64 2, .int .i64 (10 + y), .int .i64 z2, .int .i64 0, .int .i64 z3, .slice none 0 0, .slice none 0 0] 26)).heap[w.heap.size]? = some (.cells #[.int .i64 0, .int .i64 0, .int .i64 0, .int .i64 0, .int .i64 0, .slice none 0 0, .slice none 0 0] 26 (0, 0))) := alloc_keep HZ4.out
    clear hal
    go_wp2_with fail
    refine (ballot_any R oa len cap (p + 4) _ HD5.out.1 (by omega)).mono ?_
    rintro e w6 ⟨⟨bz, rfl⟩, hd⟩
    have HD6 := hid (HD5.out.thenV hd)
    have HZ6 := hid (keeps_block HZ5.out hd.2 HNE.out)
    have HM6 := hid (HM5.out.keeps hd.2 HRo.out HGR.out)
    have hg6 : w4.heap.size < w6.heap.size := by obtain ⟨_, _, _, _, _, _, _, _, _, _, _, _, hm, _⟩ := HM6.out; exact (Array.getElem?_eq_some_iff.1 hm).1
    clear hd
    obtain ⟨a, b, c, d, e, o1, o2, c1, c2, V, L, xs, hm, hv, hl, hx, hV, hL, hN⟩ := HM6.out
    have m0 : w6.cell? ⟨w4.heap.size, 0, none⟩ = some (.int .i64 a) := by rw [in_block hm 0]; rfl
    have m1 : w6.cell? ⟨w4.heap.size, 1, none⟩ = some (.int .i64 b) := by rw [in_block hm 1]; rfl
    have m2 : w6.cell? ⟨w4.heap.size, 2, none⟩ = some (.int .i64 c) := by rw [in_block hm 2]; rfl
    have m3 : w6.cell? ⟨w4.heap.size, 3, none⟩ = some (.int .i64 d) := by rw [in_block hm 3]; rfl
    have m4 : w6.cell? ⟨w4.heap.size, 4, none⟩ = some (.int .i64 e) := by rw [in_block hm 4]; rfl
    have m5 : w6.cell? ⟨w4.heap.size, 5, none⟩ = some (.slice o1 V.length c1) := by rw [in_block hm 5]; rfl
    have m6 : w6.cell? ⟨w4.heap.size, 6, none⟩ = some (.slice o2 L.length c2) := by rw [in_block hm 6]; rfl
    have mf : w6.frozen? ⟨w4.heap.size, 3, none⟩ = false := free_block hm 3
    have z0 : w6.cell? ⟨w.heap.size, 0, none⟩ = some (.int .i64 0) := by rw [in_block HZ6.out 0]; rfl
    have fz0 : w6.frozen? ⟨w.heap.size, 0, none⟩ = false := free_block HZ6.out 0
    have z1 : w6.cell? ⟨w.heap.size, 1, none⟩ = some (.int .i64 0) := by rw [in_block HZ6.out 1]; rfl
    have fz1 : w6.frozen? ⟨w.heap.size, 1, none⟩ = false := free_block HZ6.out 1
    have z2 : w6.cell? ⟨w.heap.size, 2, none⟩ = some (.int .i64 0) := by rw [in_block HZ6.out 2]; rfl
    have fz2 : w6.frozen? ⟨w.heap.size, 2, none⟩ = false := free_block HZ6.out 2
    have z3 : w6.cell? ⟨w.heap.size, 3, none⟩ = some (.int .i64 0) := by rw [in_block HZ6.out 3]; rfl
    have fz3 : w6.frozen? ⟨w.heap.size, 3, none⟩ = false := free_block HZ6.out 3
    have z4 : w6.cell? ⟨w.heap.size, 4, none⟩ = some (.int .i64 0) := by rw [in_block HZ6.out 4]; rfl
    have fz4 : w6.frozen? ⟨w.heap.size, 4, none⟩ = false := free_block HZ6.out 4
    have z5 : w6.cell? ⟨w.heap.size, 5, none⟩ = some (.slice none 0 0) := by rw [in_block HZ6.out 5]; rfl
    have fz5 : w6.frozen? ⟨w.heap.size, 5, none⟩ = false := free_block HZ6.out 5
    have z6 : w6.cell? ⟨w.heap.size, 6, none⟩ = some (.slice none 0 0) := by rw [in_block HZ6.out 6]; rfl
    have fz6 : w6.frozen? ⟨w.heap.size, 6, none⟩ = false := free_block HZ6.out 6
    have hmA := hm
    have hb0 := set_other (HZ6.out) w4.heap.size 3 (.int .i64 bz) (Nat.ne_of_lt HG.out)
    have hb1 := set_block _ w.heap.size 0 _ _ (.int .i64 a) hb0
    have hb2 := set_block _ w.heap.size 1 _ _ (.int .i64 b) hb1
    have hb3 := set_block _ w.heap.size 2 _ _ (.int .i64 c) hb2
    have hb4 := set_block _ w.heap.size 3 _ _ (.int .i64 bz) hb3
    have hb5 := set_block _ w.heap.size 4 _ _ (.int .i64 e) hb4
    have hb6 := set_block _ w.heap.size 5 _ _ (.slice o1 V.length c1) hb5
    have HVF := hid (row_ty (row_ty (row_ty (row_ty (row_ty (row_ty (row_ty (row_ty (hv) hmA neMsgInt 3 (.int .i64 bz)) hb0 neMsgInt 0 (.int .i64 a)) hb1 neMsgInt 1 (.int .i64 b)) hb2 neMsgInt 2 (.int .i64 c)) hb3 neMsgInt 3 (.int .i64 bz)) hb4 neMsgInt 4 (.int .i64 e)) hb5 neMsgInt 5 (.slice o1 V.length c1)) hb6 neMsgInt 6 (.slice o2 L.length c2))
    have HLF := hid (row_ty (row_ty (row_ty (row_ty (row_ty (row_ty (row_ty (row_ty (hl) hmA neMsgEnt 3 (.int .i64 bz)) hb0 neMsgEnt 0 (.int .i64 a)) hb1 neMsgEnt 1 (.int .i64 b)) hb2 neMsgEnt 2 (.int .i64 c)) hb3 neMsgEnt 3 (.int .i64 bz)) hb4 neMsgEnt 4 (.int .i64 e)) hb5 neMsgEnt 5 (.slice o1 V.length c1)) hb6 neMsgEnt 6 (.slice o2 L.length c2))
    have HXF := hid (ecells_ty (ecells_ty (ecells_ty (ecells_ty (ecells_ty (ecells_ty (ecells_ty (ecells_ty (hx) hmA neMsgInt 3 (.int .i64 bz)) hb0 neMsgInt 0 (.int .i64 a)) hb1 neMsgInt 1 (.int .i64 b)) hb2 neMsgInt 2 (.int .i64 c)) hb3 neMsgInt 3 (.int .i64 bz)) hb4 neMsgInt 4 (.int .i64 e)) hb5 neMsgInt 5 (.slice o1 V.length c1)) hb6 neMsgInt 6 (.slice o2 L.length c2))
    have HDF := hid (Drawn.store HR.out (Drawn.store HR.out (Drawn.store HR.out (Drawn.store HR.out (Drawn.store HR.out (Drawn.store HR.out (Drawn.store HR.out (Drawn.store HR.out (HD6.out) w4.heap.size 3 (.int .i64 bz) (Nat.le_of_lt HG.out)) w.heap.size 0 (.int .i64 a) (Nat.le_refl _)) w.heap.size 1 (.int .i64 b) (Nat.le_refl _)) w.heap.size 2 (.int .i64 c) (Nat.le_refl _)) w.heap.size 3 (.int .i64 bz) (Nat.le_refl _)) w.heap.size 4 (.int .i64 e) (Nat.le_refl _)) w.heap.size 5 (.slice o1 V.length c1) (Nat.le_refl _)) w.heap.size 6 (.slice o2 L.length c2) (Nat.le_refl _))
    have HVL := hid (hV)
    have HLLn := hid (hL)
    have HNN : Hid (o1 = none ∨ L = []) := Or.inl hN.1
    clear hmA hm hv hl hx hV hL hN hb0 hb1 hb2 hb3 hb4 hb5 hb6
    have hga : ¬ w4.heap.size = w.heap.size := Nat.ne_of_gt HG.out
    have hgb : ¬ w.heap.size = w4.heap.size := Nat.ne_of_lt HG.out
    have hgc := HG.out
    go_wp2
    refine bodyPost_ret (v := .agg #[.int .i64 a, .int .i64 b, .int .i64 c, .int .i64 bz, .int .i64 e, .slice o1 V.length c1, .slice o2 L.length c2]) (by simp [results, Tryd.results19, go_sem, z0, z1, z2, z3, z4, z5, z6]) rfl ?_
    exact ⟨⟨a, b, c, bz, e, o1, o2, c1, c2, V, L, xs, rfl, HVF.out, HLF.out, HXF.out, HVL.out, HLLn.out, HNN.out⟩, _, by omega, HDF.out⟩
  · have hal : Below w4.heap.size w4 (w4.alloc (.cells #[.int .i64 4, .int .i64 (10 + y), .int .i64 z2, .int .i64 0, .int .i64 z3, .slice none 0 0, .slice none 0 0] 26)) := (Below.refl _ _).alloc (Nat.le_refl _) _
    have HM5 : Hid (MAt w.heap.size w4.heap.size (w4.alloc (.cells #[.int .i64 4, .int .i64 (10 + y), .int .i64 z2, .int .i64 0, .int .i64 z3, .slice none 0 0, .slice none 0 0] 26))) := ⟨4, 10 + y, z2, 0, z3, none, none, 0, 0, [], [], [], alloc_new _ _, row_nil _ _ _ _, row_nil _ _ _ _, ⟨rfl, fun i hi => absurd hi (Nat.not_lt_zero _)⟩, by simp, by simp, rfl, rfl⟩
    have HD5 := hid (HD4.out.belowV hal)
    have HZ5 : Hid ((w4.alloc (.cells #[.int .i64 4, .int .i64 (10 + y), .int .i64 z2, .int .i64 0, .int .i64 z3, .slice none 0 0, .slice none 0 0] 26)).heap[w.heap.size]? = some (.cells #[.int .i64 0, .int .i64 0, .int .i64 0, .int .i64 0, .int .i64 0, .slice none 0 0, .slice none 0 0] 26 (0, 0))) := alloc_keep HZ4.out
    clear hal
    go_wp2_with fail
    refine (ballot_any R oa len cap (p + 4) _ HD5.out.1 (by omega)).mono ?_
    rintro e w6 ⟨⟨bz, rfl⟩, hd⟩
    have HD6 := hid (HD5.out.thenV hd)
    have HZ6 := hid (keeps_block HZ5.out hd.2 HNE.out)
    have HM6 := hid (HM5.out.keeps hd.2 HRo.out HGR.out)
    have hg6 : w4.heap.size < w6.heap.size := by obtain ⟨_, _, _, _, _, _, _, _, _, _, _, _, hm, _⟩ := HM6.out; exact (Array.getElem?_eq_some_iff.1 hm).1
    clear hd
    obtain ⟨a, b, c, d, e, o1, o2, c1, c2, V, L, xs, hm, hv, hl, hx, hV, hL, hN⟩ := HM6.out
    have m0 : w6.cell? ⟨w4.heap.size, 0, none⟩ = some (.int .i64 a) := by rw [in_block hm 0]; rfl
    have m1 : w6.cell? ⟨w4.heap.size, 1, none⟩ = some (.int .i64 b) := by rw [in_block hm 1]; rfl
    have m2 : w6.cell? ⟨w4.heap.size, 2, none⟩ = some (.int .i64 c) := by rw [in_block hm 2]; rfl
    have m3 : w6.cell? ⟨w4.heap.size, 3, none⟩ = some (.int .i64 d) := by rw [in_block hm 3]; rfl
    have m4 : w6.cell? ⟨w4.heap.size, 4, none⟩ = some (.int .i64 e) := by rw [in_block hm 4]; rfl
    have m5 : w6.cell? ⟨w4.heap.size, 5, none⟩ = some (.slice o1 V.length c1) := by rw [in_block hm 5]; rfl
    have m6 : w6.cell? ⟨w4.heap.size, 6, none⟩ = some (.slice o2 L.length c2) := by rw [in_block hm 6]; rfl
    have mf : w6.frozen? ⟨w4.heap.size, 3, none⟩ = false := free_block hm 3
    have z0 : w6.cell? ⟨w.heap.size, 0, none⟩ = some (.int .i64 0) := by rw [in_block HZ6.out 0]; rfl
    have fz0 : w6.frozen? ⟨w.heap.size, 0, none⟩ = false := free_block HZ6.out 0
    have z1 : w6.cell? ⟨w.heap.size, 1, none⟩ = some (.int .i64 0) := by rw [in_block HZ6.out 1]; rfl
    have fz1 : w6.frozen? ⟨w.heap.size, 1, none⟩ = false := free_block HZ6.out 1
    have z2 : w6.cell? ⟨w.heap.size, 2, none⟩ = some (.int .i64 0) := by rw [in_block HZ6.out 2]; rfl
    have fz2 : w6.frozen? ⟨w.heap.size, 2, none⟩ = false := free_block HZ6.out 2
    have z3 : w6.cell? ⟨w.heap.size, 3, none⟩ = some (.int .i64 0) := by rw [in_block HZ6.out 3]; rfl
    have fz3 : w6.frozen? ⟨w.heap.size, 3, none⟩ = false := free_block HZ6.out 3
    have z4 : w6.cell? ⟨w.heap.size, 4, none⟩ = some (.int .i64 0) := by rw [in_block HZ6.out 4]; rfl
    have fz4 : w6.frozen? ⟨w.heap.size, 4, none⟩ = false := free_block HZ6.out 4
    have z5 : w6.cell? ⟨w.heap.size, 5, none⟩ = some (.slice none 0 0) := by rw [in_block HZ6.out 5]; rfl
    have fz5 : w6.frozen? ⟨w.heap.size, 5, none⟩ = false := free_block HZ6.out 5
    have z6 : w6.cell? ⟨w.heap.size, 6, none⟩ = some (.slice none 0 0) := by rw [in_block HZ6.out 6]; rfl
    have fz6 : w6.frozen? ⟨w.heap.size, 6, none⟩ = false := free_block HZ6.out 6
    have hmA := hm
    have hb0 := set_other (HZ6.out) w4.heap.size 3 (.int .i64 bz) (Nat.ne_of_lt HG.out)
    have hb1 := set_block _ w.heap.size 0 _ _ (.int .i64 a) hb0
    have hb2 := set_block _ w.heap.size 1 _ _ (.int .i64 b) hb1
    have hb3 := set_block _ w.heap.size 2 _ _ (.int .i64 c) hb2
    have hb4 := set_block _ w.heap.size 3 _ _ (.int .i64 bz) hb3
    have hb5 := set_block _ w.heap.size 4 _ _ (.int .i64 e) hb4
    have hb6 := set_block _ w.heap.size 5 _ _ (.slice o1 V.length c1) hb5
    have HVF := hid (row_ty (row_ty (row_ty (row_ty (row_ty (row_ty (row_ty (row_ty (hv) hmA neMsgInt 3 (.int .i64 bz)) hb0 neMsgInt 0 (.int .i64 a)) hb1 neMsgInt 1 (.int .i64 b)) hb2 neMsgInt 2 (.int .i64 c)) hb3 neMsgInt 3 (.int .i64 bz)) hb4 neMsgInt 4 (.int .i64 e)) hb5 neMsgInt 5 (.slice o1 V.length c1)) hb6 neMsgInt 6 (.slice o2 L.length c2))
    have HLF := hid (row_ty (row_ty (row_ty (row_ty (row_ty (row_ty (row_ty (row_ty (hl) hmA neMsgEnt 3 (.int .i64 bz)) hb0 neMsgEnt 0 (.int .i64 a)) hb1 neMsgEnt 1 (.int .i64 b)) hb2 neMsgEnt 2 (.int .i64 c)) hb3 neMsgEnt 3 (.int .i64 bz)) hb4 neMsgEnt 4 (.int .i64 e)) hb5 neMsgEnt 5 (.slice o1 V.length c1)) hb6 neMsgEnt 6 (.slice o2 L.length c2))
    have HXF := hid (ecells_ty (ecells_ty (ecells_ty (ecells_ty (ecells_ty (ecells_ty (ecells_ty (ecells_ty (hx) hmA neMsgInt 3 (.int .i64 bz)) hb0 neMsgInt 0 (.int .i64 a)) hb1 neMsgInt 1 (.int .i64 b)) hb2 neMsgInt 2 (.int .i64 c)) hb3 neMsgInt 3 (.int .i64 bz)) hb4 neMsgInt 4 (.int .i64 e)) hb5 neMsgInt 5 (.slice o1 V.length c1)) hb6 neMsgInt 6 (.slice o2 L.length c2))
    have HDF := hid (Drawn.store HR.out (Drawn.store HR.out (Drawn.store HR.out (Drawn.store HR.out (Drawn.store HR.out (Drawn.store HR.out (Drawn.store HR.out (Drawn.store HR.out (HD6.out) w4.heap.size 3 (.int .i64 bz) (Nat.le_of_lt HG.out)) w.heap.size 0 (.int .i64 a) (Nat.le_refl _)) w.heap.size 1 (.int .i64 b) (Nat.le_refl _)) w.heap.size 2 (.int .i64 c) (Nat.le_refl _)) w.heap.size 3 (.int .i64 bz) (Nat.le_refl _)) w.heap.size 4 (.int .i64 e) (Nat.le_refl _)) w.heap.size 5 (.slice o1 V.length c1) (Nat.le_refl _)) w.heap.size 6 (.slice o2 L.length c2) (Nat.le_refl _))
    have HVL := hid (hV)
    have HLLn := hid (hL)
    have HNN : Hid (o1 = none ∨ L = []) := Or.inl hN.1
    clear hmA hm hv hl hx hV hL hN hb0 hb1 hb2 hb3 hb4 hb5 hb6
    have hga : ¬ w4.heap.size = w.heap.size := Nat.ne_of_gt HG.out
    have hgb : ¬ w.heap.size = w4.heap.size := Nat.ne_of_lt HG.out
    have hgc := HG.out
    go_wp2
    refine bodyPost_ret (v := .agg #[.int .i64 a, .int .i64 b, .int .i64 c, .int .i64 bz, .int .i64 e, .slice o1 V.length c1, .slice o2 L.length c2]) (by simp [results, Tryd.results19, go_sem, z0, z1, z2, z3, z4, z5, z6]) rfl ?_
    exact ⟨⟨a, b, c, bz, e, o1, o2, c1, c2, V, L, xs, rfl, HVF.out, HLF.out, HXF.out, HVL.out, HLLn.out, HNN.out⟩, _, by omega, HDF.out⟩
  · have hal : Below w4.heap.size w4 (w4.alloc (.cells #[.int .i64 6, .int .i64 (10 + y), .int .i64 z2, .int .i64 0, .int .i64 z3, .slice none 0 0, .slice none 0 0] 26)) := (Below.refl _ _).alloc (Nat.le_refl _) _
    have HM5 : Hid (MAt w.heap.size w4.heap.size (w4.alloc (.cells #[.int .i64 6, .int .i64 (10 + y), .int .i64 z2, .int .i64 0, .int .i64 z3, .slice none 0 0, .slice none 0 0] 26))) := ⟨6, 10 + y, z2, 0, z3, none, none, 0, 0, [], [], [], alloc_new _ _, row_nil _ _ _ _, row_nil _ _ _ _, ⟨rfl, fun i hi => absurd hi (Nat.not_lt_zero _)⟩, by simp, by simp, rfl, rfl⟩
    have HD5 := hid (HD4.out.belowV hal)
    have HZ5 : Hid ((w4.alloc (.cells #[.int .i64 6, .int .i64 (10 + y), .int .i64 z2, .int .i64 0, .int .i64 z3, .slice none 0 0, .slice none 0 0] 26)).heap[w.heap.size]? = some (.cells #[.int .i64 0, .int .i64 0, .int .i64 0, .int .i64 0, .int .i64 0, .slice none 0 0, .slice none 0 0] 26 (0, 0))) := alloc_keep HZ4.out
    clear hal
    go_wp2_with fail
    refine (ballot_any R oa len cap (p + 4) _ HD5.out.1 (by omega)).mono ?_
    rintro e w6 ⟨⟨bz, rfl⟩, hd⟩
    have HD6 := hid (HD5.out.thenV hd)
    have HZ6 := hid (keeps_block HZ5.out hd.2 HNE.out)
    have HM6 := hid (HM5.out.keeps hd.2 HRo.out HGR.out)
    have hg6 : w4.heap.size < w6.heap.size := by obtain ⟨_, _, _, _, _, _, _, _, _, _, _, _, hm, _⟩ := HM6.out; exact (Array.getElem?_eq_some_iff.1 hm).1
    clear hd
    obtain ⟨a, b, c, d, e, o1, o2, c1, c2, V, L, xs, hm, hv, hl, hx, hV, hL, hN⟩ := HM6.out
    have m0 : w6.cell? ⟨w4.heap.size, 0, none⟩ = some (.int .i64 a) := by rw [in_block hm 0]; rfl
    have m1 : w6.cell? ⟨w4.heap.size, 1, none⟩ = some (.int .i64 b) := by rw [in_block hm 1]; rfl
    have m2 : w6.cell? ⟨w4.heap.size, 2, none⟩ = some (.int .i64 c) := by rw [in_block hm 2]; rfl
    have m3 : w6.cell? ⟨w4.heap.size, 3, none⟩ = some (.int .i64 d) := by rw [in_block hm 3]; rfl
    have m4 : w6.cell? ⟨w4.heap.size, 4, none⟩ = some (.int .i64 e) := by rw [in_block hm 4]; rfl
    have m5 : w6.cell? ⟨w4.heap.size, 5, none⟩ = some (.slice o1 V.length c1) := by rw [in_block hm 5]; rfl
    have m6 : w6.cell? ⟨w4.heap.size, 6, none⟩ = some (.slice o2 L.length c2) := by rw [in_block hm 6]; rfl
    have mf : w6.frozen? ⟨w4.heap.size, 3, none⟩ = false := free_block hm 3
    have z0 : w6.cell? ⟨w.heap.size, 0, none⟩ = some (.int .i64 0) := by rw [in_block HZ6.out 0]; rfl
    have fz0 : w6.frozen? ⟨w.heap.size, 0, none⟩ = false := free_block HZ6.out 0
    have z1 : w6.cell? ⟨w.heap.size, 1, none⟩ = some (.int .i64 0) := by rw [in_block HZ6.out 1]; rfl
    have fz1 : w6.frozen? ⟨w.heap.size, 1, none⟩ = false := free_block HZ6.out 1
    have z2 : w6.cell? ⟨w.heap.size, 2, none⟩ = some (.int .i64 0) := by rw [in_block HZ6.out 2]; rfl
    have fz2 : w6.frozen? ⟨w.heap.size, 2, none⟩ = false := free_block HZ6.out 2
    have z3 : w6.cell? ⟨w.heap.size, 3, none⟩ = some (.int .i64 0) := by rw [in_block HZ6.out 3]; rfl
    have fz3 : w6.frozen? ⟨w.heap.size, 3, none⟩ = false := free_block HZ6.out 3
    have z4 : w6.cell? ⟨w.heap.size, 4, none⟩ = some (.int .i64 0) := by rw [in_block HZ6.out 4]; rfl
    have fz4 : w6.frozen? ⟨w.heap.size, 4, none⟩ = false := free_block HZ6.out 4
    have z5 : w6.cell? ⟨w.heap.size, 5, none⟩ = some (.slice none 0 0) := by rw [in_block HZ6.out 5]; rfl
    have fz5 : w6.frozen? ⟨w.heap.size, 5, none⟩ = false := free_block HZ6.out 5
    have z6 : w6.cell? ⟨w.heap.size, 6, none⟩ = some (.slice none 0 0) := by rw [in_block HZ6.out 6]; rfl
    have fz6 : w6.frozen? ⟨w.heap.size, 6, none⟩ = false := free_block HZ6.out 6
    have hmA := hm
    have hb0 := set_other (HZ6.out) w4.heap.size 3 (.int .i64 bz) (Nat.ne_of_lt HG.out)
    have hb1 := set_block _ w.heap.size 0 _ _ (.int .i64 a) hb0
    have hb2 := set_block _ w.heap.size 1 _ _ (.int .i64 b) hb1
    have hb3 := set_block _ w.heap.size 2 _ _ (.int .i64 c) hb2
    have hb4 := set_block _ w.heap.size 3 _ _ (.int .i64 bz) hb3
    have hb5 := set_block _ w.heap.size 4 _ _ (.int .i64 e) hb4
    have hb6 := set_block _ w.heap.size 5 _ _ (.slice o1 V.length c1) hb5
    have HVF := hid (row_ty (row_ty (row_ty (row_ty (row_ty (row_ty (row_ty (row_ty (hv) hmA neMsgInt 3 (.int .i64 bz)) hb0 neMsgInt 0 (.int .i64 a)) hb1 neMsgInt 1 (.int .i64 b)) hb2 neMsgInt 2 (.int .i64 c)) hb3 neMsgInt 3 (.int .i64 bz)) hb4 neMsgInt 4 (.int .i64 e)) hb5 neMsgInt 5 (.slice o1 V.length c1)) hb6 neMsgInt 6 (.slice o2 L.length c2))
    have HLF := hid (row_ty (row_ty (row_ty (row_ty (row_ty (row_ty (row_ty (row_ty (hl) hmA neMsgEnt 3 (.int .i64 bz)) hb0 neMsgEnt 0 (.int .i64 a)) hb1 neMsgEnt 1 (.int .i64 b)) hb2 neMsgEnt 2 (.int .i64 c)) hb3 neMsgEnt 3 (.int .i64 bz)) hb4 neMsgEnt 4 (.int .i64 e)) hb5 neMsgEnt 5 (.slice o1 V.length c1)) hb6 neMsgEnt 6 (.slice o2 L.length c2))
    have HXF := hid (ecells_ty (ecells_ty (ecells_ty (ecells_ty (ecells_ty (ecells_ty (ecells_ty (ecells_ty (hx) hmA neMsgInt 3 (.int .i64 bz)) hb0 neMsgInt 0 (.int .i64 a)) hb1 neMsgInt 1 (.int .i64 b)) hb2 neMsgInt 2 (.int .i64 c)) hb3 neMsgInt 3 (.int .i64 bz)) hb4 neMsgInt 4 (.int .i64 e)) hb5 neMsgInt 5 (.slice o1 V.length c1)) hb6 neMsgInt 6 (.slice o2 L.length c2))
    have HDF := hid (Drawn.store HR.out (Drawn.store HR.out (Drawn.store HR.out (Drawn.store HR.out (Drawn.store HR.out (Drawn.store HR.out (Drawn.store HR.out (Drawn.store HR.out (HD6.out) w4.heap.size 3 (.int .i64 bz) (Nat.le_of_lt HG.out)) w.heap.size 0 (.int .i64 a) (Nat.le_refl _)) w.heap.size 1 (.int .i64 b) (Nat.le_refl _)) w.heap.size 2 (.int .i64 c) (Nat.le_refl _)) w.heap.size 3 (.int .i64 bz) (Nat.le_refl _)) w.heap.size 4 (.int .i64 e) (Nat.le_refl _)) w.heap.size 5 (.slice o1 V.length c1) (Nat.le_refl _)) w.heap.size 6 (.slice o2 L.length c2) (Nat.le_refl _))
    have HVL := hid (hV)
    have HLLn := hid (hL)
    have HNN : Hid (o1 = none ∨ L = []) := Or.inl hN.1
    clear hmA hm hv hl hx hV hL hN hb0 hb1 hb2 hb3 hb4 hb5 hb6
    have hga : ¬ w4.heap.size = w.heap.size := Nat.ne_of_gt HG.out
    have hgb : ¬ w.heap.size = w4.heap.size := Nat.ne_of_lt HG.out
    have hgc := HG.out
    go_wp2
    refine bodyPost_ret (v := .agg #[.int .i64 a, .int .i64 b, .int .i64 c, .int .i64 bz, .int .i64 e, .slice o1 V.length c1, .slice o2 L.length c2]) (by simp [results, Tryd.results19, go_sem, z0, z1, z2, z3, z4, z5, z6]) rfl ?_
    exact ⟨⟨a, b, c, bz, e, o1, o2, c1, c2, V, L, xs, rfl, HVF.out, HLF.out, HXF.out, HVL.out, HLLn.out, HNN.out⟩, _, by omega, HDF.out⟩
  · have hal : Below w4.heap.size w4 (w4.alloc (.cells #[.int .i64 7, .int .i64 (10 + y), .int .i64 z2, .int .i64 0, .int .i64 z3, .slice none 0 0, .slice none 0 0] 26)) := (Below.refl _ _).alloc (Nat.le_refl _) _
    have HM5 : Hid (MAt w.heap.size w4.heap.size (w4.alloc (.cells #[.int .i64 7, .int .i64 (10 + y), .int .i64 z2, .int .i64 0, .int .i64 z3, .slice none 0 0, .slice none 0 0] 26))) := ⟨7, 10 + y, z2, 0, z3, none, none, 0, 0, [], [], [], alloc_new _ _, row_nil _ _ _ _, row_nil _ _ _ _, ⟨rfl, fun i hi => absurd hi (Nat.not_lt_zero _)⟩, by simp, by simp, rfl, rfl⟩
    have HD5 := hid (HD4.out.belowV hal)
    have HZ5 : Hid ((w4.alloc (.cells #[.int .i64 7, .int .i64 (10 + y), .int .i64 z2, .int .i64 0, .int .i64 z3, .slice none 0 0, .slice none 0 0] 26)).heap[w.heap.size]? = some (.cells #[.int .i64 0, .int .i64 0, .int .i64 0, .int .i64 0, .int .i64 0, .slice none 0 0, .slice none 0 0] 26 (0, 0))) := alloc_keep HZ4.out
    clear hal
    go_wp2_with fail
    refine (ballot_any R oa len cap (p + 4) _ HD5.out.1 (by omega)).mono ?_
    rintro e w6 ⟨⟨bz, rfl⟩, hd⟩
    have HD6 := hid (HD5.out.thenV hd)
    have HZ6 := hid (keeps_block HZ5.out hd.2 HNE.out)
    have HM6 := hid (HM5.out.keeps hd.2 HRo.out HGR.out)
    have hg6 : w4.heap.size < w6.heap.size := by obtain ⟨_, _, _, _, _, _, _, _, _, _, _, _, hm, _⟩ := HM6.out; exact (Array.getElem?_eq_some_iff.1 hm).1
    clear hd
    obtain ⟨a, b, c, d, e, o1, o2, c1, c2, V, L, xs, hm, hv, hl, hx, hV, hL, hN⟩ := HM6.out
    have m0 : w6.cell? ⟨w4.heap.size, 0, none⟩ = some (.int .i64 a) := by rw [in_block hm 0]; rfl
    have m1 : w6.cell? ⟨w4.heap.size, 1, none⟩ = some (.int .i64 b) := by rw [in_block hm 1]; rfl
    have m2 : w6.cell? ⟨w4.heap.size, 2, none⟩ = some (.int .i64 c) := by rw [in_block hm 2]; rfl
    have m3 : w6.cell? ⟨w4.heap.size, 3, none⟩ = some (.int .i64 d) := by rw [in_block hm 3]; rfl
    have m4 : w6.cell? ⟨w4.heap.size, 4, none⟩ = some (.int .i64 e) := by rw [in_block hm 4]; rfl
    have m5 : w6.cell? ⟨w4.heap.size, 5, none⟩ = some (.slice o1 V.length c1) := by rw [in_block hm 5]; rfl
    have m6 : w6.cell? ⟨w4.heap.size, 6, none⟩ = some (.slice o2 L.length c2) := by rw [in_block hm 6]; rfl
    have mf : w6.frozen? ⟨w4.heap.size, 3, none⟩ = false := free_block hm 3
    have z0 : w6.cell? ⟨w.heap.size, 0, none⟩ = some (.int .i64 0) := by rw [in_block HZ6.out 0]; rfl
    have fz0 : w6.frozen? ⟨w.heap.size, 0, none⟩ = false := free_block HZ6.out 0
    have z1 : w6.cell? ⟨w.heap.size, 1, none⟩ = some (.int .i64 0) := by rw [in_block HZ6.out 1]; rfl
    have fz1 : w6.frozen? ⟨w.heap.size, 1, none⟩ = false := free_block HZ6.out 1
    have z2 : w6.cell? ⟨w.heap.size, 2, none⟩ = some (.int .i64 0) := by rw [in_block HZ6.out 2]; rfl
    have fz2 : w6.frozen? ⟨w.heap.size, 2, none⟩ = false := free_block HZ6.out 2
    have z3 : w6.cell? ⟨w.heap.size, 3, none⟩ = some (.int .i64 0) := by rw [in_block HZ6.out 3]; rfl
    have fz3 : w6.frozen? ⟨w.heap.size, 3, none⟩ = false := free_block HZ6.out 3
    have z4 : w6.cell? ⟨w.heap.size, 4, none⟩ = some (.int .i64 0) := by rw [in_block HZ6.out 4]; rfl
    have fz4 : w6.frozen? ⟨w.heap.size, 4, none⟩ = false := free_block HZ6.out 4
    have z5 : w6.cell? ⟨w.heap.size, 5, none⟩ = some (.slice none 0 0) := by rw [in_block HZ6.out 5]; rfl
    have fz5 : w6.frozen? ⟨w.heap.size, 5, none⟩ = false := free_block HZ6.out 5
    have z6 : w6.cell? ⟨w.heap.size, 6, none⟩ = some (.slice none 0 0) := by rw [in_block HZ6.out 6]; rfl
    have fz6 : w6.frozen? ⟨w.heap.size, 6, none⟩ = false := free_block HZ6.out 6
    have hmA := hm
    have hb0 := set_other (HZ6.out) w4.heap.size 3 (.int .i64 bz) (Nat.ne_of_lt HG.out)
    have hb1 := set_block _ w.heap.size 0 _ _ (.int .i64 a) hb0
    have hb2 := set_block _ w.heap.size 1 _ _ (.int .i64 b) hb1
    have hb3 := set_block _ w.heap.size 2 _ _ (.int .i64 c) hb2
    have hb4 := set_block _ w.heap.size 3 _ _ (.int .i64 bz) hb3
    have hb5 := set_block _ w.heap.size 4 _ _ (.int .i64 e) hb4
    have hb6 := set_block _ w.heap.size 5 _ _ (.slice o1 V.length c1) hb5
    have HVF := hid (row_ty (row_ty (row_ty (row_ty (row_ty (row_ty (row_ty (row_ty (hv) hmA neMsgInt 3 (.int .i64 bz)) hb0 neMsgInt 0 (.int .i64 a)) hb1 neMsgInt 1 (.int .i64 b)) hb2 neMsgInt 2 (.int .i64 c)) hb3 neMsgInt 3 (.int .i64 bz)) hb4 neMsgInt 4 (.int .i64 e)) hb5 neMsgInt 5 (.slice o1 V.length c1)) hb6 neMsgInt 6 (.slice o2 L.length c2))
    have HLF := hid (row_ty (row_ty (row_ty (row_ty (row_ty (row_ty (row_ty (row_ty (hl) hmA neMsgEnt 3 (.int .i64 bz)) hb0 neMsgEnt 0 (.int .i64 a)) hb1 neMsgEnt 1 (.int .i64 b)) hb2 neMsgEnt 2 (.int .i64 c)) hb3 neMsgEnt 3 (.int .i64 bz)) hb4 neMsgEnt 4 (.int .i64 e)) hb5 neMsgEnt 5 (.slice o1 V.length c1)) hb6 neMsgEnt 6 (.slice o2 L.length c2))
    have HXF := hid (ecells_ty (ecells_ty (ecells_ty (ecells_ty (ecells_ty (ecells_ty (ecells_ty (ecells_ty (hx) hmA neMsgInt 3 (.int .i64 bz)) hb0 neMsgInt 0 (.int .i64 a)) hb1 neMsgInt 1 (.int .i64 b)) hb2 neMsgInt 2 (.int .i64 c)) hb3 neMsgInt 3 (.int .i64 bz)) hb4 neMsgInt 4 (.int .i64 e)) hb5 neMsgInt 5 (.slice o1 V.length c1)) hb6 neMsgInt 6 (.slice o2 L.length c2))
    have HDF := hid (Drawn.store HR.out (Drawn.store HR.out (Drawn.store HR.out (Drawn.store HR.out (Drawn.store HR.out (Drawn.store HR.out (Drawn.store HR.out (Drawn.store HR.out (HD6.out) w4.heap.size 3 (.int .i64 bz) (Nat.le_of_lt HG.out)) w.heap.size 0 (.int .i64 a) (Nat.le_refl _)) w.heap.size 1 (.int .i64 b) (Nat.le_refl _)) w.heap.size 2 (.int .i64 c) (Nat.le_refl _)) w.heap.size 3 (.int .i64 bz) (Nat.le_refl _)) w.heap.size 4 (.int .i64 e) (Nat.le_refl _)) w.heap.size 5 (.slice o1 V.length c1) (Nat.le_refl _)) w.heap.size 6 (.slice o2 L.length c2) (Nat.le_refl _))
    have HVL := hid (hV)
    have HLLn := hid (hL)
    have HNN : Hid (o1 = none ∨ L = []) := Or.inl hN.1
    clear hmA hm hv hl hx hV hL hN hb0 hb1 hb2 hb3 hb4 hb5 hb6
    have hga : ¬ w4.heap.size = w.heap.size := Nat.ne_of_gt HG.out
    have hgb : ¬ w.heap.size = w4.heap.size := Nat.ne_of_lt HG.out
    have hgc := HG.out
    go_wp2
    refine bodyPost_ret (v := .agg #[.int .i64 a, .int .i64 b, .int .i64 c, .int .i64 bz, .int .i64 e, .slice o1 V.length c1, .slice o2 L.length c2]) (by simp [results, Tryd.results19, go_sem, z0, z1, z2, z3, z4, z5, z6]) rfl ?_
    exact ⟨⟨a, b, c, bz, e, o1, o2, c1, c2, V, L, xs, rfl, HVF.out, HLF.out, HXF.out, HVL.out, HLLn.out, HNN.out⟩, _, by omega, HDF.out⟩
  · have hal : Below w4.heap.size w4 (w4.alloc (.cells #[.int .i64 8, .int .i64 (10 + y), .int .i64 z2, .int .i64 0, .int .i64 z3, .slice none 0 0, .slice none 0 0] 26)) := (Below.refl _ _).alloc (Nat.le_refl _) _
    have HM5 : Hid (MAt w.heap.size w4.heap.size (w4.alloc (.cells #[.int .i64 8, .int .i64 (10 + y), .int .i64 z2, .int .i64 0, .int .i64 z3, .slice none 0 0, .slice none 0 0] 26))) := ⟨8, 10 + y, z2, 0, z3, none, none, 0, 0, [], [], [], alloc_new _ _, row_nil _ _ _ _, row_nil _ _ _ _, ⟨rfl, fun i hi => absurd hi (Nat.not_lt_zero _)⟩, by simp, by simp, rfl, rfl⟩
    have HD5 := hid (HD4.out.belowV hal)
    have HZ5 : Hid ((w4.alloc (.cells #[.int .i64 8, .int .i64 (10 + y), .int .i64 z2, .int .i64 0, .int .i64 z3, .slice none 0 0, .slice none 0 0] 26)).heap[w.heap.size]? = some (.cells #[.int .i64 0, .int .i64 0, .int .i64 0, .int .i64 0, .int .i64 0, .slice none 0 0, .slice none 0 0] 26 (0, 0))) := alloc_keep HZ4.out
    clear hal
    go_wp2_with fail
    refine (ballot_any R oa len cap (p + 4) _ HD5.out.1 (by omega)).mono ?_
    rintro e w6 ⟨⟨bz, rfl⟩, hd⟩
    have HD6 := hid (HD5.out.thenV hd)
    have HZ6 := hid (keeps_block HZ5.out hd.2 HNE.out)
    have HM6 := hid (HM5.out.keeps hd.2 HRo.out HGR.out)
    have hg6 : w4.heap.size < w6.heap.size := by obtain ⟨_, _, _, _, _, _, _, _, _, _, _, _, hm, _⟩ := HM6.out; exact (Array.getElem?_eq_some_iff.1 hm).1
    clear hd
    obtain ⟨a, b, c, d, e, o1, o2, c1, c2, V, L, xs, hm, hv, hl, hx, hV, hL, hN⟩ := HM6.out
    have m0 : w6.cell? ⟨w4.heap.size, 0, none⟩ = some (.int .i64 a) := by rw [in_block hm 0]; rfl
    have m1 : w6.cell? ⟨w4.heap.size, 1, none⟩ = some (.int .i64 b) := by rw [in_block hm 1]; rfl
    have m2 : w6.cell? ⟨w4.heap.size, 2, none⟩ = some (.int .i64 c) := by rw [in_block hm 2]; rfl
    have m3 : w6.cell? ⟨w4.heap.size, 3, none⟩ = some (.int .i64 d) := by rw [in_block hm 3]; rfl
    have m4 : w6.cell? ⟨w4.heap.size, 4, none⟩ = some (.int .i64 e) := by rw [in_block hm 4]; rfl
    have m5 : w6.cell? ⟨w4.heap.size, 5, none⟩ = some (.slice o1 V.length c1) := by rw [in_block hm 5]; rfl
    have m6 : w6.cell? ⟨w4.heap.size, 6, none⟩ = some (.slice o2 L.length c2) := by rw [in_block hm 6]; rfl
    have mf : w6.frozen? ⟨w4.heap.size, 3, none⟩ = false := free_block hm 3
    have z0 : w6.cell? ⟨w.heap.size, 0, none⟩ = some (.int .i64 0) := by rw [in_block HZ6.out 0]; rfl
    have fz0 : w6.frozen? ⟨w.heap.size, 0, none⟩ = false := free_block HZ6.out 0
    have z1 : w6.cell? ⟨w.heap.size, 1, none⟩ = some (.int .i64 0) := by rw [in_block HZ6.out 1]; rfl
    have fz1 : w6.frozen? ⟨w.heap.size, 1, none⟩ = false := free_block HZ6.out 1
    have z2 : w6.cell? ⟨w.heap.size, 2, none⟩ = some (.int .i64 0) := by rw [in_block HZ6.out 2]; rfl
    have fz2 : w6.frozen? ⟨w.heap.size, 2, none⟩ = false := free_block HZ6.out 2
    have z3 : w6.cell? ⟨w.heap.size, 3, none⟩ = some (.int .i64 0) := by rw [in_block HZ6.out 3]; rfl
    have fz3 : w6.frozen? ⟨w.heap.size, 3, none⟩ = false := free_block HZ6.out 3
    have z4 : w6.cell? ⟨w.heap.size, 4, none⟩ = some (.int .i64 0) := by rw [in_block HZ6.out 4]; rfl
    have fz4 : w6.frozen? ⟨w.heap.size, 4, none⟩ = false := free_block HZ6.out 4
    have z5 : w6.cell? ⟨w.heap.size, 5, none⟩ = some (.slice none 0 0) := by rw [in_block HZ6.out 5]; rfl
    have fz5 : w6.frozen? ⟨w.heap.size, 5, none⟩ = false := free_block HZ6.out 5
    have z6 : w6.cell? ⟨w.heap.size, 6, none⟩ = some (.slice none 0 0) := by rw [in_block HZ6.out 6]; rfl
    have fz6 : w6.frozen? ⟨w.heap.size, 6, none⟩ = false := free_block HZ6.out 6
    have hmA := hm
    have hb0 := set_other (HZ6.out) w4.heap.size 3 (.int .i64 bz) (Nat.ne_of_lt HG.out)
    have hb1 := set_block _ w.heap.size 0 _ _ (.int .i64 a) hb0
    have hb2 := set_block _ w.heap.size 1 _ _ (.int .i64 b) hb1
    have hb3 := set_block _ w.heap.size 2 _ _ (.int .i64 c) hb2
    have hb4 := set_block _ w.heap.size 3 _ _ (.int .i64 bz) hb3
    have hb5 := set_block _ w.heap.size 4 _ _ (.int .i64 e) hb4
    have hb6 := set_block _ w.heap.size 5 _ _ (.slice o1 V.length c1) hb5
    have HVF := hid (row_ty (row_ty (row_ty (row_ty (row_ty (row_ty (row_ty (row_ty (hv) hmA neMsgInt 3 (.int .i64 bz)) hb0 neMsgInt 0 (.int .i64 a)) hb1 neMsgInt 1 (.int .i64 b)) hb2 neMsgInt 2 (.int .i64 c)) hb3 neMsgInt 3 (.int .i64 bz)) hb4 neMsgInt 4 (.int .i64 e)) hb5 neMsgInt 5 (.slice o1 V.length c1)) hb6 neMsgInt 6 (.slice o2 L.length c2))
    have HLF := hid (row_ty (row_ty (row_ty (row_ty (row_ty (row_ty (row_ty (row_ty (hl) hmA neMsgEnt 3 (.int .i64 bz)) hb0 neMsgEnt 0 (.int .i64 a)) hb1 neMsgEnt 1 (.int .i64 b)) hb2 neMsgEnt 2 (.int .i64 c)) hb3 neMsgEnt 3 (.int .i64 bz)) hb4 neMsgEnt 4 (.int .i64 e)) hb5 neMsgEnt 5 (.slice o1 V.length c1)) hb6 neMsgEnt 6 (.slice o2 L.length c2))
    have HXF := hid (ecells_ty (ecells_ty (ecells_ty (ecells_ty (ecells_ty (ecells_ty (ecells_ty (ecells_ty (hx) hmA neMsgInt 3 (.int .i64 bz)) hb0 neMsgInt 0 (.int .i64 a)) hb1 neMsgInt 1 (.int .i64 b)) hb2 neMsgInt 2 (.int .i64 c)) hb3 neMsgInt 3 (.int .i64 bz)) hb4 neMsgInt 4 (.int .i64 e)) hb5 neMsgInt 5 (.slice o1 V.length c1)) hb6 neMsgInt 6 (.slice o2 L.length c2))
    have HDF := hid (Drawn.store HR.out (Drawn.store HR.out (Drawn.store HR.out (Drawn.store HR.out (Drawn.store HR.out (Drawn.store HR.out (Drawn.store HR.out (Drawn.store HR.out (HD6.out) w4.heap.size 3 (.int .i64 bz) (Nat.le_of_lt HG.out)) w.heap.size 0 (.int .i64 a) (Nat.le_refl _)) w.heap.size 1 (.int .i64 b) (Nat.le_refl _)) w.heap.size 2 (.int .i64 c) (Nat.le_refl _)) w.heap.size 3 (.int .i64 bz) (Nat.le_refl _)) w.heap.size 4 (.int .i64 e) (Nat.le_refl _)) w.heap.size 5 (.slice o1 V.length c1) (Nat.le_refl _)) w.heap.size 6 (.slice o2 L.length c2) (Nat.le_refl _))
    have HVL := hid (hV)
    have HLLn := hid (hL)
    have HNN : Hid (o1 = none ∨ L = []) := Or.inl hN.1
    clear hmA hm hv hl hx hV hL hN hb0 hb1 hb2 hb3 hb4 hb5 hb6
    have hga : ¬ w4.heap.size = w.heap.size := Nat.ne_of_gt HG.out
    have hgb : ¬ w.heap.size = w4.heap.size := Nat.ne_of_lt HG.out
    have hgc := HG.out
    go_wp2
    refine bodyPost_ret (v := .agg #[.int .i64 a, .int .i64 b, .int .i64 c, .int .i64 bz, .int .i64 e, .slice o1 V.length c1, .slice o2 L.length c2]) (by simp [results, Tryd.results19, go_sem, z0, z1, z2, z3, z4, z5, z6]) rfl ?_
    exact ⟨⟨a, b, c, bz, e, o1, o2, c1, c2, V, L, xs, rfl, HVF.out, HLF.out, HXF.out, HVL.out, HLLn.out, HNN.out⟩, _, by omega, HDF.out⟩

end Go.Proofs.YtijdjplajhcilabDoor

