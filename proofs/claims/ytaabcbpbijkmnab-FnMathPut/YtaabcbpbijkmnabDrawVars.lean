/- DERIVED. The walks of what draws names and what they say. -/
import Derived.Test.YtaabcbpbijkmnabDrawMath
import Derived.Test.YtaabcbpbijkmnabMathEval
import Derived.Test.YtaabcbpbijkmnabMathRun
import Derived.Test.YtaabcbpbijkmnabRowOps
import Derived.Deep.RegionHeld3
namespace Go.Proofs.Ytaabcbpbijkmnab
open Go.RowKit

theorem infoVar : (Try.prog.info? 50).map (fun i => (i.zero, i.size, i.bytes)) = some (some (.agg #[.string ⟨#[]⟩, .string ⟨#[]⟩]), 2, 32) := by kernel_rfl

/-- The cells of names and what they say. -/
def vcells : Vs → List Value
  | [] => []
  | x :: t => .string x.1 :: .string x.2 :: vcells t

theorem vcells_len (V : Vs) : (vcells V).length = V.length * 2 := by
  induction V with
  | nil => rfl
  | cons x t ih => simp [vcells, ih]; omega

theorem vcells_app (V U : Vs) : vcells (V ++ U) = vcells V ++ vcells U := by
  induction V with
  | nil => rfl
  | cons x t ih => simp [vcells, ih]

theorem vcells_get (V : Vs) (i : Nat) (hi : i < V.length) : (vcells V)[i * 2]? = some (.string V[i].1) ∧ (vcells V)[i * 2 + 1]? = some (.string V[i].2) := by
  induction V generalizing i with
  | nil => simp at hi
  | cons x t ih =>
    cases i with
    | zero => exact ⟨rfl, rfl⟩
    | succ j =>
      have := ih j (by simpa using hi)
      simpa [vcells, Nat.succ_mul] using this

/-- Names that are drawn. -/
def VOk (V : Vs) : Prop := V.length ≤ 5 ∧ (∀ x ∈ V, ∃ c, letB c = true ∧ x.1 = oneT c) ∧ ∀ x ∈ V, x.2.size ≤ 14

theorem vin_of {w : World} {base : Nat} {v : Value} {V : Vs} (h : w.ownsRow base 50 2 v V.length (vcells V)) (hv : VOk V) : VIn w v V := by
  have hlen : ∀ x ∈ V, x.2.size ≤ maxLen := fun x hx => by have := hv.2.2 x hx; unfold maxLen; omega
  rcases h.2 with ⟨e1, e2⟩ | ⟨g, cap, cur, e1, hb, hg, h3⟩
  · have : V = [] := List.length_eq_zero_iff.mp e2
    subst this
    exact ⟨none, 0, by rw [e1]; rfl, by simp, hlen, fun i hi => by simp at hi⟩
  · refine ⟨_, cap, e1, by have := hv.1; omega, hlen, fun i hi => ⟨g, 0, rfl, ?_, ?_, ?_⟩⟩
    · rcases Nat.lt_or_ge g w.heap.size with hh | hh
      · exact hh
      · rw [Array.getElem?_eq_none hh] at hg; cases hg
    · have := h.cells (g := g) (by rw [e1]; rfl) (i * 2) _ (vcells_get V i hi).1
      by_cases e : i * 2 = 0
      · simpa [Addr.add, e] using this
      · simpa [Addr.add, e] using this
    · have := h.cells (g := g) (by rw [e1]; rfl) (i * 2 + 1) _ (vcells_get V i hi).2
      simpa [Addr.add] using this

theorem rowv_shape {base : Nat} {e : TypeId} {size n : Nat} {v : Value} {xs : List Value} {w : World} (h : w.ownsRow base e size v n xs) : ∃ oa cp, v = .slice oa n cp := by
  rcases h.2 with ⟨e1, e2⟩ | ⟨g, cap, cur, e1, _⟩
  · subst e2; exact ⟨_, _, e1⟩
  · exact ⟨_, _, e1⟩

theorem rowv_keeps {w w' : World} {base R : Nat} {e : TypeId} {size n : Nat} {v : Value} {xs : List Value} (h : w.ownsRow base e size v n xs) (hk : Keeps R w w') (hR : R < base) : w'.ownsRow base e size v n xs := by
  refine ⟨h.1, ?_⟩
  rcases h.2 with h0 | ⟨g, cap, cur, e1, e2, hb, e3⟩
  · exact Or.inl h0
  · refine Or.inr ⟨g, cap, cur, e1, e2, ?_, e3⟩
    rw [hk.block g ?_ (by omega)]
    · exact hb
    · rcases Nat.lt_or_ge g w.heap.size with hh | hh
      · exact hh
      · rw [Array.getElem?_eq_none hh] at hb; cases hb

/-- The five names lie in a block. -/
def NamesAt (w : World) (B : Nat) : Prop := w.heap[B]? = some (.cells #[.string (oneT 105), .string (oneT 110), .string (oneT 113), .string (oneT 120), .string (oneT 121)] 9)

theorem names_new (w : World) (o : Obj) : (w.alloc o).heap[w.heap.size]? = some o := by
  show (w.heap.push o)[w.heap.size]? = some o
  simp

theorem NamesAt.lt {w : World} {B : Nat} (h : NamesAt w B) : B < w.heap.size := by
  rcases Nat.lt_or_ge B w.heap.size with hh | hh
  · exact hh
  · unfold NamesAt at h; rw [Array.getElem?_eq_none hh] at h; cases h

theorem NamesAt.cell {w : World} {B i : Nat} (h : NamesAt w B) (hi : i < 5) : ∃ c, letB c = true ∧ w.cell? ⟨B, i, none⟩ = some (.string (oneT c)) := by
  unfold NamesAt at h
  have : i = 0 ∨ i = 1 ∨ i = 2 ∨ i = 3 ∨ i = 4 := by omega
  rcases this with rfl | rfl | rfl | rfl | rfl
  · exact ⟨105, by decide, by simp [World.cell?, h]⟩
  · exact ⟨110, by decide, by simp [World.cell?, h]⟩
  · exact ⟨113, by decide, by simp [World.cell?, h]⟩
  · exact ⟨120, by decide, by simp [World.cell?, h]⟩
  · exact ⟨121, by decide, by simp [World.cell?, h]⟩

theorem NamesAt.keeps {w w' : World} {B R : Nat} (h : NamesAt w B) (hk : Keeps R w w') (hn : B ≠ R) : NamesAt w' B := by
  unfold NamesAt
  rw [hk.block B h.lt hn]
  exact h

theorem NamesAt.row {w : World} {B base : Nat} {v : Value} {n : Nat} {xs : List Value} (h : NamesAt w B) (ho : w.ownsRow base 50 2 v n xs) : v.ownBlock ≠ some B := by
  intro e
  rcases ho.2 with ⟨e1, _⟩ | ⟨g, cap, cur, e1, _, hg, _⟩
  · rw [e1] at e; cases e
  · rw [e1] at e
    injection e with e
    subst e
    rw [show w.heap[g]? = _ from h] at hg
    injection hg with hg
    injection hg with _ hg
    exact absurd hg (by decide)

theorem NamesAt.grown {w w' : World} {B base : Nat} {v : Value} {n : Nat} {xs : List Value} (h : NamesAt w B) (ho : w.ownsRow base 50 2 v n xs) (hg : w.grownBy w' v.ownBlock) : NamesAt w' B := by
  unfold NamesAt
  rw [hg.block B h.lt (fun e => h.row ho e.symm)]
  exact h

theorem Drawn.belowV {R : Nat} {oa : Option Addr} {len cap q : Nat} {w w1 w2 : World} (h : Drawn R oa len cap q w w1) (hb : Below w1.heap.size w1 w2) : Drawn R oa len cap q w w2 :=
  ⟨h.1.keep hb, h.2.trans (Keeps.of_below hb h.1.old)⟩

/-- A reader, behind a row that has grown. -/
theorem Drawn.growV {R : Nat} {oa : Option Addr} {len cap p0 q g : Nat} {w w1 w2 : World} (h0 : RdAt w R oa len cap p0) (h : Drawn R oa len cap q w w1) (hg : w1.grownBy w2 (some g)) (hw : w.heap.size ≤ g) : Drawn R oa len cap q w w2 := by
  have hR := h0.old
  have hs := h.2.size
  have hcell : ∀ b o, b < w.heap.size → w2.cell? ⟨b, o, none⟩ = w1.cell? ⟨b, o, none⟩ := fun b o hb => World.cell?_of_block (a := ⟨b, o, none⟩) (hg.block b (by omega) (fun e => by injection e with e; omega))
  have hfro : ∀ b o, b < w.heap.size → w2.frozen? ⟨b, o, none⟩ = w1.frozen? ⟨b, o, none⟩ := fun b o hb => World.frozen?_of_block (a := ⟨b, o, none⟩) (hg.block b (by omega) (fun e => by injection e with e; omega))
  refine ⟨⟨Nat.lt_of_lt_of_le h.1.old hg.size, by rw [hcell R 0 hR]; exact h.1.code, by rw [hcell R 1 hR]; exact h.1.place, by rw [hfro R 1 hR]; exact h.1.free, h.1.short, fun i hi => ?_⟩, ⟨Nat.le_trans hs hg.size, fun B w0 hB hb => ?_, fun b o hb hn => by rw [hcell b o hb]; exact h.2.cell b o hb hn, fun b o hb => by rw [hfro b o hb]; exact h.2.frozen b o hb, fun b hb hn => (hg.block b (by omega) (fun e => by injection e with e; omega)).trans (h.2.block b hb hn)⟩⟩
  · obtain ⟨b, off, c, e, hb, hn, hc, h1, h2⟩ := h.1.bytes i hi
    obtain ⟨b', off', c', e', hb', _⟩ := h0.bytes i hi
    rw [e] at e'
    injection e' with e'
    injection e' with e1 e2
    subst e1
    exact ⟨b, off, c, e, Nat.lt_of_lt_of_le hb hg.size, hn, by rw [hcell b _ hb']; exact hc, h1, h2⟩
  · exact (h.2.below B w0 hB hb).grown hg (by omega) (fun k hk => by injection hk with hk; omega)

theorem own_blockV {w : World} {base : Nat} {e : TypeId} {size n : Nat} {v : Value} {xs : List Value} (h : w.ownsRow base e size v n xs) : (∃ g, v.ownBlock = some g ∧ base ≤ g) ∨ v.ownBlock = none := by
  cases hv : v.ownBlock with
  | none => exact Or.inr rfl
  | some g => exact Or.inl ⟨g, rfl, (h.lt g hv).1⟩

theorem Drawn.grownV {R : Nat} {oa : Option Addr} {len cap p0 q size n : Nat} {e : TypeId} {v : Value} {xs : List Value} {w w1 w2 : World} (h0 : RdAt w R oa len cap p0) (h : Drawn R oa len cap q w w1) (hown : w1.ownsRow w.heap.size e size v n xs) (hg : w1.grownBy w2 v.ownBlock) : Drawn R oa len cap q w w2 := by
  rcases own_blockV hown with ⟨g, hv, hb⟩ | hv
  · rw [hv] at hg; exact Drawn.growV h0 h hg hb
  · rw [hv] at hg
    exact h.belowV ⟨hg.os, hg.tape, hg.output, hg.size, fun k hk => hg.block k hk (fun e => by cases e)⟩

theorem cell_newv (w : World) (u u2 : Value) (e : TypeId) : ∀ (j : Nat) x, [u, u2][j]? = some x → (w.alloc (.cells #[u, u2] e)).cell? ((⟨w.heap.size, 0, none⟩ : Addr).add j) = some x := by
  intro j x hj
  match j, hj with
  | 0, hj => simp at hj; subst hj; simp [Addr.add]
  | 1, hj => simp at hj; subst hj; simp [Addr.add]
  | n + 2, hj => simp at hj

theorem vok_snoc {V : Vs} {k : Nat} {c : UInt8} {t : ByteArray} (h : VOk V) (hl : V.length ≤ k) (hk : k < 5) (hc : letB c = true) (ht : t.size ≤ 14) : VOk (V ++ [(oneT c, t)]) := by
  refine ⟨by simp; omega, fun x hx => ?_, fun x hx => ?_⟩
  · rcases List.mem_append.1 hx with hx | hx
    · exact h.2.1 x hx
    · simp at hx; subst hx; exact ⟨c, hc, rfl⟩
  · rcases List.mem_append.1 hx with hx | hx
    · exact h.2.2 x hx
    · simp at hx; subst hx; exact ht

set_option maxRecDepth 100000 in
set_option maxHeartbeats 3200000 in
theorem vars_any (R : Nat) (oa : Option Addr) (len cap p : Nat) (w : World) (h : RdAt w R oa len cap p) (hp : p ≤ 50000) :
    Calls Try.prog 9 #[.pointer (some ⟨R, 0, none⟩)] w fun e w' => (∃ v V, e = .returned v ∧ VIn w' v V ∧ VOk V ∧ ∀ g, v.ownBlock = some g → w.heap.size ≤ g) ∧ (∃ q, Drawn R oa len cap q w w') := by
  obtain ⟨i0, hi, hz0, hz1, hz2⟩ := info_parts infoVar
  have HR := hid h
  have hRo := h.old
  clear h
  go_enter Try.func9, Try.ntmps9
  go_wp2
  go_loopw [3, 5] (fun v i wr => ∃ (k q : Nat) (V : Vs), i = .int .i64 k ∧ k ≤ 5 ∧ q + 2 * (5 - k) ≤ p + 10 ∧ V.length ≤ k ∧ wr.ownsRow w.heap.size 50 2 v V.length (vcells V) ∧ VOk V ∧ NamesAt wr (w.heap.size + 1) ∧ Drawn R oa len cap q w wr) (fun _ i _ => 5 - (intOf i).toNat)
  case atStart =>
    refine ⟨0, p, [], rfl, by omega, by omega, by simp, ?_, ⟨by simp, by simp, by simp⟩, ?_, ?_⟩
    · exact ((World.ownsRow_made w #[] 0 (Nat.le_refl _) (by decide) rfl).alloc _)
    · unfold NamesAt oneT
      have := names_new (w.alloc (.cells #[] 50)) (.cells #[.string ⟨#[105]⟩, .string ⟨#[110]⟩, .string ⟨#[113]⟩, .string ⟨#[120]⟩, .string ⟨#[121]⟩] 9)
      simpa using this
    · have hb : Below w.heap.size w ((w.alloc (.cells #[] 50)).alloc (.cells #[.string (oneT 105), .string (oneT 110), .string (oneT 113), .string (oneT 120), .string (oneT 121)] 9)) := ((Below.refl _ _).alloc (Nat.le_refl _) _).alloc (by simp) _
      exact ⟨HR.out.keep hb, Keeps.of_below hb hRo⟩
  case round =>
    obtain ⟨k, q, V, rfl, hk, hq, hVk, hrow, hok, hnm, hd⟩ := hrel
    have HRW := hid hrow
    have HOK := hid hok
    have HN := hid hnm
    have HD := hid hd
    have hzz : w.heap.size ≤ wr.heap.size := hd.2.size
    obtain ⟨ov, cv, rfl⟩ := rowv_shape hrow
    clear hok hd hrow hnm
    by_cases hk5 : k < 5
    · have hk5' : (k : Int) < 5 := by omega
      go_wp2_with fail
      refine (pick_any R oa len cap q 2 _ HD.out.1 (by omega) (by decide)).mono ?_
      rintro e w2 ⟨⟨y, rfl, hy0, hy1⟩, hd2⟩
      have HD2 : Hid (Drawn R oa len cap (q + 1) w w2) := HD.out.trans2 hd2
      have HRW2 := hid (rowv_keeps HRW.out hd2.2 hRo)
      have HN2 := hid (HN.out.keeps hd2.2 (by omega))
      have hzz2 : w.heap.size ≤ w2.heap.size := HD2.out.2.size
      clear hd2 HD HRW HN
      by_cases hy : y = 0
      · subst hy
        obtain ⟨c, hc, c0⟩ := HN2.out.cell hk5
        have HC := hid hc
        clear hc
        go_wp2
        refine wp_region_held_drew (S := fun w' => w'.cell? ⟨w.heap.size + 1, k, none⟩ = some (.string (oneT c))) (by kernel_rfl) ?_ (fun hS => ?_)
        · exact c0
        refine takeH_on 0 (v := ?_) rfl rfl (by kernel_rfl) (by kernel_rfl) (by kernel_rfl) (fun _ _ _ h => h) (by rfl) hS (fun w hSw => ?_) ?_
        rotate_left
        · ((try dsimp only at hSw); go_simp; try with_reducible rfl)
        simp only [List.setIfInBounds_toArray, List.set_cons_zero, List.set_cons_succ]
        refine takeH_on 1 (v := ?_) rfl rfl (by kernel_rfl) (by kernel_rfl) (by kernel_rfl) (fun _ _ _ h => h) (by rfl) hS (fun w hSw => ?_) ?_
        rotate_left
        · ((try dsimp only at hSw); go_simp; try with_reducible rfl)
        simp only [List.setIfInBounds_toArray, List.set_cons_zero, List.set_cons_succ]
        refine takeH_on 2 (v := ?_) rfl rfl (by kernel_rfl) (by kernel_rfl) (by kernel_rfl) (fun _ _ _ h => h) (by rfl) hS (fun w hSw => ?_) ?_
        rotate_left
        · ((try dsimp only at hSw); go_simp; try with_reducible rfl)
        simp only [List.setIfInBounds_toArray, List.set_cons_zero, List.set_cons_succ]
        refine takeH_on 3 (v := .pointer (some ⟨w.heap.size + 1, k, none⟩)) rfl rfl (by kernel_rfl) (by kernel_rfl) (by kernel_rfl) (fun _ _ _ h => h) (by rfl) hS (fun w hSw => ?_) ?_
        · ((try dsimp only at hSw); go_simp; try with_reducible rfl)
        simp only [List.setIfInBounds_toArray, List.set_cons_zero, List.set_cons_succ]
        refine takeH_on 4 (v := .string (oneT c)) rfl rfl (by kernel_rfl) (by kernel_rfl) (by kernel_rfl) (fun _ _ _ h => h) (by rfl) hS (fun w hSw => ?_) ?_
        · ((try dsimp only at hSw); go_simp; try with_reducible rfl)
        simp only [List.setIfInBounds_toArray, List.set_cons_zero, List.set_cons_succ]
        refine takeH_on 5 (v := ?_) rfl rfl (by kernel_rfl) (by kernel_rfl) (by kernel_rfl) (fun _ _ _ h => h) (by rfl) hS (fun w hSw => ?_) ?_
        rotate_left
        · ((try dsimp only at hSw); go_simp; try with_reducible rfl)
        simp only [List.setIfInBounds_toArray, List.set_cons_zero, List.set_cons_succ]
        refine wpAnyH_ready (rs := [6]) (by kernel_rfl) (by simp) (AllReadyH.cons rfl (fun K hK => ?_) AllReadyH.nil)
        clear hS
        go_simp
        obtain ⟨W3, hW3⟩ : ∃ W3, W3 = (w2.alloc (.cells #[Value.string { data := #[] }, Value.string { data := #[49] }, Value.string { data := #[45, 50] }, Value.string { data := #[55] }, Value.string { data := #[97, 32, 98] }, Value.string { data := #[32, 99] }, Value.string { data := #[102, 49] }, Value.string { data := #[42] }, Value.string { data := #[102, 42] }, Value.string { data := #[57, 57, 57, 57, 57, 57] }, Value.string { data := #[116, 119, 111, 32, 119, 111, 114, 100, 115, 32, 104, 101, 114, 101] }] 9)).drew := ⟨_, rfl⟩
        rw [← hW3]
        have HAL : Hid (Below w2.heap.size w2 W3) := by rw [hW3]; exact ((Below.refl _ _).alloc (Nat.le_refl _) _).drew
        have HST : Hid (StrsAt W3 w2.heap.size 11 14) := by rw [hW3]; exact strs_new w2 _ _ 14 _ 11 rfl (by rfl) (by kernel_rfl)
        have hB3 : w2.heap.size < W3.heap.size := by rw [hW3]; simp
        clear hW3
        have HD3 : Hid (Drawn R oa len cap (q + 1) w W3) := HD2.out.belowV HAL.out
        have HRW3 := hid (rowv_keeps HRW2.out (Keeps.of_below HAL.out HD2.out.1.old) hRo)
        have HN3 := hid (HN2.out.keeps (Keeps.of_below HAL.out HD2.out.1.old) (by omega))
        have c3 : W3.cell? ⟨w.heap.size + 1, k, none⟩ = some (.string (oneT c)) := by rw [HAL.out.cell (p := ⟨w.heap.size + 1, k, none⟩) HN2.out.lt]; exact c0
        refine Shut.out hK _ _ c3 (fun hS => ?_)
        clear hK K
        refine wpAnyH_ready (rs := [7]) (by kernel_rfl) (by simp) (AllReadyH.cons rfl (fun K hK => ?_) AllReadyH.nil)
        clear hS
        go_simp
        go_wp2_with fail
        refine (of_any R w2.heap.size 11 14 oa len cap (q + 1) W3 HD3.out.1 (by omega) (by decide) (by decide) hB3 (by have := HD2.out.1.old; omega) HST.out).mono ?_
        rintro e w4 ⟨⟨t, rfl, ht⟩, hd4⟩
        have HD4 : Hid (Drawn R oa len cap (q + 2) w w4) := HD3.out.trans2 hd4
        have HRW4 := hid (rowv_keeps HRW3.out hd4.2 hRo)
        have HN4 := hid (HN3.out.keeps hd4.2 (by omega))
        have c4 : w4.cell? ⟨w.heap.size + 1, k, none⟩ = some (.string (oneT c)) := by rw [hd4.2.cell _ _ HN3.out.lt (by omega)]; exact c3
        have hzz4 : w.heap.size ≤ w4.heap.size := HD4.out.2.size
        clear hd4 c3 hB3
        refine Shut.out hK _ _ c4 (fun hS => ?_)
        clear hK K
        refine takeH_on 8 (v := ?_) rfl rfl (by kernel_rfl) (by kernel_rfl) (by kernel_rfl) (fun _ _ _ h => h) (by rfl) hS (fun w hSw => ?_) ?_
        rotate_left
        · ((try dsimp only at hSw); go_simp; try with_reducible rfl)
        simp only [List.setIfInBounds_toArray, List.set_cons_zero, List.set_cons_succ]
        refine wpAnyH_ready (rs := [9]) (by kernel_rfl) (by simp) (AllReadyH.cons rfl (fun K hK => ?_) AllReadyH.nil)
        clear hS
        go_simp
        obtain ⟨W5, hW5⟩ : ∃ W5, W5 = w4.alloc (.cells #[.string (oneT c), .string t] 50) := ⟨_, rfl⟩
        rw [← hW5]
        have HAL5 : Hid (Below w4.heap.size w4 W5) := by rw [hW5]; exact (Below.refl _ _).alloc (Nat.le_refl _) _
        have HNW : Hid (∀ j u, [Value.string (oneT c), .string t][j]? = some u → W5.cell? ((⟨w4.heap.size, 0, none⟩ : Addr).add j) = some u) := by rw [hW5]; exact cell_newv w4 _ _ _
        clear hW5
        have HD5 : Hid (Drawn R oa len cap (q + 2) w W5) := HD4.out.belowV HAL5.out
        have HRW5 := hid (rowv_keeps HRW4.out (Keeps.of_below HAL5.out HD4.out.1.old) hRo)
        have HN5 := hid (HN4.out.keeps (Keeps.of_below HAL5.out HD4.out.1.old) (by omega))
        have c5 : W5.cell? ⟨w.heap.size + 1, k, none⟩ = some (.string (oneT c)) := by rw [HAL5.out.cell (p := ⟨w.heap.size + 1, k, none⟩) HN4.out.lt]; exact c4
        have hzz5 : w.heap.size ≤ W5.heap.size := HD5.out.2.size
        refine Shut.out hK _ _ c5 (fun hS => ?_)
        clear hK K
        refine wpAnyH_ready (rs := [10]) (by kernel_rfl) (by simp) (AllReadyH.cons rfl (fun K hK => ?_) AllReadyH.nil)
        clear hS
        refine ready_append rfl _ _ 23 rfl w.heap.size 50 i0 (.agg #[.string ⟨#[]⟩, .string ⟨#[]⟩]) 2 32 Try.underlying23 hi hz0 hz1 hz2 rfl (by decide) (.slice ov V.length cv) V.length (vcells V) rfl HRW5.out ⟨w4.heap.size, 0, none⟩ 1 1 [.string (oneT c), .string t] rfl rfl HNW.out (by simp [Value.oneCell']) (by unfold maxLen; omega) (by omega) hzz5 ?_
        intro v' w6 hown6 hgr6
        have HD6 : Hid (Drawn R oa len cap (q + 2) w w6) := Drawn.grownV HR.out HD5.out HRW5.out hgr6
        have HN6 := hid (HN5.out.grown HRW5.out hgr6)
        have HRW6 : Hid (w6.ownsRow w.heap.size 50 2 v' (V ++ [(oneT c, t)]).length (vcells (V ++ [(oneT c, t)]))) := by rw [vcells_app, List.length_append]; exact hown6
        have HOK6 := hid (vok_snoc HOK.out hVk hk5 HC.out ht)
        have c6 : w6.cell? ⟨w.heap.size + 1, k, none⟩ = some (.string (oneT c)) := by rw [World.cell?_of_block (a := ⟨w.heap.size + 1, k, none⟩) (hgr6.block _ HN5.out.lt (fun e => HN5.out.row HRW5.out e.symm))]; exact c5
        obtain ⟨ov6, cv6, rfl⟩ := rowv_shape hown6
        clear hown6 hgr6
        refine Shut.out hK _ _ c6 (fun hS => ?_)
        clear hK K
        refine takeH_on 11 (v := ?_) rfl rfl (by kernel_rfl) (by kernel_rfl) (by kernel_rfl) (fun _ _ _ h => h) (by rfl) hS (fun w hSw => ?_) ?_
        rotate_left
        · ((try dsimp only at hSw); go_simp; try with_reducible rfl)
        simp only [List.setIfInBounds_toArray, List.set_cons_zero, List.set_cons_succ]
        refine wpAnyH_done (by kernel_rfl) ?_ _
        go_wp2
        go_roundw
        case rel => exact ⟨k + 1, q + 2, V ++ [(oneT c, t)], by go_num, by omega, by omega, by simp; omega, by simpa using HRW6.out, HOK6.out, HN6.out, HD6.out⟩
        case measure => simp [intOf]; omega
      · have hy' : (y == 0) = false := by rw [beq_eq_false_iff_ne]; exact hy
        go_wp2
        go_roundw
        case rel => exact ⟨k + 1, q + 1, V, by go_num, by omega, by omega, by omega, HRW2.out, HOK.out, HN2.out, HD2.out⟩
        case measure => simp [intOf]; omega
    · go_wp2
      refine bodyPost_ret (v := .slice ov V.length cv) (by simp [results, Try.results9, go_sem]) rfl ⟨⟨_, V, rfl, vin_of HRW.out HOK.out, HOK.out, fun g hg => (HRW.out.lt g hg).1⟩, q, HD.out⟩

end Go.Proofs.Ytaabcbpbijkmnab
