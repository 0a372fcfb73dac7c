/- DERIVED. The law's own tools at one who decides that knows nothing: eqRep, markRep, heldRep. -/
import Derived.Test.YthabhclbmneekabNumMark
namespace Go.Proofs.Ythabhclbmneekab
open Go.RowKit

theorem cellAt {w : World} {b : Nat} {cur : Array Value} {t : TypeId} (h : w.heap[b]? = some (.cells cur t (0, 0))) (i : Nat) : w.cell? ⟨b, i, none⟩ = cur[i]? := by
  simp [World.cell?, h]

theorem block_below {w w' : World} {b : Nat} {x : Obj} (h : w.heap[b]? = some x) (hb : Below w.heap.size w w') : w'.heap[b]? = some x := by
  rw [hb.block b (Array.getElem?_eq_some_iff.1 h).1]
  exact h

theorem block_grown {w w' : World} {b : Nat} {x : Obj} {g : Option Nat} (h : w.heap[b]? = some x) (hg : w.grownBy w' g) (hne : some b ≠ g) : w'.heap[b]? = some x := by
  rw [hg.block b (Array.getElem?_eq_some_iff.1 h).1 hne]
  exact h

theorem block_alloc (w : World) (x : Obj) : (w.alloc x).heap[w.heap.size]? = some x := by
  show (w.heap.push x)[w.heap.size]? = _
  simp

set_option maxRecDepth 100000 in
set_option maxHeartbeats 3200000 in
theorem eqRep_same (id : Int) (up : Bool) (o1 o2 : Option Addr) (c1 c2 len : Nat) (V : List Int) (w : World) (hl : len = V.length) (hm : len ≤ 1048576) (h1 : NumsAt w o1 V) (h2 : NumsAt w o2 V) :
    Calls Try.prog 6 #[.agg #[.int .i64 id, .string ⟨#[]⟩, .bool up, .int .i64 0, .slice none 0 0, .slice none 0 0, .int .i64 0, .slice none 0 0, .int .i64 0, .int .i64 0, .int .i64 0, .slice o1 len c1, .slice none 0 0, .slice none 0 0], .agg #[.int .i64 id, .string ⟨#[]⟩, .bool up, .int .i64 0, .slice none 0 0, .slice none 0 0, .int .i64 0, .slice none 0 0, .int .i64 0, .int .i64 0, .int .i64 0, .slice o2 len c2, .slice none 0 0, .slice none 0 0]] w fun e w' => e = .returned (.bool true) ∧ Below w.heap.size w w' := by
  have C : Hid (∀ w', Below w.heap.size w w' → Calls Try.prog 16 #[.slice o1 len c1, .slice o2 len c2] w' fun e w2 => e = .returned (.bool true) ∧ Below w'.heap.size w' w2) := fun w' hb => eqS_same o1 o2 c1 c2 len V w' hl hm (h1.below hb) (h2.below hb)
  have HB : Hid (Below w.heap.size w ((w.alloc (.cells #[.int .i64 id, .string ⟨#[]⟩, .bool up, .int .i64 0, .slice none 0 0, .slice none 0 0, .int .i64 0, .slice none 0 0, .int .i64 0, .int .i64 0, .int .i64 0, .slice o1 len c1, .slice none 0 0, .slice none 0 0] 25)).alloc (.cells #[.int .i64 id, .string ⟨#[]⟩, .bool up, .int .i64 0, .slice none 0 0, .slice none 0 0, .int .i64 0, .slice none 0 0, .int .i64 0, .int .i64 0, .int .i64 0, .slice o2 len c2, .slice none 0 0, .slice none 0 0] 25))) := ((Below.refl _ _).alloc (Nat.le_refl _) _).alloc (by simp) _
  have HX : Hid (((w.alloc (.cells #[.int .i64 id, .string ⟨#[]⟩, .bool up, .int .i64 0, .slice none 0 0, .slice none 0 0, .int .i64 0, .slice none 0 0, .int .i64 0, .int .i64 0, .int .i64 0, .slice o1 len c1, .slice none 0 0, .slice none 0 0] 25)).alloc (.cells #[.int .i64 id, .string ⟨#[]⟩, .bool up, .int .i64 0, .slice none 0 0, .slice none 0 0, .int .i64 0, .slice none 0 0, .int .i64 0, .int .i64 0, .int .i64 0, .slice o2 len c2, .slice none 0 0, .slice none 0 0] 25)).heap[w.heap.size]? = some (.cells #[.int .i64 id, .string ⟨#[]⟩, .bool up, .int .i64 0, .slice none 0 0, .slice none 0 0, .int .i64 0, .slice none 0 0, .int .i64 0, .int .i64 0, .int .i64 0, .slice o1 len c1, .slice none 0 0, .slice none 0 0] 25)) := by
    show ((w.heap.push _).push _)[w.heap.size]? = _
    simp [Array.getElem?_push]
  have HY : Hid (((w.alloc (.cells #[.int .i64 id, .string ⟨#[]⟩, .bool up, .int .i64 0, .slice none 0 0, .slice none 0 0, .int .i64 0, .slice none 0 0, .int .i64 0, .int .i64 0, .int .i64 0, .slice o1 len c1, .slice none 0 0, .slice none 0 0] 25)).alloc (.cells #[.int .i64 id, .string ⟨#[]⟩, .bool up, .int .i64 0, .slice none 0 0, .slice none 0 0, .int .i64 0, .slice none 0 0, .int .i64 0, .int .i64 0, .int .i64 0, .slice o2 len c2, .slice none 0 0, .slice none 0 0] 25)).heap[w.heap.size + 1]? = some (.cells #[.int .i64 id, .string ⟨#[]⟩, .bool up, .int .i64 0, .slice none 0 0, .slice none 0 0, .int .i64 0, .slice none 0 0, .int .i64 0, .int .i64 0, .int .i64 0, .slice o2 len c2, .slice none 0 0, .slice none 0 0] 25)) := by
    have e := block_alloc (w.alloc (.cells #[.int .i64 id, .string ⟨#[]⟩, .bool up, .int .i64 0, .slice none 0 0, .slice none 0 0, .int .i64 0, .slice none 0 0, .int .i64 0, .int .i64 0, .int .i64 0, .slice o1 len c1, .slice none 0 0, .slice none 0 0] 25)) (.cells #[.int .i64 id, .string ⟨#[]⟩, .bool up, .int .i64 0, .slice none 0 0, .slice none 0 0, .int .i64 0, .slice none 0 0, .int .i64 0, .int .i64 0, .int .i64 0, .slice o2 len c2, .slice none 0 0, .slice none 0 0] 25)
    rw [show (w.alloc (.cells #[.int .i64 id, .string ⟨#[]⟩, .bool up, .int .i64 0, .slice none 0 0, .slice none 0 0, .int .i64 0, .slice none 0 0, .int .i64 0, .int .i64 0, .int .i64 0, .slice o1 len c1, .slice none 0 0, .slice none 0 0] 25)).heap.size = w.heap.size + 1 by simp] at e
    exact e
  clear hl h1 h2
  go_enter Try.func6, Try.ntmps6
  go_wp2_with fail
  refine (eqE_zero none none 0 0 _).mono ?_
  rintro e w' ⟨rfl, rfl⟩
  go_wp2_with fail
  refine (eqE_zero none none 0 0 _).mono ?_
  rintro e w' ⟨rfl, rfl⟩
  go_wp2_with fail
  refine (eqI_zero none none 0 0 _).mono ?_
  rintro e w' ⟨rfl, rfl⟩
  go_wp2_with fail
  refine (C.out _ HB.out).mono ?_
  rintro e w1 ⟨rfl, hb⟩
  have HB1 : Hid (Below w.heap.size w w1) := HB.out.trans (hb.mono HB.out.size)
  have HX1 := hid (block_below HX.out hb)
  have HY1 := hid (block_below HY.out hb)
  have a12 := cellAt HX1.out 12
  have a13 := cellAt HX1.out 13
  have b12 := cellAt HY1.out 12
  have b13 := cellAt HY1.out 13
  simp at a12 a13 b12 b13
  clear hb
  go_wp2_with fail
  refine (eqE_zero none none 0 0 _).mono ?_
  rintro e w' ⟨rfl, rfl⟩
  go_wp2_with fail
  refine (eqI_zero none none 0 0 _).mono ?_
  rintro e w' ⟨rfl, rfl⟩
  go_wp2
  go_ret
  exact ⟨rfl, HB1.out⟩

set_option maxRecDepth 100000 in
set_option maxHeartbeats 3200000 in
theorem markRep_zero (id : Int) (up : Bool) (oa : Option Addr) (cap : Nat) (w : World) :
    Calls Try.prog 7 #[.agg #[.int .i64 id, .string ⟨#[]⟩, .bool up, .int .i64 0, .slice none 0 0, .slice none 0 0, .int .i64 0, .slice none 0 0, .int .i64 0, .int .i64 0, .int .i64 0, .slice oa 0 cap, .slice none 0 0, .slice none 0 0], .int .i64 1] w fun e w' => e = .returned (.int .i64 1) ∧ Below w.heap.size w w' := by
  have HB : Hid (Below w.heap.size w (w.alloc (.cells #[.int .i64 id, .string ⟨#[]⟩, .bool up, .int .i64 0, .slice none 0 0, .slice none 0 0, .int .i64 0, .slice none 0 0, .int .i64 0, .int .i64 0, .int .i64 0, .slice oa 0 cap, .slice none 0 0, .slice none 0 0] 25))) := (Below.refl _ _).alloc (Nat.le_refl _) _
  go_enter Try.func7, Try.ntmps7
  go_wp2_with fail
  refine (markE_zero none 0 1 _).mono ?_
  rintro e w' ⟨rfl, rfl⟩
  go_wp2_with fail
  refine (markE_zero none 0 1 _).mono ?_
  rintro e w' ⟨rfl, rfl⟩
  go_wp2_with fail
  refine (markI_zero none 0 1 _).mono ?_
  rintro e w' ⟨rfl, rfl⟩
  go_wp2_with fail
  refine (markI_zero oa cap 1 _).mono ?_
  rintro e w' ⟨rfl, rfl⟩
  go_wp2_with fail
  refine (markE_zero none 0 1 _).mono ?_
  rintro e w' ⟨rfl, rfl⟩
  go_wp2_with fail
  refine (markI_zero none 0 1 _).mono ?_
  rintro e w' ⟨rfl, rfl⟩
  go_wp2
  go_ret
  exact ⟨rfl, HB.out⟩

set_option maxRecDepth 100000 in
set_option maxHeartbeats 3200000 in
theorem markRep_any (id : Int) (up : Bool) (g n cap base : Nat) (xs : List Value) (w : World) (hn : n ≤ 10000) (hx : xs.length = n) (hg : g < w.heap.size) (h0 : w.ownsRow base 3 1 (.slice (some ⟨g, 0, none⟩) n cap) n xs) :
    Calls Try.prog 7 #[.agg #[.int .i64 id, .string ⟨#[]⟩, .bool up, .int .i64 0, .slice none 0 0, .slice none 0 0, .int .i64 0, .slice none 0 0, .int .i64 0, .int .i64 0, .int .i64 0, .slice (some ⟨g, 0, none⟩) n cap, .slice none 0 0, .slice none 0 0], .int .i64 1] w fun e w' => e = .returned (.int .i64 ((n + 1 : Nat) : Int)) ∧ w'.ownsRow base 3 1 (.slice (some ⟨g, 0, none⟩) n cap) n ((List.range n).map markI) ∧ w.grownBy w' (some g) := by
  have hb0 : Below w.heap.size w (w.alloc (.cells #[.int .i64 id, .string ⟨#[]⟩, .bool up, .int .i64 0, .slice none 0 0, .slice none 0 0, .int .i64 0, .slice none 0 0, .int .i64 0, .int .i64 0, .int .i64 0, .slice (some ⟨g, 0, none⟩) n cap, .slice none 0 0, .slice none 0 0] 25)) := (Below.refl _ _).alloc (Nat.le_refl _) _
  have HR : Hid ((w.alloc (.cells #[.int .i64 id, .string ⟨#[]⟩, .bool up, .int .i64 0, .slice none 0 0, .slice none 0 0, .int .i64 0, .slice none 0 0, .int .i64 0, .int .i64 0, .int .i64 0, .slice (some ⟨g, 0, none⟩) n cap, .slice none 0 0, .slice none 0 0] 25)).ownsRow base 3 1 (.slice (some ⟨g, 0, none⟩) n cap) n xs) := row_below h0 hb0
  have HG : Hid (w.grownBy (w.alloc (.cells #[.int .i64 id, .string ⟨#[]⟩, .bool up, .int .i64 0, .slice none 0 0, .slice none 0 0, .int .i64 0, .slice none 0 0, .int .i64 0, .int .i64 0, .int .i64 0, .slice (some ⟨g, 0, none⟩) n cap, .slice none 0 0, .slice none 0 0] 25)) (some g)) := grown_below hb0 _
  have HX : Hid ((w.alloc (.cells #[.int .i64 id, .string ⟨#[]⟩, .bool up, .int .i64 0, .slice none 0 0, .slice none 0 0, .int .i64 0, .slice none 0 0, .int .i64 0, .int .i64 0, .int .i64 0, .slice (some ⟨g, 0, none⟩) n cap, .slice none 0 0, .slice none 0 0] 25)).heap[w.heap.size]? = some (.cells #[.int .i64 id, .string ⟨#[]⟩, .bool up, .int .i64 0, .slice none 0 0, .slice none 0 0, .int .i64 0, .slice none 0 0, .int .i64 0, .int .i64 0, .int .i64 0, .slice (some ⟨g, 0, none⟩) n cap, .slice none 0 0, .slice none 0 0] 25)) := block_alloc _ _
  obtain ⟨z, hz⟩ : ∃ z, z = n + 1 := ⟨_, rfl⟩
  have CM : Hid (∀ W : World, W.ownsRow base 3 1 (.slice (some ⟨g, 0, none⟩) n cap) n xs → Calls Try.prog 18 #[.slice (some ⟨g, 0, none⟩) n cap, .int .i64 1] W fun e w' => e = .returned (.int .i64 (z : Int)) ∧ w'.ownsRow base 3 1 (.slice (some ⟨g, 0, none⟩) n cap) n ((List.range n).map markI) ∧ W.grownBy w' (some g)) := fun W h => by rw [hz]; exact markI_any g n cap base xs W hn hx h
  have HNE : Hid (some w.heap.size ≠ some g) := by
    intro c
    injection c with c
    omega
  rw [← hz]
  clear hz h0 hb0 hx hg
  go_enter Try.func7, Try.ntmps7
  go_wp2_with fail
  refine (markE_zero none 0 1 _).mono ?_
  rintro e w' ⟨rfl, rfl⟩
  go_wp2_with fail
  refine (markE_zero none 0 1 _).mono ?_
  rintro e w' ⟨rfl, rfl⟩
  go_wp2_with fail
  refine (markI_zero none 0 1 _).mono ?_
  rintro e w' ⟨rfl, rfl⟩
  go_wp2_with fail
  refine (CM.out _ HR.out).mono ?_
  rintro e w1 ⟨rfl, hr, hgr⟩
  have HR1 := hid hr
  have HG1 := hid (HG.out.trans hgr)
  have HX1 := hid (block_grown HX.out hgr HNE.out)
  have a12 := cellAt HX1.out 12
  have a13 := cellAt HX1.out 13
  simp at a12 a13
  clear hr hgr
  go_wp2_with fail
  refine (markE_zero none 0 _ _).mono ?_
  rintro e w' ⟨rfl, rfl⟩
  go_wp2_with fail
  refine (markI_zero none 0 _ _).mono ?_
  rintro e w' ⟨rfl, rfl⟩
  go_wp2
  go_ret
  exact ⟨rfl, HR1.out, HG1.out⟩

set_option maxRecDepth 100000 in
set_option maxHeartbeats 3200000 in
theorem heldRep_zero (id : Int) (up : Bool) (oa : Option Addr) (cap : Nat) (w : World) :
    Calls Try.prog 8 #[.agg #[.int .i64 id, .string ⟨#[]⟩, .bool up, .int .i64 0, .slice none 0 0, .slice none 0 0, .int .i64 0, .slice none 0 0, .int .i64 0, .int .i64 0, .int .i64 0, .slice oa 0 cap, .slice none 0 0, .slice none 0 0], .int .i64 1] w fun e w' => e = .returned (.int .i64 1) ∧ Below w.heap.size w w' := by
  have HB : Hid (Below w.heap.size w (w.alloc (.cells #[.int .i64 id, .string ⟨#[]⟩, .bool up, .int .i64 0, .slice none 0 0, .slice none 0 0, .int .i64 0, .slice none 0 0, .int .i64 0, .int .i64 0, .int .i64 0, .slice oa 0 cap, .slice none 0 0, .slice none 0 0] 25))) := (Below.refl _ _).alloc (Nat.le_refl _) _
  go_enter Try.func8, Try.ntmps8
  go_wp2_with fail
  refine (heldE_zero none 0 1 _).mono ?_
  rintro e w' ⟨rfl, rfl⟩
  go_wp2_with fail
  refine (heldE_zero none 0 1 _).mono ?_
  rintro e w' ⟨rfl, rfl⟩
  go_wp2_with fail
  refine (heldI_zero none 0 1 _).mono ?_
  rintro e w' ⟨rfl, rfl⟩
  go_wp2_with fail
  refine (heldI_zero oa cap 1 _).mono ?_
  rintro e w' ⟨rfl, rfl⟩
  go_wp2_with fail
  refine (heldE_zero none 0 1 _).mono ?_
  rintro e w' ⟨rfl, rfl⟩
  go_wp2_with fail
  refine (heldI_zero none 0 1 _).mono ?_
  rintro e w' ⟨rfl, rfl⟩
  go_wp2
  go_ret
  exact ⟨rfl, HB.out⟩

set_option maxRecDepth 100000 in
set_option maxHeartbeats 3200000 in
theorem heldRep_any (id : Int) (up : Bool) (g n cap : Nat) (w : World) (hn : n ≤ 10000) (R : ∀ i, i < n → w.cell? ⟨g, i, none⟩ = some (markI i)) :
    Calls Try.prog 8 #[.agg #[.int .i64 id, .string ⟨#[]⟩, .bool up, .int .i64 0, .slice none 0 0, .slice none 0 0, .int .i64 0, .slice none 0 0, .int .i64 0, .int .i64 0, .int .i64 0, .slice (some ⟨g, 0, none⟩) n cap, .slice none 0 0, .slice none 0 0], .int .i64 1] w fun e w' => e = .returned (.int .i64 ((n + 1 : Nat) : Int)) ∧ Below w.heap.size w w' := by
  have hb0 : Below w.heap.size w (w.alloc (.cells #[.int .i64 id, .string ⟨#[]⟩, .bool up, .int .i64 0, .slice none 0 0, .slice none 0 0, .int .i64 0, .slice none 0 0, .int .i64 0, .int .i64 0, .int .i64 0, .slice (some ⟨g, 0, none⟩) n cap, .slice none 0 0, .slice none 0 0] 25)) := (Below.refl _ _).alloc (Nat.le_refl _) _
  have HB := hid hb0
  obtain ⟨z, hz⟩ : ∃ z, z = n + 1 := ⟨_, rfl⟩
  have CM : Hid (∀ W : World, Below w.heap.size w W → Calls Try.prog 20 #[.slice (some ⟨g, 0, none⟩) n cap, .int .i64 1] W fun e w' => e = .returned (.int .i64 (z : Int)) ∧ ∃ nq, w' = W.drewN nq) := fun W h => by
    rw [hz]
    exact heldI_any g n cap W hn (fun i hi => by rw [h.cell (p := ⟨g, i, none⟩) (World.block_lt_of_cell? w _ (R i hi))]; exact R i hi)
  have hz0 : ¬ (z : Int) < 0 := by omega
  rw [← hz]
  clear hz hb0
  go_enter Try.func8, Try.ntmps8
  go_wp2_with fail
  refine (heldE_zero none 0 1 _).mono ?_
  rintro e w' ⟨rfl, rfl⟩
  go_wp2_with fail
  refine (heldE_zero none 0 1 _).mono ?_
  rintro e w' ⟨rfl, rfl⟩
  go_wp2_with fail
  refine (heldI_zero none 0 1 _).mono ?_
  rintro e w' ⟨rfl, rfl⟩
  go_wp2_with fail
  refine (CM.out _ HB.out).mono ?_
  rintro e w1 ⟨rfl, nq, rfl⟩
  go_wp2_with fail
  refine (heldE_zero none 0 _ _).mono ?_
  rintro e w' ⟨rfl, rfl⟩
  go_wp2_with fail
  refine (heldI_zero none 0 _ _).mono ?_
  rintro e w' ⟨rfl, rfl⟩
  go_wp2
  go_ret
  exact ⟨rfl, below_drewN HB.out _⟩

end Go.Proofs.Ythabhclbmneekab
