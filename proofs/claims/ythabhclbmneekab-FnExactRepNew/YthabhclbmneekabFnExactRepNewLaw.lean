/- DERIVED. The law FnExactRepNew at every number. -/
import Derived.Test.YthabhclbmneekabRepNewAny
namespace Go.Proofs.Ythabhclbmneekab
open Go.RowKit

theorem noneL_len (n : Nat) : (noneL n).length = n := by simp [noneL]

theorem rowNums {w : World} {base n cp : Nat} {oa : Option Addr} (h : w.ownsRow base 3 1 (.slice oa n cp) n ((noneL n).map (Value.int .i64))) : NumsAt w oa (noneL n) := by
  have h' : w.ownsRow base 3 1 (.slice oa n cp) (noneL n).length ((noneL n).map (Value.int .i64)) := by rw [noneL_len]; exact h
  obtain ⟨oa', cp', e, _, _, hN⟩ := nums_of h'
  injection e with e1 e2 e3
  subst e1
  exact hN

set_option maxRecDepth 100000 in
set_option maxHeartbeats 3200000 in
theorem law_yes (id : Int) (n : Nat) (w : World) (hi : inB id 10 12 = true) (h1 : 1 ≤ n) (h3 : n ≤ 3) :
    Calls Try.prog 3 #[.int .i64 id, .int .i64 (n : Int)] w fun e w' => e = .returned (.bool true) ∧ Below w.heap.size w w' := by
  have CS : Hid (∀ w, Calls Try.prog 4 #[.int .i64 id, .int .i64 (n : Int)] w fun e w' => ∃ v, e = .returned (.agg #[.int .i64 id, .string ⟨#[]⟩, .bool true, .int .i64 0, .slice none 0 0, .slice none 0 0, .int .i64 0, .slice none 0 0, .int .i64 0, .int .i64 0, .int .i64 0, v, .slice none 0 0, .slice none 0 0]) ∧ w'.ownsRow w.heap.size 3 1 v n ((noneL n).map (Value.int .i64)) ∧ Below w.heap.size w w') := fun w => specNew_yes id n w hi h1 h3
  have CI : Hid (∀ w, Calls Try.prog 5 #[.int .i64 id, .int .i64 (n : Int)] w fun e w' => ∃ v, e = .returned (.agg #[.int .i64 id, .string ⟨#[]⟩, .bool true, .int .i64 0, .slice none 0 0, .slice none 0 0, .int .i64 0, .slice none 0 0, .int .i64 0, .int .i64 0, .int .i64 0, v, .slice none 0 0, .slice none 0 0]) ∧ w'.ownsRow w.heap.size 3 1 v n ((noneL n).map (Value.int .i64)) ∧ Below w.heap.size w w') := fun w => implNew_yes id n w hi h1 h3
  clear hi
  obtain ⟨m, hm⟩ : ∃ m, m = n + 1 := ⟨_, rfl⟩
  have HM := hid hm
  have hm0 : ¬ (m : Int) < 0 := by omega
  clear hm
  go_enter Try.func3, Try.ntmps3
  go_wp2_with fail
  refine (CS.out _).mono ?_
  rintro e w1 ⟨v, rfl, hr, hb⟩
  obtain ⟨oa0, c0, rfl⟩ := row_shape hr
  have HW1 : Hid (w.heap.size ≤ w1.heap.size) := hb.size
  have HNE0 : Hid (∀ k, (Value.slice oa0 n c0).ownBlock = some k → k < w1.heap.size) := fun k hk => (hr.lt k hk).2
  have hal : Below w1.heap.size w1 (w1.alloc (.cells #[.int .i64 id, .string ⟨#[]⟩, .bool true, .int .i64 0, .slice none 0 0, .slice none 0 0, .int .i64 0, .slice none 0 0, .int .i64 0, .int .i64 0, .int .i64 0, .slice oa0 n c0, .slice none 0 0, .slice none 0 0] 25)) := (Below.refl _ _).alloc (Nat.le_refl _) _
  have HR0 : Hid ((w1.alloc (.cells #[.int .i64 id, .string ⟨#[]⟩, .bool true, .int .i64 0, .slice none 0 0, .slice none 0 0, .int .i64 0, .slice none 0 0, .int .i64 0, .int .i64 0, .int .i64 0, .slice oa0 n c0, .slice none 0 0, .slice none 0 0] 25)).ownsRow w.heap.size 3 1 (.slice oa0 n c0) n ((noneL n).map (Value.int .i64))) := row_below hr hal
  have HP : Hid ((w1.alloc (.cells #[.int .i64 id, .string ⟨#[]⟩, .bool true, .int .i64 0, .slice none 0 0, .slice none 0 0, .int .i64 0, .slice none 0 0, .int .i64 0, .int .i64 0, .int .i64 0, .slice oa0 n c0, .slice none 0 0, .slice none 0 0] 25)).heap[w1.heap.size]? = some (.cells #[.int .i64 id, .string ⟨#[]⟩, .bool true, .int .i64 0, .slice none 0 0, .slice none 0 0, .int .i64 0, .slice none 0 0, .int .i64 0, .int .i64 0, .int .i64 0, .slice oa0 n c0, .slice none 0 0, .slice none 0 0] 25 (0, 0))) := block_alloc _ _
  have HBA : Hid (Below w.heap.size w (w1.alloc (.cells #[.int .i64 id, .string ⟨#[]⟩, .bool true, .int .i64 0, .slice none 0 0, .slice none 0 0, .int .i64 0, .slice none 0 0, .int .i64 0, .int .i64 0, .int .i64 0, .slice oa0 n c0, .slice none 0 0, .slice none 0 0] 25))) := hb.trans (hal.mono hb.size)
  clear hr hb hal
  go_wp2_with fail
  refine (CI.out _).mono ?_
  rintro e w2 ⟨v, rfl, hr, hb⟩
  obtain ⟨g, c1, rfl, hbg, hgw, _, _, _⟩ := row_cells hr (by omega)
  have hlt : w1.heap.size < w2.heap.size := by have := hb.size; simp at this; omega
  have HWS : Hid (w.heap.size ≤ w1.heap.size) := HW1.out
  have HPG : Hid (w1.heap.size < g) := by have := hbg; simp at this; show _ < _; omega
  have HGW : Hid (g < w2.heap.size) := hgw
  have HP2 := hid (block_below HP.out hb)
  have hal : Below w2.heap.size w2 (w2.alloc (.cells #[.int .i64 id, .string ⟨#[]⟩, .bool true, .int .i64 0, .slice none 0 0, .slice none 0 0, .int .i64 0, .slice none 0 0, .int .i64 0, .int .i64 0, .int .i64 0, .slice (some ⟨g, 0, none⟩) n c1, .slice none 0 0, .slice none 0 0] 25)) := (Below.refl _ _).alloc (Nat.le_refl _) _
  have HR1 := hid (row_below hr hal)
  have HR02 := hid (row_below (row_below HR0.out hb) hal)
  have HP3 := hid (block_below HP2.out hal)
  have HQ3 : Hid ((w2.alloc (.cells #[.int .i64 id, .string ⟨#[]⟩, .bool true, .int .i64 0, .slice none 0 0, .slice none 0 0, .int .i64 0, .slice none 0 0, .int .i64 0, .int .i64 0, .int .i64 0, .slice (some ⟨g, 0, none⟩) n c1, .slice none 0 0, .slice none 0 0] 25)).heap[w2.heap.size]? = some (.cells #[.int .i64 id, .string ⟨#[]⟩, .bool true, .int .i64 0, .slice none 0 0, .slice none 0 0, .int .i64 0, .slice none 0 0, .int .i64 0, .int .i64 0, .int .i64 0, .slice (some ⟨g, 0, none⟩) n c1, .slice none 0 0, .slice none 0 0] 25 (0, 0))) := block_alloc _ _
  have HBB : Hid (Below w.heap.size w (w2.alloc (.cells #[.int .i64 id, .string ⟨#[]⟩, .bool true, .int .i64 0, .slice none 0 0, .slice none 0 0, .int .i64 0, .slice none 0 0, .int .i64 0, .int .i64 0, .int .i64 0, .slice (some ⟨g, 0, none⟩) n c1, .slice none 0 0, .slice none 0 0] 25))) := (HBA.out.trans (hb.mono HBA.out.size)).trans (hal.mono (Nat.le_trans HBA.out.size hb.size))
  clear hr hb hal hbg hgw HR0 HP HBA
  have p0 : w2.cell? ⟨w1.heap.size, 0, none⟩ = some (.int .i64 id) := by rw [cellAt HP2.out 0]; rfl
  have p1 : w2.cell? ⟨w1.heap.size, 1, none⟩ = some (.string ⟨#[]⟩) := by rw [cellAt HP2.out 1]; rfl
  have p2 : w2.cell? ⟨w1.heap.size, 2, none⟩ = some (.bool true) := by rw [cellAt HP2.out 2]; rfl
  have p3 : w2.cell? ⟨w1.heap.size, 3, none⟩ = some (.int .i64 0) := by rw [cellAt HP2.out 3]; rfl
  have p4 : w2.cell? ⟨w1.heap.size, 4, none⟩ = some (.slice none 0 0) := by rw [cellAt HP2.out 4]; rfl
  have p5 : w2.cell? ⟨w1.heap.size, 5, none⟩ = some (.slice none 0 0) := by rw [cellAt HP2.out 5]; rfl
  have p6 : w2.cell? ⟨w1.heap.size, 6, none⟩ = some (.int .i64 0) := by rw [cellAt HP2.out 6]; rfl
  have p7 : w2.cell? ⟨w1.heap.size, 7, none⟩ = some (.slice none 0 0) := by rw [cellAt HP2.out 7]; rfl
  have p8 : w2.cell? ⟨w1.heap.size, 8, none⟩ = some (.int .i64 0) := by rw [cellAt HP2.out 8]; rfl
  have p9 : w2.cell? ⟨w1.heap.size, 9, none⟩ = some (.int .i64 0) := by rw [cellAt HP2.out 9]; rfl
  have p10 : w2.cell? ⟨w1.heap.size, 10, none⟩ = some (.int .i64 0) := by rw [cellAt HP2.out 10]; rfl
  have p11 : w2.cell? ⟨w1.heap.size, 11, none⟩ = some (.slice oa0 n c0) := by rw [cellAt HP2.out 11]; rfl
  have p12 : w2.cell? ⟨w1.heap.size, 12, none⟩ = some (.slice none 0 0) := by rw [cellAt HP2.out 12]; rfl
  have p13 : w2.cell? ⟨w1.heap.size, 13, none⟩ = some (.slice none 0 0) := by rw [cellAt HP2.out 13]; rfl
  go_wp2_with fail
  refine (eqRep_same id true _ _ _ _ n (noneL n) _ (by rw [noneL_len]) (by omega) (rowNums HR1.out) (rowNums HR02.out)).mono ?_
  rintro e w3 ⟨rfl, hb⟩
  have HR13 := hid (row_below HR1.out hb)
  have HR03 := hid (row_below HR02.out hb)
  have HP4 := hid (block_below HP3.out hb)
  have HQ4 := hid (block_below HQ3.out hb)
  have HB3 := hid (HBB.out.trans (hb.mono HBB.out.size))
  have HS3 : Hid (w2.heap.size < w3.heap.size) := by have := hb.size; simp at this; show _ < _; omega
  clear hb HR1 HR02 HP3 HQ3 HBB
  clear p0 p1 p2 p3 p4 p5 p6 p7 p8 p9 p10 p11 p12 p13
  have q0 : w3.cell? ⟨w2.heap.size, 0, none⟩ = some (.int .i64 id) := by rw [cellAt HQ4.out 0]; rfl
  have q1 : w3.cell? ⟨w2.heap.size, 1, none⟩ = some (.string ⟨#[]⟩) := by rw [cellAt HQ4.out 1]; rfl
  have q2 : w3.cell? ⟨w2.heap.size, 2, none⟩ = some (.bool true) := by rw [cellAt HQ4.out 2]; rfl
  have q3 : w3.cell? ⟨w2.heap.size, 3, none⟩ = some (.int .i64 0) := by rw [cellAt HQ4.out 3]; rfl
  have q4 : w3.cell? ⟨w2.heap.size, 4, none⟩ = some (.slice none 0 0) := by rw [cellAt HQ4.out 4]; rfl
  have q5 : w3.cell? ⟨w2.heap.size, 5, none⟩ = some (.slice none 0 0) := by rw [cellAt HQ4.out 5]; rfl
  have q6 : w3.cell? ⟨w2.heap.size, 6, none⟩ = some (.int .i64 0) := by rw [cellAt HQ4.out 6]; rfl
  have q7 : w3.cell? ⟨w2.heap.size, 7, none⟩ = some (.slice none 0 0) := by rw [cellAt HQ4.out 7]; rfl
  have q8 : w3.cell? ⟨w2.heap.size, 8, none⟩ = some (.int .i64 0) := by rw [cellAt HQ4.out 8]; rfl
  have q9 : w3.cell? ⟨w2.heap.size, 9, none⟩ = some (.int .i64 0) := by rw [cellAt HQ4.out 9]; rfl
  have q10 : w3.cell? ⟨w2.heap.size, 10, none⟩ = some (.int .i64 0) := by rw [cellAt HQ4.out 10]; rfl
  have q11 : w3.cell? ⟨w2.heap.size, 11, none⟩ = some (.slice (some ⟨g, 0, none⟩) n c1) := by rw [cellAt HQ4.out 11]; rfl
  have q12 : w3.cell? ⟨w2.heap.size, 12, none⟩ = some (.slice none 0 0) := by rw [cellAt HQ4.out 12]; rfl
  have q13 : w3.cell? ⟨w2.heap.size, 13, none⟩ = some (.slice none 0 0) := by rw [cellAt HQ4.out 13]; rfl
  go_wp2_with fail
  refine (markRep_any id true g n c1 _ _ _ (by omega) (by simp [noneL]) (Nat.lt_trans HGW.out HS3.out) HR13.out).mono ?_
  rw [← HM.out]
  rintro e w4 ⟨rfl, hmk, hgr⟩
  have HMK := hid hmk
  have HR04 := hid (row_grown HR03.out hgr HNE0.out (Nat.le_of_lt HPG.out))
  have HP5 := hid (block_grown HP4.out hgr (fun c => by injection c with c; have := HPG.out; omega))
  have HQ5 := hid (block_grown HQ4.out hgr (fun c => by injection c with c; have := HGW.out; omega))
  have HB4 : Hid (Below w.heap.size w w4) := HB3.out.grown hgr HB3.out.size (fun k hk => by injection hk with hk; have := HPG.out; have := HWS.out; omega)
  clear hmk hgr HR13 HR03 HP4 HQ4 HB3
  clear q0 q1 q2 q3 q4 q5 q6 q7 q8 q9 q10 q11 q12 q13
  have q0 : w4.cell? ⟨w2.heap.size, 0, none⟩ = some (.int .i64 id) := by rw [cellAt HQ5.out 0]; rfl
  have q1 : w4.cell? ⟨w2.heap.size, 1, none⟩ = some (.string ⟨#[]⟩) := by rw [cellAt HQ5.out 1]; rfl
  have q2 : w4.cell? ⟨w2.heap.size, 2, none⟩ = some (.bool true) := by rw [cellAt HQ5.out 2]; rfl
  have q3 : w4.cell? ⟨w2.heap.size, 3, none⟩ = some (.int .i64 0) := by rw [cellAt HQ5.out 3]; rfl
  have q4 : w4.cell? ⟨w2.heap.size, 4, none⟩ = some (.slice none 0 0) := by rw [cellAt HQ5.out 4]; rfl
  have q5 : w4.cell? ⟨w2.heap.size, 5, none⟩ = some (.slice none 0 0) := by rw [cellAt HQ5.out 5]; rfl
  have q6 : w4.cell? ⟨w2.heap.size, 6, none⟩ = some (.int .i64 0) := by rw [cellAt HQ5.out 6]; rfl
  have q7 : w4.cell? ⟨w2.heap.size, 7, none⟩ = some (.slice none 0 0) := by rw [cellAt HQ5.out 7]; rfl
  have q8 : w4.cell? ⟨w2.heap.size, 8, none⟩ = some (.int .i64 0) := by rw [cellAt HQ5.out 8]; rfl
  have q9 : w4.cell? ⟨w2.heap.size, 9, none⟩ = some (.int .i64 0) := by rw [cellAt HQ5.out 9]; rfl
  have q10 : w4.cell? ⟨w2.heap.size, 10, none⟩ = some (.int .i64 0) := by rw [cellAt HQ5.out 10]; rfl
  have q11 : w4.cell? ⟨w2.heap.size, 11, none⟩ = some (.slice (some ⟨g, 0, none⟩) n c1) := by rw [cellAt HQ5.out 11]; rfl
  have q12 : w4.cell? ⟨w2.heap.size, 12, none⟩ = some (.slice none 0 0) := by rw [cellAt HQ5.out 12]; rfl
  have q13 : w4.cell? ⟨w2.heap.size, 13, none⟩ = some (.slice none 0 0) := by rw [cellAt HQ5.out 13]; rfl
  go_wp2_with fail
  refine (heldRep_any id true g n c1 _ (by omega) (markedAt HMK.out)).mono ?_
  rw [← HM.out]
  rintro e w5 ⟨rfl, hb⟩
  have HMK5 := hid (row_below HMK.out hb)
  have HR05 := hid (row_below HR04.out hb)
  have HP6 := hid (block_below HP5.out hb)
  have HQ6 := hid (block_below HQ5.out hb)
  have HB5 := hid (HB4.out.trans (hb.mono HB4.out.size))
  clear hb HMK HR04 HP5 HQ5 HB4
  clear q0 q1 q2 q3 q4 q5 q6 q7 q8 q9 q10 q11 q12 q13
  go_wp2_with fail
  refine (CI.out _).mono ?_
  rintro e w6 ⟨v, rfl, hr, hb⟩
  obtain ⟨oa2, c2, rfl⟩ := row_shape hr
  have HP7 := hid (block_below HP6.out hb)
  have HS6 : w1.heap.size < w6.heap.size := (Array.getElem?_eq_some_iff.1 HP7.out).1
  have hal : Below w6.heap.size w6 (w6.alloc (.cells #[.int .i64 id, .string ⟨#[]⟩, .bool true, .int .i64 0, .slice none 0 0, .slice none 0 0, .int .i64 0, .slice none 0 0, .int .i64 0, .int .i64 0, .int .i64 0, .slice oa2 n c2, .slice none 0 0, .slice none 0 0] 25)) := (Below.refl _ _).alloc (Nat.le_refl _) _
  have HR2 := hid (row_below hr hal)
  have HR07 := hid (row_below (row_below HR05.out hb) hal)
  have HMK7 := hid (row_below (row_below HMK5.out hb) hal)
  have HQ7 := hid (block_below (block_below HQ6.out hb) hal)
  have HB7 : Hid (Below w.heap.size w (w6.alloc (.cells #[.int .i64 id, .string ⟨#[]⟩, .bool true, .int .i64 0, .slice none 0 0, .slice none 0 0, .int .i64 0, .slice none 0 0, .int .i64 0, .int .i64 0, .int .i64 0, .slice oa2 n c2, .slice none 0 0, .slice none 0 0] 25))) := (HB5.out.trans (hb.mono HB5.out.size)).trans (hal.mono (Nat.le_trans HB5.out.size hb.size))
  clear hr hb hal HR05 HP6 HQ6 HMK5 HB5
  have p0 : w6.cell? ⟨w1.heap.size, 0, none⟩ = some (.int .i64 id) := by rw [cellAt HP7.out 0]; rfl
  have p1 : w6.cell? ⟨w1.heap.size, 1, none⟩ = some (.string ⟨#[]⟩) := by rw [cellAt HP7.out 1]; rfl
  have p2 : w6.cell? ⟨w1.heap.size, 2, none⟩ = some (.bool true) := by rw [cellAt HP7.out 2]; rfl
  have p3 : w6.cell? ⟨w1.heap.size, 3, none⟩ = some (.int .i64 0) := by rw [cellAt HP7.out 3]; rfl
  have p4 : w6.cell? ⟨w1.heap.size, 4, none⟩ = some (.slice none 0 0) := by rw [cellAt HP7.out 4]; rfl
  have p5 : w6.cell? ⟨w1.heap.size, 5, none⟩ = some (.slice none 0 0) := by rw [cellAt HP7.out 5]; rfl
  have p6 : w6.cell? ⟨w1.heap.size, 6, none⟩ = some (.int .i64 0) := by rw [cellAt HP7.out 6]; rfl
  have p7 : w6.cell? ⟨w1.heap.size, 7, none⟩ = some (.slice none 0 0) := by rw [cellAt HP7.out 7]; rfl
  have p8 : w6.cell? ⟨w1.heap.size, 8, none⟩ = some (.int .i64 0) := by rw [cellAt HP7.out 8]; rfl
  have p9 : w6.cell? ⟨w1.heap.size, 9, none⟩ = some (.int .i64 0) := by rw [cellAt HP7.out 9]; rfl
  have p10 : w6.cell? ⟨w1.heap.size, 10, none⟩ = some (.int .i64 0) := by rw [cellAt HP7.out 10]; rfl
  have p11 : w6.cell? ⟨w1.heap.size, 11, none⟩ = some (.slice oa0 n c0) := by rw [cellAt HP7.out 11]; rfl
  have p12 : w6.cell? ⟨w1.heap.size, 12, none⟩ = some (.slice none 0 0) := by rw [cellAt HP7.out 12]; rfl
  have p13 : w6.cell? ⟨w1.heap.size, 13, none⟩ = some (.slice none 0 0) := by rw [cellAt HP7.out 13]; rfl
  go_wp2_with fail
  refine (eqRep_same id true _ _ _ _ n (noneL n) _ (by rw [noneL_len]) (by omega) (rowNums HR2.out) (rowNums HR07.out)).mono ?_
  rintro e w8 ⟨rfl, hb⟩
  have HMK8 := hid (row_below HMK7.out hb)
  have HQ8 := hid (block_below HQ7.out hb)
  have HB8 := hid (HB7.out.trans (hb.mono HB7.out.size))
  clear hb HR2 HR07 HMK7 HQ7 HB7
  clear p0 p1 p2 p3 p4 p5 p6 p7 p8 p9 p10 p11 p12 p13
  have q0 : w8.cell? ⟨w2.heap.size, 0, none⟩ = some (.int .i64 id) := by rw [cellAt HQ8.out 0]; rfl
  have q1 : w8.cell? ⟨w2.heap.size, 1, none⟩ = some (.string ⟨#[]⟩) := by rw [cellAt HQ8.out 1]; rfl
  have q2 : w8.cell? ⟨w2.heap.size, 2, none⟩ = some (.bool true) := by rw [cellAt HQ8.out 2]; rfl
  have q3 : w8.cell? ⟨w2.heap.size, 3, none⟩ = some (.int .i64 0) := by rw [cellAt HQ8.out 3]; rfl
  have q4 : w8.cell? ⟨w2.heap.size, 4, none⟩ = some (.slice none 0 0) := by rw [cellAt HQ8.out 4]; rfl
  have q5 : w8.cell? ⟨w2.heap.size, 5, none⟩ = some (.slice none 0 0) := by rw [cellAt HQ8.out 5]; rfl
  have q6 : w8.cell? ⟨w2.heap.size, 6, none⟩ = some (.int .i64 0) := by rw [cellAt HQ8.out 6]; rfl
  have q7 : w8.cell? ⟨w2.heap.size, 7, none⟩ = some (.slice none 0 0) := by rw [cellAt HQ8.out 7]; rfl
  have q8 : w8.cell? ⟨w2.heap.size, 8, none⟩ = some (.int .i64 0) := by rw [cellAt HQ8.out 8]; rfl
  have q9 : w8.cell? ⟨w2.heap.size, 9, none⟩ = some (.int .i64 0) := by rw [cellAt HQ8.out 9]; rfl
  have q10 : w8.cell? ⟨w2.heap.size, 10, none⟩ = some (.int .i64 0) := by rw [cellAt HQ8.out 10]; rfl
  have q11 : w8.cell? ⟨w2.heap.size, 11, none⟩ = some (.slice (some ⟨g, 0, none⟩) n c1) := by rw [cellAt HQ8.out 11]; rfl
  have q12 : w8.cell? ⟨w2.heap.size, 12, none⟩ = some (.slice none 0 0) := by rw [cellAt HQ8.out 12]; rfl
  have q13 : w8.cell? ⟨w2.heap.size, 13, none⟩ = some (.slice none 0 0) := by rw [cellAt HQ8.out 13]; rfl
  go_wp2_with fail
  refine (heldRep_any id true g n c1 _ (by omega) (markedAt HMK8.out)).mono ?_
  rw [← HM.out]
  rintro e w9 ⟨rfl, hb⟩
  have HB9 := hid (HB8.out.trans (hb.mono HB8.out.size))
  clear hb
  go_wp2
  go_ret
  exact ⟨rfl, HB9.out⟩

set_option maxRecDepth 100000 in
set_option maxHeartbeats 3200000 in
theorem law_no (id many : Int) (w : World) (h : inB id 10 12 = false ∨ inB many 1 3 = false) :
    Calls Try.prog 3 #[.int .i64 id, .int .i64 many] w fun e w' => e = .returned (.bool true) ∧ Below w.heap.size w w' := by
  have CS : Hid (∀ w, Calls Try.prog 4 #[.int .i64 id, .int .i64 many] w fun e w' => e = .returned (.agg #[.int .i64 0, .string ⟨#[]⟩, .bool false, .int .i64 0, .slice none 0 0, .slice none 0 0, .int .i64 0, .slice none 0 0, .int .i64 0, .int .i64 0, .int .i64 0, .slice none 0 0, .slice none 0 0, .slice none 0 0]) ∧ Below w.heap.size w w') := fun w => specNew_no id many w h
  have CI : Hid (∀ w, Calls Try.prog 5 #[.int .i64 id, .int .i64 many] w fun e w' => e = .returned (.agg #[.int .i64 0, .string ⟨#[]⟩, .bool false, .int .i64 0, .slice none 0 0, .slice none 0 0, .int .i64 0, .slice none 0 0, .int .i64 0, .int .i64 0, .int .i64 0, .slice none 0 0, .slice none 0 0, .slice none 0 0]) ∧ Below w.heap.size w w') := fun w => implNew_no id many w h
  have CE : Hid (∀ w, Calls Try.prog 6 #[.agg #[.int .i64 0, .string ⟨#[]⟩, .bool false, .int .i64 0, .slice none 0 0, .slice none 0 0, .int .i64 0, .slice none 0 0, .int .i64 0, .int .i64 0, .int .i64 0, .slice none 0 0, .slice none 0 0, .slice none 0 0], .agg #[.int .i64 0, .string ⟨#[]⟩, .bool false, .int .i64 0, .slice none 0 0, .slice none 0 0, .int .i64 0, .slice none 0 0, .int .i64 0, .int .i64 0, .int .i64 0, .slice none 0 0, .slice none 0 0, .slice none 0 0]] w fun e w' => e = .returned (.bool true) ∧ Below w.heap.size w w') := fun w => eqRep_same 0 false none none 0 0 0 [] w rfl (by omega) (fun i hi => absurd hi (Nat.not_lt_zero _)) (fun i hi => absurd hi (Nat.not_lt_zero _))
  clear h
  go_enter Try.func3, Try.ntmps3
  go_wp2_with fail
  refine (CS.out _).mono ?_
  rintro e w1 ⟨rfl, hb⟩
  have hal : Below w1.heap.size w1 (w1.alloc (.cells #[.int .i64 0, .string ⟨#[]⟩, .bool false, .int .i64 0, .slice none 0 0, .slice none 0 0, .int .i64 0, .slice none 0 0, .int .i64 0, .int .i64 0, .int .i64 0, .slice none 0 0, .slice none 0 0, .slice none 0 0] 25)) := (Below.refl _ _).alloc (Nat.le_refl _) _
  have HP : Hid ((w1.alloc (.cells #[.int .i64 0, .string ⟨#[]⟩, .bool false, .int .i64 0, .slice none 0 0, .slice none 0 0, .int .i64 0, .slice none 0 0, .int .i64 0, .int .i64 0, .int .i64 0, .slice none 0 0, .slice none 0 0, .slice none 0 0] 25)).heap[w1.heap.size]? = some (.cells #[.int .i64 0, .string ⟨#[]⟩, .bool false, .int .i64 0, .slice none 0 0, .slice none 0 0, .int .i64 0, .slice none 0 0, .int .i64 0, .int .i64 0, .int .i64 0, .slice none 0 0, .slice none 0 0, .slice none 0 0] 25 (0, 0))) := block_alloc _ _
  have HBA : Hid (Below w.heap.size w (w1.alloc (.cells #[.int .i64 0, .string ⟨#[]⟩, .bool false, .int .i64 0, .slice none 0 0, .slice none 0 0, .int .i64 0, .slice none 0 0, .int .i64 0, .int .i64 0, .int .i64 0, .slice none 0 0, .slice none 0 0, .slice none 0 0] 25))) := hb.trans (hal.mono hb.size)
  clear hb hal
  go_wp2_with fail
  refine (CI.out _).mono ?_
  rintro e w2 ⟨rfl, hb⟩
  have HP2 := hid (block_below HP.out hb)
  have hlt : w1.heap.size < w2.heap.size := (Array.getElem?_eq_some_iff.1 HP2.out).1
  have hal : Below w2.heap.size w2 (w2.alloc (.cells #[.int .i64 0, .string ⟨#[]⟩, .bool false, .int .i64 0, .slice none 0 0, .slice none 0 0, .int .i64 0, .slice none 0 0, .int .i64 0, .int .i64 0, .int .i64 0, .slice none 0 0, .slice none 0 0, .slice none 0 0] 25)) := (Below.refl _ _).alloc (Nat.le_refl _) _
  have HP3 := hid (block_below HP2.out hal)
  have HQ3 : Hid ((w2.alloc (.cells #[.int .i64 0, .string ⟨#[]⟩, .bool false, .int .i64 0, .slice none 0 0, .slice none 0 0, .int .i64 0, .slice none 0 0, .int .i64 0, .int .i64 0, .int .i64 0, .slice none 0 0, .slice none 0 0, .slice none 0 0] 25)).heap[w2.heap.size]? = some (.cells #[.int .i64 0, .string ⟨#[]⟩, .bool false, .int .i64 0, .slice none 0 0, .slice none 0 0, .int .i64 0, .slice none 0 0, .int .i64 0, .int .i64 0, .int .i64 0, .slice none 0 0, .slice none 0 0, .slice none 0 0] 25 (0, 0))) := block_alloc _ _
  have HBB : Hid (Below w.heap.size w (w2.alloc (.cells #[.int .i64 0, .string ⟨#[]⟩, .bool false, .int .i64 0, .slice none 0 0, .slice none 0 0, .int .i64 0, .slice none 0 0, .int .i64 0, .int .i64 0, .int .i64 0, .slice none 0 0, .slice none 0 0, .slice none 0 0] 25))) := (HBA.out.trans (hb.mono HBA.out.size)).trans (hal.mono (Nat.le_trans HBA.out.size hb.size))
  clear hb hal HP HBA
  have p0 : w2.cell? ⟨w1.heap.size, 0, none⟩ = some (.int .i64 0) := by rw [cellAt HP2.out 0]; rfl
  have p1 : w2.cell? ⟨w1.heap.size, 1, none⟩ = some (.string ⟨#[]⟩) := by rw [cellAt HP2.out 1]; rfl
  have p2 : w2.cell? ⟨w1.heap.size, 2, none⟩ = some (.bool false) := by rw [cellAt HP2.out 2]; rfl
  have p3 : w2.cell? ⟨w1.heap.size, 3, none⟩ = some (.int .i64 0) := by rw [cellAt HP2.out 3]; rfl
  have p4 : w2.cell? ⟨w1.heap.size, 4, none⟩ = some (.slice none 0 0) := by rw [cellAt HP2.out 4]; rfl
  have p5 : w2.cell? ⟨w1.heap.size, 5, none⟩ = some (.slice none 0 0) := by rw [cellAt HP2.out 5]; rfl
  have p6 : w2.cell? ⟨w1.heap.size, 6, none⟩ = some (.int .i64 0) := by rw [cellAt HP2.out 6]; rfl
  have p7 : w2.cell? ⟨w1.heap.size, 7, none⟩ = some (.slice none 0 0) := by rw [cellAt HP2.out 7]; rfl
  have p8 : w2.cell? ⟨w1.heap.size, 8, none⟩ = some (.int .i64 0) := by rw [cellAt HP2.out 8]; rfl
  have p9 : w2.cell? ⟨w1.heap.size, 9, none⟩ = some (.int .i64 0) := by rw [cellAt HP2.out 9]; rfl
  have p10 : w2.cell? ⟨w1.heap.size, 10, none⟩ = some (.int .i64 0) := by rw [cellAt HP2.out 10]; rfl
  have p11 : w2.cell? ⟨w1.heap.size, 11, none⟩ = some (.slice none 0 0) := by rw [cellAt HP2.out 11]; rfl
  have p12 : w2.cell? ⟨w1.heap.size, 12, none⟩ = some (.slice none 0 0) := by rw [cellAt HP2.out 12]; rfl
  have p13 : w2.cell? ⟨w1.heap.size, 13, none⟩ = some (.slice none 0 0) := by rw [cellAt HP2.out 13]; rfl
  go_wp2_with fail
  refine (CE.out _).mono ?_
  rintro e w3 ⟨rfl, hb⟩
  have HP4 := hid (block_below HP3.out hb)
  have HQ4 := hid (block_below HQ3.out hb)
  have HB3 := hid (HBB.out.trans (hb.mono HBB.out.size))
  clear hb HP3 HQ3 HBB
  clear p0 p1 p2 p3 p4 p5 p6 p7 p8 p9 p10 p11 p12 p13
  have q0 : w3.cell? ⟨w2.heap.size, 0, none⟩ = some (.int .i64 0) := by rw [cellAt HQ4.out 0]; rfl
  have q1 : w3.cell? ⟨w2.heap.size, 1, none⟩ = some (.string ⟨#[]⟩) := by rw [cellAt HQ4.out 1]; rfl
  have q2 : w3.cell? ⟨w2.heap.size, 2, none⟩ = some (.bool false) := by rw [cellAt HQ4.out 2]; rfl
  have q3 : w3.cell? ⟨w2.heap.size, 3, none⟩ = some (.int .i64 0) := by rw [cellAt HQ4.out 3]; rfl
  have q4 : w3.cell? ⟨w2.heap.size, 4, none⟩ = some (.slice none 0 0) := by rw [cellAt HQ4.out 4]; rfl
  have q5 : w3.cell? ⟨w2.heap.size, 5, none⟩ = some (.slice none 0 0) := by rw [cellAt HQ4.out 5]; rfl
  have q6 : w3.cell? ⟨w2.heap.size, 6, none⟩ = some (.int .i64 0) := by rw [cellAt HQ4.out 6]; rfl
  have q7 : w3.cell? ⟨w2.heap.size, 7, none⟩ = some (.slice none 0 0) := by rw [cellAt HQ4.out 7]; rfl
  have q8 : w3.cell? ⟨w2.heap.size, 8, none⟩ = some (.int .i64 0) := by rw [cellAt HQ4.out 8]; rfl
  have q9 : w3.cell? ⟨w2.heap.size, 9, none⟩ = some (.int .i64 0) := by rw [cellAt HQ4.out 9]; rfl
  have q10 : w3.cell? ⟨w2.heap.size, 10, none⟩ = some (.int .i64 0) := by rw [cellAt HQ4.out 10]; rfl
  have q11 : w3.cell? ⟨w2.heap.size, 11, none⟩ = some (.slice none 0 0) := by rw [cellAt HQ4.out 11]; rfl
  have q12 : w3.cell? ⟨w2.heap.size, 12, none⟩ = some (.slice none 0 0) := by rw [cellAt HQ4.out 12]; rfl
  have q13 : w3.cell? ⟨w2.heap.size, 13, none⟩ = some (.slice none 0 0) := by rw [cellAt HQ4.out 13]; rfl
  go_wp2_with fail
  refine (markRep_zero 0 false none 0 _).mono ?_
  rintro e w4 ⟨rfl, hb⟩
  have HP5 := hid (block_below HP4.out hb)
  have HQ5 := hid (block_below HQ4.out hb)
  have HB4 := hid (HB3.out.trans (hb.mono HB3.out.size))
  clear hb HP4 HQ4 HB3
  clear q0 q1 q2 q3 q4 q5 q6 q7 q8 q9 q10 q11 q12 q13
  have q0 : w4.cell? ⟨w2.heap.size, 0, none⟩ = some (.int .i64 0) := by rw [cellAt HQ5.out 0]; rfl
  have q1 : w4.cell? ⟨w2.heap.size, 1, none⟩ = some (.string ⟨#[]⟩) := by rw [cellAt HQ5.out 1]; rfl
  have q2 : w4.cell? ⟨w2.heap.size, 2, none⟩ = some (.bool false) := by rw [cellAt HQ5.out 2]; rfl
  have q3 : w4.cell? ⟨w2.heap.size, 3, none⟩ = some (.int .i64 0) := by rw [cellAt HQ5.out 3]; rfl
  have q4 : w4.cell? ⟨w2.heap.size, 4, none⟩ = some (.slice none 0 0) := by rw [cellAt HQ5.out 4]; rfl
  have q5 : w4.cell? ⟨w2.heap.size, 5, none⟩ = some (.slice none 0 0) := by rw [cellAt HQ5.out 5]; rfl
  have q6 : w4.cell? ⟨w2.heap.size, 6, none⟩ = some (.int .i64 0) := by rw [cellAt HQ5.out 6]; rfl
  have q7 : w4.cell? ⟨w2.heap.size, 7, none⟩ = some (.slice none 0 0) := by rw [cellAt HQ5.out 7]; rfl
  have q8 : w4.cell? ⟨w2.heap.size, 8, none⟩ = some (.int .i64 0) := by rw [cellAt HQ5.out 8]; rfl
  have q9 : w4.cell? ⟨w2.heap.size, 9, none⟩ = some (.int .i64 0) := by rw [cellAt HQ5.out 9]; rfl
  have q10 : w4.cell? ⟨w2.heap.size, 10, none⟩ = some (.int .i64 0) := by rw [cellAt HQ5.out 10]; rfl
  have q11 : w4.cell? ⟨w2.heap.size, 11, none⟩ = some (.slice none 0 0) := by rw [cellAt HQ5.out 11]; rfl
  have q12 : w4.cell? ⟨w2.heap.size, 12, none⟩ = some (.slice none 0 0) := by rw [cellAt HQ5.out 12]; rfl
  have q13 : w4.cell? ⟨w2.heap.size, 13, none⟩ = some (.slice none 0 0) := by rw [cellAt HQ5.out 13]; rfl
  go_wp2_with fail
  refine (heldRep_zero 0 false none 0 _).mono ?_
  rintro e w5 ⟨rfl, hb⟩
  have HP6 := hid (block_below HP5.out hb)
  have HQ6 := hid (block_below HQ5.out hb)
  have HB5 := hid (HB4.out.trans (hb.mono HB4.out.size))
  clear hb HP5 HQ5 HB4
  clear q0 q1 q2 q3 q4 q5 q6 q7 q8 q9 q10 q11 q12 q13
  go_wp2_with fail
  refine (CI.out _).mono ?_
  rintro e w6 ⟨rfl, hb⟩
  have HP7 := hid (block_below HP6.out hb)
  have HS6 : w1.heap.size < w6.heap.size := (Array.getElem?_eq_some_iff.1 HP7.out).1
  have hal : Below w6.heap.size w6 (w6.alloc (.cells #[.int .i64 0, .string ⟨#[]⟩, .bool false, .int .i64 0, .slice none 0 0, .slice none 0 0, .int .i64 0, .slice none 0 0, .int .i64 0, .int .i64 0, .int .i64 0, .slice none 0 0, .slice none 0 0, .slice none 0 0] 25)) := (Below.refl _ _).alloc (Nat.le_refl _) _
  have HQ7 := hid (block_below (block_below HQ6.out hb) hal)
  have HB7 : Hid (Below w.heap.size w (w6.alloc (.cells #[.int .i64 0, .string ⟨#[]⟩, .bool false, .int .i64 0, .slice none 0 0, .slice none 0 0, .int .i64 0, .slice none 0 0, .int .i64 0, .int .i64 0, .int .i64 0, .slice none 0 0, .slice none 0 0, .slice none 0 0] 25))) := (HB5.out.trans (hb.mono HB5.out.size)).trans (hal.mono (Nat.le_trans HB5.out.size hb.size))
  clear hb hal HP6 HQ6 HB5
  have p0 : w6.cell? ⟨w1.heap.size, 0, none⟩ = some (.int .i64 0) := by rw [cellAt HP7.out 0]; rfl
  have p1 : w6.cell? ⟨w1.heap.size, 1, none⟩ = some (.string ⟨#[]⟩) := by rw [cellAt HP7.out 1]; rfl
  have p2 : w6.cell? ⟨w1.heap.size, 2, none⟩ = some (.bool false) := by rw [cellAt HP7.out 2]; rfl
  have p3 : w6.cell? ⟨w1.heap.size, 3, none⟩ = some (.int .i64 0) := by rw [cellAt HP7.out 3]; rfl
  have p4 : w6.cell? ⟨w1.heap.size, 4, none⟩ = some (.slice none 0 0) := by rw [cellAt HP7.out 4]; rfl
  have p5 : w6.cell? ⟨w1.heap.size, 5, none⟩ = some (.slice none 0 0) := by rw [cellAt HP7.out 5]; rfl
  have p6 : w6.cell? ⟨w1.heap.size, 6, none⟩ = some (.int .i64 0) := by rw [cellAt HP7.out 6]; rfl
  have p7 : w6.cell? ⟨w1.heap.size, 7, none⟩ = some (.slice none 0 0) := by rw [cellAt HP7.out 7]; rfl
  have p8 : w6.cell? ⟨w1.heap.size, 8, none⟩ = some (.int .i64 0) := by rw [cellAt HP7.out 8]; rfl
  have p9 : w6.cell? ⟨w1.heap.size, 9, none⟩ = some (.int .i64 0) := by rw [cellAt HP7.out 9]; rfl
  have p10 : w6.cell? ⟨w1.heap.size, 10, none⟩ = some (.int .i64 0) := by rw [cellAt HP7.out 10]; rfl
  have p11 : w6.cell? ⟨w1.heap.size, 11, none⟩ = some (.slice none 0 0) := by rw [cellAt HP7.out 11]; rfl
  have p12 : w6.cell? ⟨w1.heap.size, 12, none⟩ = some (.slice none 0 0) := by rw [cellAt HP7.out 12]; rfl
  have p13 : w6.cell? ⟨w1.heap.size, 13, none⟩ = some (.slice none 0 0) := by rw [cellAt HP7.out 13]; rfl
  go_wp2_with fail
  refine (CE.out _).mono ?_
  rintro e w8 ⟨rfl, hb⟩
  have HQ8 := hid (block_below HQ7.out hb)
  have HB8 := hid (HB7.out.trans (hb.mono HB7.out.size))
  clear hb HQ7 HB7
  clear p0 p1 p2 p3 p4 p5 p6 p7 p8 p9 p10 p11 p12 p13
  have q0 : w8.cell? ⟨w2.heap.size, 0, none⟩ = some (.int .i64 0) := by rw [cellAt HQ8.out 0]; rfl
  have q1 : w8.cell? ⟨w2.heap.size, 1, none⟩ = some (.string ⟨#[]⟩) := by rw [cellAt HQ8.out 1]; rfl
  have q2 : w8.cell? ⟨w2.heap.size, 2, none⟩ = some (.bool false) := by rw [cellAt HQ8.out 2]; rfl
  have q3 : w8.cell? ⟨w2.heap.size, 3, none⟩ = some (.int .i64 0) := by rw [cellAt HQ8.out 3]; rfl
  have q4 : w8.cell? ⟨w2.heap.size, 4, none⟩ = some (.slice none 0 0) := by rw [cellAt HQ8.out 4]; rfl
  have q5 : w8.cell? ⟨w2.heap.size, 5, none⟩ = some (.slice none 0 0) := by rw [cellAt HQ8.out 5]; rfl
  have q6 : w8.cell? ⟨w2.heap.size, 6, none⟩ = some (.int .i64 0) := by rw [cellAt HQ8.out 6]; rfl
  have q7 : w8.cell? ⟨w2.heap.size, 7, none⟩ = some (.slice none 0 0) := by rw [cellAt HQ8.out 7]; rfl
  have q8 : w8.cell? ⟨w2.heap.size, 8, none⟩ = some (.int .i64 0) := by rw [cellAt HQ8.out 8]; rfl
  have q9 : w8.cell? ⟨w2.heap.size, 9, none⟩ = some (.int .i64 0) := by rw [cellAt HQ8.out 9]; rfl
  have q10 : w8.cell? ⟨w2.heap.size, 10, none⟩ = some (.int .i64 0) := by rw [cellAt HQ8.out 10]; rfl
  have q11 : w8.cell? ⟨w2.heap.size, 11, none⟩ = some (.slice none 0 0) := by rw [cellAt HQ8.out 11]; rfl
  have q12 : w8.cell? ⟨w2.heap.size, 12, none⟩ = some (.slice none 0 0) := by rw [cellAt HQ8.out 12]; rfl
  have q13 : w8.cell? ⟨w2.heap.size, 13, none⟩ = some (.slice none 0 0) := by rw [cellAt HQ8.out 13]; rfl
  go_wp2_with fail
  refine (heldRep_zero 0 false none 0 _).mono ?_
  rintro e w9 ⟨rfl, hb⟩
  have HB9 := hid (HB8.out.trans (hb.mono HB8.out.size))
  clear hb
  go_wp2
  go_ret
  exact ⟨rfl, HB9.out⟩

theorem law_any (id many : Int) (w : World) :
    Calls Try.prog 3 #[.int .i64 id, .int .i64 many] w fun e w' => e = .returned (.bool true) ∧ Below w.heap.size w w' := by
  by_cases h : inB id 10 12 = true ∧ inB many 1 3 = true
  · obtain ⟨hi, hm⟩ := h
    have hm' : 1 ≤ many ∧ many ≤ 3 := by simpa [inB] using hm
    obtain ⟨n, rfl⟩ : ∃ n : Nat, many = (n : Int) := ⟨many.toNat, by omega⟩
    exact law_yes id n w hi (by omega) (by omega)
  · refine law_no id many w ?_
    rcases Bool.eq_false_or_eq_true (inB id 10 12) with a | a
    · rcases Bool.eq_false_or_eq_true (inB many 1 3) with b | b
      · exact absurd ⟨a, b⟩ h
      · exact Or.inr b
    · exact Or.inl a

end Go.Proofs.Ythabhclbmneekab
