/- DERIVED. The model's reader of sums at a text of one letter. -/
import Derived.Test.YtebnedgmkmahjaaParMem
import Derived.Test.YtebnedgmkmahjaaRowOps
import Derived.Deep.RegionHeld3
namespace Go.Proofs.Ytebnedgmkmahjaa
open Go.RowKit

set_option maxHeartbeats 400000 in
theorem specFig_any (c : Int) (w : World) :
    Calls Try.prog 45 #[.int .u8 c] w fun e w' => e = .returned (.bool (figB c)) ∧ w' = w := by
  unfold figB
  by_cases h1 : (48 : Int) ≤ c
  · go_enter Try.func45, Try.ntmps45
    go_wp2
    go_ret
    exact ⟨by simp [h1], rfl⟩
  · go_enter Try.func45, Try.ntmps45
    go_wp2
    go_ret
    exact ⟨by simp; omega, rfl⟩

set_option maxHeartbeats 400000 in
theorem first_low (c : Int) (w : World) (h : lowB c = true) :
    Calls Try.prog 58 #[.int .u8 c] w fun e w' => e = .returned (.bool true) ∧ w' = w := by
  have CL : Hid (∀ W, Calls Try.prog 61 #[.int .u8 c] W fun e w' => e = .returned (.bool true) ∧ w' = W) := fun W => by rw [← h]; exact letter_any c W
  clear h
  go_enter Try.func58, Try.ntmps58
  go_wp2_with fail
  refine (CL.out _).mono ?_
  rintro e w1 ⟨rfl, rfl⟩
  go_wp2
  go_ret
  exact ⟨rfl, rfl⟩

set_option maxHeartbeats 800000 in
theorem name_one (s : ByteArray) (w : World) (h1 : s.size = 1) (hl : lowB ((s[0]'(by omega)).toNat : Int) = true) :
    Calls Try.prog 47 #[.string s, .int .i64 0] w fun e w' => e = .returned (.int .i64 1) ∧ w' = w := by
  have hz : 0 < s.size := by omega
  have hemp : ¬ s = ByteArray.empty := by intro e; rw [e] at h1; exact absurd h1 (by decide)
  have hz2 : ¬ (1 : Int) < (s.size : Int) := by omega
  have hz3 : (0 : Int) < (s.size : Int) := by omega
  have CF : Hid (∀ W, Calls Try.prog 58 #[.int .u8 ((s[0]'hz).toNat : Int)] W fun e w' => e = .returned (.bool true) ∧ w' = W) := fun W => first_low _ W hl
  clear h1 hl
  go_enter Try.func47, Try.ntmps47
  go_wp2_with fail
  refine (CF.out _).mono ?_
  rintro e w1 ⟨rfl, rfl⟩
  go_wp2
  go_loop [5] (fun i => i = .int .i64 1) (fun _ => 0)
  case atStart => rfl
  case round =>
    subst hrel
    go_wp2
    go_ret
    exact ⟨rfl, rfl⟩

set_option maxHeartbeats 800000 in
theorem specNameOk_one (s : ByteArray) (w : World) (h1 : s.size = 1) (hl : lowB ((s[0]'(by omega)).toNat : Int) = true) :
    Calls Try.prog 48 #[.string s] w fun e w' => e = .returned (.bool true) ∧ w' = w := by
  have CI : Hid (∀ W, Calls Try.prog 33 #[.int .i64 (s.size : Int), .int .i64 1, .int .i64 6] W fun e w' => e = .returned (.bool true) ∧ w' = W) := fun W => by
    have := in_any (s.size : Int) 1 6 W
    rw [show inB (s.size : Int) 1 6 = true by rw [h1]; rfl] at this
    exact this
  have CN := hid (fun W => name_one s W h1 hl)
  have hz : ((1 : Int) == (s.size : Int)) = true := by rw [beq_iff_eq]; omega
  clear h1 hl
  go_enter Try.func48, Try.ntmps48
  go_wp2_with fail
  refine (CI.out _).mono ?_
  rintro e w1 ⟨rfl, rfl⟩
  go_wp2_with fail
  refine (CN.out _).mono ?_
  rintro e w1 ⟨rfl, rfl⟩
  go_wp2
  go_ret
  exact ⟨by first | rfl | (rw [hz]; rfl), rfl⟩

theorem one_look0 (s : ByteArray) (h1 : s.size = 1) (hl : lowB ((s[0]'(by omega)).toNat : Int) = true) : skipP s 0 = 0 ∧ lookV s 0 = ((s[0]'(by omega)).toNat : Int) := by
  have hne : (s[0]'(by omega)) ≠ 32 := by intro e; rw [e] at hl; exact absurd hl (by decide)
  have h2 := skipP_other s 0 (by omega) hne
  refine ⟨h2, ?_⟩
  unfold lookV
  rw [h2, atP_some s 0 (by omega)]

theorem one_look1 (s : ByteArray) (h1 : s.size = 1) : skipP s 1 = 1 ∧ lookV s 1 = 0 := by
  have h2 := skipP_end s 1 (by omega)
  refine ⟨h2, ?_⟩
  unfold lookV
  rw [h2, atP_none s 1 (by omega)]

set_option maxRecDepth 100000 in
set_option maxHeartbeats 3200000 in
theorem prim_one (R base : Nat) (s : ByteArray) (w : World) (hb : base ≤ R) (h1 : s.size = 1) (hl : lowB ((s[0]'(by omega)).toNat : Int) = true) (h : PAt w R s 0 0 false (.slice none 0 0)) :
    Calls Try.prog 40 #[.pointer (some ⟨R, 0, none⟩)] w fun e w' => e = .returned (.tuple #[]) ∧ ∃ ov, PAt w' R s 1 0 false ov ∧ w'.ownsRow base 63 3 ov 1 [.int .u8 110, .int .i64 0, .string s] ∧ Below base w w' ∧ ∀ g, ov.ownBlock = some g → g ≠ R := by
  obtain ⟨i0, hi, hz0, hz1, hz2⟩ := info_parts infoOp
  have hR := h.old
  have hlk := one_look0 s h1 hl
  have CL := hid (look_any R s 0 0 false (.slice none 0 0) w (by unfold maxLen; omega) (Nat.zero_le _) h)
  rw [hlk.1, hlk.2] at CL
  have CN := hid (fun W => name_one s W h1 hl)
  have CK := hid (fun W => specNameOk_one s W h1 hl)
  have hz : 0 < s.size := by omega
  obtain ⟨c, hc⟩ : ∃ c : Int, c = ((s[0]'hz).toNat : Int) := ⟨_, rfl⟩
  rw [← hc] at CL hl
  have h40 : (c == 40) = false := by rw [beq_eq_false_iff_ne]; intro e; rw [e] at hl; exact absurd hl (by decide)
  have CF : Hid (∀ W, Calls Try.prog 45 #[.int .u8 c] W fun e w' => e = .returned (.bool false) ∧ w' = W) := fun W => by
    have := specFig_any c W
    rw [show figB c = false by unfold lowB at hl; simp at hl; unfold figB; simp; omega] at this
    exact this
  have hsz : (s.size : Int) = 1 := by omega
  have hext : s.extract 0 1 = s := by have := extract_all s; rw [h1] at this; exact this
  clear hc hl hlk h
  go_enter Try.func40, Try.ntmps40
  go_wp2_with fail
  refine CL.out.mono ?_
  rintro e w1 ⟨rfl, hp1, hk1⟩
  have HP1 := hid hp1
  have HK1 := hid hk1
  have c0 := hp1.text
  have c1 := hp1.place
  have c4 := hp1.out
  have hf1 := hp1.free 1
  clear hp1 hk1 CL
  go_wp2_with fail
  refine (CF.out _).mono ?_
  rintro e w2 ⟨rfl, rfl⟩
  go_wp2
  go_quiet ((go_at_call 47; exact Calls.quiet_of_same (CN.out _)))
  go_wp2_with fail
  obtain ⟨w3, hw3⟩ : ∃ w3, w3 = w2.drewN nq := ⟨_, rfl⟩
  have HP3 : Hid (PAt w3 R s 0 0 false (.slice none 0 0)) := by rw [hw3]; exact HP1.out.drewN nq
  have HK3 : Hid (Keeps R w w3) := by rw [hw3]; exact HK1.out.trans (Keeps.drewN nq)
  rw [← hw3]
  clear hw3 c0 c1 c4 hf1 HP1 HK1
  have c0 := HP3.out.text
  have c1 := HP3.out.place
  go_quiet ((go_at_call 48; exact Calls.quiet_of_same (CK.out _)))
  go_wp2_with fail
  obtain ⟨w4, hw4⟩ : ∃ w4, w4 = w3.drewN nq := ⟨_, rfl⟩
  have HP4 : Hid (PAt w4 R s 0 0 false (.slice none 0 0)) := by rw [hw4]; exact HP3.out.drewN nq
  have HK4 : Hid (Keeps R w w4) := by rw [hw4]; exact HK3.out.trans (Keeps.drewN nq)
  rw [← hw4]
  clear hw4 c0 c1 HP3 HK3
  have c0 := HP4.out.text
  have c1 := HP4.out.place
  have c4 := HP4.out.out
  refine wp_region_held_drew (S := fun w' => w'.cell? ⟨R, 0, none⟩ = some (.string s) ∧ w'.cell? ⟨R, 1, none⟩ = some (.int .i64 0)) (by kernel_rfl) ?_ (fun hS => ?_)
  · exact ⟨c0, c1⟩
  refine takeH_on 0 (v := ?_) rfl rfl (by kernel_rfl) (by kernel_rfl) (by kernel_rfl) (fun _ _ _ h => h) (by rfl) hS (fun w hSw => ?_) ?_
  rotate_left
  · ((try dsimp only at hSw); go_simp; try with_reducible rfl)
  simp only [List.setIfInBounds_toArray, List.set_cons_zero, List.set_cons_succ]
  refine takeH_on 1 (v := ?_) rfl rfl (by kernel_rfl) (by kernel_rfl) (by kernel_rfl) (fun _ _ _ h => h) (by rfl) hS (fun w hSw => ?_) ?_
  rotate_left
  · ((try dsimp only at hSw); go_simp; try with_reducible rfl)
  simp only [List.setIfInBounds_toArray, List.set_cons_zero, List.set_cons_succ]
  refine takeH_on 2 (v := ?_) rfl rfl (by kernel_rfl) (by kernel_rfl) (by kernel_rfl) (fun _ _ _ h => h) (by rfl) hS (fun w hSw => ?_) ?_
  rotate_left
  · ((try dsimp only at hSw); go_simp; try with_reducible rfl)
  simp only [List.setIfInBounds_toArray, List.set_cons_zero, List.set_cons_succ]
  refine takeH_on 3 (v := ?_) rfl rfl (by kernel_rfl) (by kernel_rfl) (by kernel_rfl) (fun _ _ _ h => h) (by rfl) hS (fun w hSw => ?_) ?_
  rotate_left
  · ((try dsimp only at hSw); go_simp; try with_reducible rfl)
  simp only [List.setIfInBounds_toArray, List.set_cons_zero, List.set_cons_succ]
  refine takeH_on 5 (v := ?_) rfl rfl (by kernel_rfl) (by kernel_rfl) (by kernel_rfl) (fun _ _ _ h => h) (by rfl) hS (fun w hSw => ?_) ?_
  rotate_left
  · ((try dsimp only at hSw); go_simp; try with_reducible rfl)
  simp only [List.setIfInBounds_toArray, List.set_cons_zero, List.set_cons_succ]
  refine takeH_on 6 (v := ?_) rfl rfl (by kernel_rfl) (by kernel_rfl) (by kernel_rfl) (fun _ _ _ h => h) (by rfl) hS (fun w hSw => ?_) ?_
  rotate_left
  · ((try dsimp only at hSw); go_simp; try with_reducible rfl)
  simp only [List.setIfInBounds_toArray, List.set_cons_zero, List.set_cons_succ]
  refine takeH_on 7 (v := ?_) rfl rfl (by kernel_rfl) (by kernel_rfl) (by kernel_rfl) (fun _ _ _ h => h) (by rfl) hS (fun w hSw => ?_) ?_
  rotate_left
  · ((try dsimp only at hSw); go_simp; try with_reducible rfl)
  simp only [List.setIfInBounds_toArray, List.set_cons_zero, List.set_cons_succ]
  refine takeH_on 8 (v := .string s) rfl rfl (by kernel_rfl) (by kernel_rfl) (by kernel_rfl) (fun _ _ _ h => h) (by rfl) hS (fun w hSw => ?_) ?_
  · ((try dsimp only at hSw); go_simp; try with_reducible rfl)
  simp only [List.setIfInBounds_toArray, List.set_cons_zero, List.set_cons_succ]
  refine takeH_on 9 (v := ?_) rfl rfl (by kernel_rfl) (by kernel_rfl) (by kernel_rfl) (fun _ _ _ h => h) (by rfl) hS (fun w hSw => ?_) ?_
  rotate_left
  · ((try dsimp only at hSw); go_simp; try with_reducible rfl)
  simp only [List.setIfInBounds_toArray, List.set_cons_zero, List.set_cons_succ]
  refine takeH_on 10 (v := ?_) rfl rfl (by kernel_rfl) (by kernel_rfl) (by kernel_rfl) (fun _ _ _ h => h) (by rfl) hS (fun w hSw => ?_) ?_
  rotate_left
  · ((try dsimp only at hSw); go_simp; try with_reducible rfl)
  simp only [List.setIfInBounds_toArray, List.set_cons_zero, List.set_cons_succ]
  refine takeH_on 11 (v := ?_) rfl rfl (by kernel_rfl) (by kernel_rfl) (by kernel_rfl) (fun _ _ _ h => h) (by rfl) hS (fun w hSw => ?_) ?_
  rotate_left
  · ((try dsimp only at hSw); go_simp; try with_reducible rfl)
  simp only [List.setIfInBounds_toArray, List.set_cons_zero, List.set_cons_succ]
  refine takeH_on 12 (v := .int .i64 0) rfl rfl (by kernel_rfl) (by kernel_rfl) (by kernel_rfl) (fun _ _ _ h => h) (by rfl) hS (fun w hSw => ?_) ?_
  · ((try dsimp only at hSw); go_simp; try with_reducible rfl)
  simp only [List.setIfInBounds_toArray, List.set_cons_zero, List.set_cons_succ]
  refine takeH_on 13 (v := ?_) rfl rfl (by kernel_rfl) (by kernel_rfl) (by kernel_rfl) (fun _ _ _ h => h) (by rfl) hS (fun w hSw => ?_) ?_
  rotate_left
  · ((try dsimp only at hSw); go_simp; try with_reducible rfl)
  simp only [List.setIfInBounds_toArray, List.set_cons_zero, List.set_cons_succ]
  refine takeH_on 14 (v := .string s) rfl rfl (by kernel_rfl) (by kernel_rfl) (by kernel_rfl) (fun _ _ _ h => h) (by rfl) hS (fun w hSw => ?_) ?_
  · ((try dsimp only at hSw); go_simp; try with_reducible rfl)
  simp only [List.setIfInBounds_toArray, List.set_cons_zero, List.set_cons_succ]
  refine takeH_on 15 (v := ?_) rfl rfl (by kernel_rfl) (by kernel_rfl) (by kernel_rfl) (fun _ _ _ h => h) (by rfl) hS (fun w hSw => ?_) ?_
  rotate_left
  · ((try dsimp only at hSw); go_simp; try with_reducible rfl)
  simp only [List.setIfInBounds_toArray, List.set_cons_zero, List.set_cons_succ]
  refine wpAnyH_ready (rs := [4, 16]) (by kernel_rfl) (by simp) (AllReadyH.cons rfl (fun K hK => ?_) (AllReadyH.cons rfl (fun K hK => ?_) AllReadyH.nil))
  · clear hS
    go_simp
    refine Shut.out hK _ _ ⟨c0, c1⟩ (fun hS => ?_)
    clear hK K
    refine wpAnyH_ready (rs := [16]) (by kernel_rfl) (by simp) (AllReadyH.cons rfl (fun K hK => ?_) AllReadyH.nil)
    clear hS
    go_simp
    obtain ⟨W5, hW5⟩ : ∃ W5, W5 = (w4.alloc (.cells #[.int .u8 110, .int .i64 0, .string s] 63)).drew := ⟨_, rfl⟩
    rw [← hW5]
    have HAL : Hid (Below w4.heap.size w4 W5) := by rw [hW5]; exact ((Below.refl _ _).alloc (Nat.le_refl _) _).drew
    have HN3 : Hid (∀ j u, [Value.int .u8 110, .int .i64 0, .string s][j]? = some u → W5.cell? ((⟨w4.heap.size, 0, none⟩ : Addr).add j) = some u) := by rw [hW5]; exact cell_new3 w4 _ _ _ _
    clear hW5
    have HP5 : Hid (PAt W5 R s 0 0 false (.slice none 0 0)) := HP4.out.below HAL.out
    have c5 := HP5.out.out
    have HB5 : Hid (Below base w W5) := (HK4.out.below base w hb (Below.refl _ _)).trans (HAL.out.mono (by have := HP4.out.old; omega))
    refine Shut.out hK _ _ ⟨HP5.out.text, HP5.out.place⟩ (fun hS => ?_)
    clear hK K
    refine wpAnyH_ready (rs := [17]) (by kernel_rfl) (by simp) (AllReadyH.cons rfl (fun K hK => ?_) AllReadyH.nil)
    clear hS
    refine ready_append rfl _ _ 42 rfl base 63 i0 (.agg #[.int .u8 0, .int .i64 0, .string ⟨#[]⟩]) 3 32 Try.underlying42 hi hz0 hz1 hz2 rfl (by decide) (.slice none 0 0) 0 [] rfl (World.ownsRow_nil _ _ _ _) ⟨w4.heap.size, 0, none⟩ 1 1 [.int .u8 110, .int .i64 0, .string s] rfl rfl HN3.out (by simp [Value.oneCell']) (by unfold maxLen; omega) (by omega) (Nat.le_of_lt (Nat.lt_of_le_of_lt hb HP5.out.old)) ?_
    intro v' w6 hown6 hgr6
    have HBG : Hid (Below W5.heap.size W5 w6) := ⟨hgr6.os, hgr6.tape, hgr6.output, hgr6.size, fun k hk => hgr6.block k hk (fun e => by cases e)⟩
    have HP6 := hid (HP5.out.below HBG.out)
    have HO6 := hid hown6
    have HB6 : Hid (Below base w w6) := HB5.out.trans (HBG.out.mono (by have := HP5.out.old; omega))
    clear hown6 hgr6
    refine Shut.out hK _ _ ⟨HP6.out.text, HP6.out.place⟩ (fun hS => ?_)
    clear hK K
    refine takeH_on 18 (v := ?_) rfl rfl (by kernel_rfl) (by kernel_rfl) (by kernel_rfl) (fun _ _ _ h => h) (by rfl) hS (fun w hSw => ?_) ?_
    rotate_left
    · ((try dsimp only at hSw); go_simp; try with_reducible rfl)
    simp only [List.setIfInBounds_toArray, List.set_cons_zero, List.set_cons_succ]
    refine takeH_on 19 (v := ?_) rfl rfl (by kernel_rfl) (by kernel_rfl) (by kernel_rfl) (fun _ _ _ h => h) (by rfl) hS (fun w hSw => ?_) ?_
    rotate_left
    · ((try dsimp only at hSw); go_simp; try with_reducible rfl)
    simp only [List.setIfInBounds_toArray, List.set_cons_zero, List.set_cons_succ]
    refine wpAnyH_ready (rs := [20]) (by kernel_rfl) (by simp) (AllReadyH.cons rfl (fun K hK => ?_) AllReadyH.nil)
    clear hS
    have g4 := HP6.out.out
    have gf := HP6.out.free 4
    obtain ⟨oa7, cp7, rfl⟩ := row_shape3 HO6.out
    go_simp
    have HP7 := hid (HP6.out.lay (.slice oa7 1 cp7))
    have HB7 : Hid (Below base w (w6.setCell ⟨R, 4, none⟩ (.slice oa7 1 cp7))) := HB6.out.setCell (show base ≤ R from hb) _
    have HNB : Hid (∀ g, (Value.slice oa7 1 cp7).ownBlock = some g → g ≠ R) := fun g hg e => by subst e; have := row_first HO6.out g hg; rw [HP6.out.text] at this; cases this
    have HO7 : Hid ((w6.setCell ⟨R, 4, none⟩ (.slice oa7 1 cp7)).ownsRow base 63 3 (.slice oa7 1 cp7) 1 [.int .u8 110, .int .i64 0, .string s]) := row_put3 HO6.out HNB.out _ _
    have p7 := HP7.out.place
    have f7 := HP7.out.free 1
    refine Shut.out hK _ _ ⟨HP7.out.text, HP7.out.place⟩ (fun hS => ?_)
    clear hK K
    refine wpAnyH_done (by kernel_rfl) ?_ _
    go_wp2
    first | go_end0 | refine bodyPost_ret (results_none rfl _ _ _) rfl ?_
    exact ⟨rfl, _, HP7.out.go 1, row_put3 HO7.out HNB.out _ _, HB7.out.setCell (show base ≤ R from hb) _, HNB.out⟩
  · clear hS
    go_simp
    obtain ⟨W5, hW5⟩ : ∃ W5, W5 = (w4.alloc (.cells #[.int .u8 110, .int .i64 0, .string s] 63)).drew := ⟨_, rfl⟩
    rw [← hW5]
    have HAL : Hid (Below w4.heap.size w4 W5) := by rw [hW5]; exact ((Below.refl _ _).alloc (Nat.le_refl _) _).drew
    have HN3 : Hid (∀ j u, [Value.int .u8 110, .int .i64 0, .string s][j]? = some u → W5.cell? ((⟨w4.heap.size, 0, none⟩ : Addr).add j) = some u) := by rw [hW5]; exact cell_new3 w4 _ _ _ _
    clear hW5
    have HP5 : Hid (PAt W5 R s 0 0 false (.slice none 0 0)) := HP4.out.below HAL.out
    have c5 := HP5.out.out
    have HB5 : Hid (Below base w W5) := (HK4.out.below base w hb (Below.refl _ _)).trans (HAL.out.mono (by have := HP4.out.old; omega))
    refine Shut.out hK _ _ ⟨HP5.out.text, HP5.out.place⟩ (fun hS => ?_)
    clear hK K
    refine wpAnyH_ready (rs := [4]) (by kernel_rfl) (by simp) (AllReadyH.cons rfl (fun K hK => ?_) AllReadyH.nil)
    clear hS
    go_simp
    refine Shut.out hK _ _ ⟨HP5.out.text, HP5.out.place⟩ (fun hS => ?_)
    clear hK K
    refine wpAnyH_ready (rs := [17]) (by kernel_rfl) (by simp) (AllReadyH.cons rfl (fun K hK => ?_) AllReadyH.nil)
    clear hS
    refine ready_append rfl _ _ 42 rfl base 63 i0 (.agg #[.int .u8 0, .int .i64 0, .string ⟨#[]⟩]) 3 32 Try.underlying42 hi hz0 hz1 hz2 rfl (by decide) (.slice none 0 0) 0 [] rfl (World.ownsRow_nil _ _ _ _) ⟨w4.heap.size, 0, none⟩ 1 1 [.int .u8 110, .int .i64 0, .string s] rfl rfl HN3.out (by simp [Value.oneCell']) (by unfold maxLen; omega) (by omega) (Nat.le_of_lt (Nat.lt_of_le_of_lt hb HP5.out.old)) ?_
    intro v' w6 hown6 hgr6
    have HBG : Hid (Below W5.heap.size W5 w6) := ⟨hgr6.os, hgr6.tape, hgr6.output, hgr6.size, fun k hk => hgr6.block k hk (fun e => by cases e)⟩
    have HP6 := hid (HP5.out.below HBG.out)
    have HO6 := hid hown6
    have HB6 : Hid (Below base w w6) := HB5.out.trans (HBG.out.mono (by have := HP5.out.old; omega))
    clear hown6 hgr6
    refine Shut.out hK _ _ ⟨HP6.out.text, HP6.out.place⟩ (fun hS => ?_)
    clear hK K
    refine takeH_on 18 (v := ?_) rfl rfl (by kernel_rfl) (by kernel_rfl) (by kernel_rfl) (fun _ _ _ h => h) (by rfl) hS (fun w hSw => ?_) ?_
    rotate_left
    · ((try dsimp only at hSw); go_simp; try with_reducible rfl)
    simp only [List.setIfInBounds_toArray, List.set_cons_zero, List.set_cons_succ]
    refine takeH_on 19 (v := ?_) rfl rfl (by kernel_rfl) (by kernel_rfl) (by kernel_rfl) (fun _ _ _ h => h) (by rfl) hS (fun w hSw => ?_) ?_
    rotate_left
    · ((try dsimp only at hSw); go_simp; try with_reducible rfl)
    simp only [List.setIfInBounds_toArray, List.set_cons_zero, List.set_cons_succ]
    refine wpAnyH_ready (rs := [20]) (by kernel_rfl) (by simp) (AllReadyH.cons rfl (fun K hK => ?_) AllReadyH.nil)
    clear hS
    have g4 := HP6.out.out
    have gf := HP6.out.free 4
    obtain ⟨oa7, cp7, rfl⟩ := row_shape3 HO6.out
    go_simp
    have HP7 := hid (HP6.out.lay (.slice oa7 1 cp7))
    have HB7 : Hid (Below base w (w6.setCell ⟨R, 4, none⟩ (.slice oa7 1 cp7))) := HB6.out.setCell (show base ≤ R from hb) _
    have HNB : Hid (∀ g, (Value.slice oa7 1 cp7).ownBlock = some g → g ≠ R) := fun g hg e => by subst e; have := row_first HO6.out g hg; rw [HP6.out.text] at this; cases this
    have HO7 : Hid ((w6.setCell ⟨R, 4, none⟩ (.slice oa7 1 cp7)).ownsRow base 63 3 (.slice oa7 1 cp7) 1 [.int .u8 110, .int .i64 0, .string s]) := row_put3 HO6.out HNB.out _ _
    have p7 := HP7.out.place
    have f7 := HP7.out.free 1
    refine Shut.out hK _ _ ⟨HP7.out.text, HP7.out.place⟩ (fun hS => ?_)
    clear hK K
    refine wpAnyH_done (by kernel_rfl) ?_ _
    go_wp2
    first | go_end0 | refine bodyPost_ret (results_none rfl _ _ _) rfl ?_
    exact ⟨rfl, _, HP7.out.go 1, row_put3 HO7.out HNB.out _ _, HB7.out.setCell (show base ≤ R from hb) _, HNB.out⟩

/-- The reader behind its one letter. -/
def OneAt (w : World) (R base : Nat) (s : ByteArray) : Prop := ∃ ov, PAt w R s 1 0 false ov ∧ w.ownsRow base 63 3 ov 1 [.int .u8 110, .int .i64 0, .string s] ∧ ∀ g, ov.ownBlock = some g → g ≠ R

theorem row_keep3 {R base : Nat} {e : TypeId} {size n : Nat} {v : Value} {xs : List Value} {w w' : World} (h : w.ownsRow base e size v n xs) (hn : ∀ g, v.ownBlock = some g → g ≠ R) (hk : Keeps R w w') : w'.ownsRow base e size v n xs := by
  refine ⟨h.1, ?_⟩
  rcases h.2 with h2 | ⟨g, cap, cur, e1, hb, hg, h3⟩
  · exact Or.inl h2
  · refine Or.inr ⟨g, cap, cur, e1, hb, ?_, h3⟩
    rw [hk.block g (Array.getElem?_eq_some_iff.1 hg).1 (hn g (by rw [e1]; rfl))]
    exact hg

set_option maxRecDepth 100000 in
set_option maxHeartbeats 800000 in
theorem look_one (R base : Nat) (s : ByteArray) (w : World) (hb : base ≤ R) (h1 : s.size = 1) (h : OneAt w R base s) :
    Calls Try.prog 26 #[.pointer (some ⟨R, 0, none⟩)] w fun e w' => e = .returned (.int .u8 0) ∧ OneAt w' R base s ∧ Below base w w' := by
  obtain ⟨ov, hp, ho, hn⟩ := h
  have hlk := one_look1 s h1
  have := look_any R s 1 0 false ov w (by unfold maxLen; omega) (by omega) hp
  rw [hlk.1, hlk.2] at this
  refine this.mono ?_
  rintro e w' ⟨rfl, h2, h3⟩
  exact ⟨rfl, ⟨ov, h2, row_keep3 ho hn h3, hn⟩, h3.below _ _ hb (Below.refl _ _)⟩

set_option maxRecDepth 100000 in
set_option maxHeartbeats 1600000 in
theorem unary_one (R base : Nat) (s : ByteArray) (w : World) (hb : base ≤ R) (h1 : s.size = 1) (hl : lowB ((s[0]'(by omega)).toNat : Int) = true) (h : PAt w R s 0 0 false (.slice none 0 0)) :
    Calls Try.prog 36 #[.pointer (some ⟨R, 0, none⟩)] w fun e w' => e = .returned (.tuple #[]) ∧ OneAt w' R base s ∧ Below base w w' := by
  have hlk := one_look0 s h1 hl
  have CL := hid (look_any R s 0 0 false (.slice none 0 0) w (by unfold maxLen; omega) (Nat.zero_le _) h)
  rw [hlk.1, hlk.2] at CL
  have CP := hid (fun W hp => prim_one R base s W hb h1 hl hp)
  have hz : 0 < s.size := by omega
  obtain ⟨c, hc⟩ : ∃ c : Int, c = ((s[0]'hz).toNat : Int) := ⟨_, rfl⟩
  rw [← hc] at CL hl
  have h45 : (c == 45) = false := by rw [beq_eq_false_iff_ne]; intro e; rw [e] at hl; exact absurd hl (by decide)
  clear hc hl hlk h
  go_enter Try.func36, Try.ntmps36
  go_wp2
  go_loopg [2] 0 (fun _ v wr => v = .int .i64 0 ∧ wr = w)
  case atStart => exact ⟨rfl, rfl⟩
  case round =>
    obtain ⟨rfl, rfl⟩ := hrel
    go_wp2_with fail
    refine CL.out.mono ?_
    rintro e w1 ⟨rfl, hp1, hk1⟩
    have C2 := hid (CP.out w1 hp1)
    have HK1 := hid hk1
    clear hp1 hk1
    go_wp2_with fail
    refine C2.out.mono ?_
    rintro e w2 ⟨rfl, ov, hp2, ho2, hb2, hn2⟩
    have HO : Hid (OneAt w2 R base s) := ⟨ov, hp2, ho2, hn2⟩
    have HB : Hid (Below base wr w2) := (HK1.out.below _ _ hb (Below.refl _ _)).trans hb2
    clear hp2 ho2 hb2 hn2 C2
    go_wp2
    go_loopg [2] 0 (fun _ v wk => v = .int .i64 0 ∧ wk = w2)
    case atStart => exact ⟨rfl, rfl⟩
    case round =>
      obtain ⟨rfl, rfl⟩ := hrel
      go_wp2
      first | go_end0 | refine bodyPost_ret (results_none rfl _ _ _) rfl ?_
      exact ⟨rfl, HO.out, HB.out⟩

end Go.Proofs.Ytebnedgmkmahjaa
