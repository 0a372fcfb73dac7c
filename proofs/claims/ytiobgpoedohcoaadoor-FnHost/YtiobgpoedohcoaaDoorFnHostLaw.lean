/- DERIVED. The walk of the law FnHost. -/
import Derived.Test.YtiobgpoedohcoaaDoorTrip
import Derived.Test.YtiobgpoedohcoaaDoorGetVal
import Derived.Test.YtiobgpoedohcoaaDoorHostOk
import Derived.Test.YtiobgpoedohcoaaDoorBent
namespace Go.Proofs.YtiobgpoedohcoaaDoor
open Go.RowKit

theorem putS_size (s : ByteArray) (n : Int) (_h : s.size ≤ maxLen) : (putS s n).size ≤ maxLen := by
  unfold putS
  split
  · rename_i h
    obtain ⟨h6, h0, h9⟩ := okB_num h
    have := decS_size n.toNat
    rw [ByteArray.size_append]
    unfold maxLen; omega
  · exact Nat.zero_le _

set_option maxHeartbeats 2000000 in
theorem law_any (oa1 oa2 : Option Addr) (len1 cap1 len2 cap2 : Nat) (w : World) (C1 : CodeAt w oa1 len1) (C2 : CodeAt w oa2 len2) (hc1 : len1 ≤ cap1) (hm1 : cap1 ≤ maxLen) (hc2 : len2 ≤ cap2) (hm2 : cap2 ≤ maxLen) (ht : Tab w) :
    Calls Tryd.prog 3 #[.slice oa1 len1 cap1, .slice oa2 len2 cap2] w fun e w' => e = .returned (.bool true) ∧ Below w.heap.size w w' := by
  have HC1 := hid C1
  have HC2 := hid C2
  have HT := hid ht
  clear C1 C2 ht
  by_cases hbig : 1048576 < (len1 : Int) ∨ 1048576 < (len2 : Int)
  · by_cases h1 : 1048576 < (len1 : Int)
    · go_enter Tryd.func3, Tryd.ntmps3
      go_wp2
      go_ret
      exact ⟨rfl, Below.refl _ _⟩
    · have h2 : 1048576 < (len2 : Int) := by omega
      clear hbig
      go_enter Tryd.func3, Tryd.ntmps3
      go_wp2
      go_ret
      exact ⟨rfl, Below.refl _ _⟩
  · have h1 : ¬ 1048576 < (len1 : Int) := fun h => hbig (Or.inl h)
    have h2 : ¬ 1048576 < (len2 : Int) := fun h => hbig (Or.inr h)
    clear hbig
    go_enter Tryd.func3, Tryd.ntmps3
    go_wp2_with fail
    refine (drawPut_any oa1 len1 cap1 _ HC1.out hc1 hm1).mono ?_
    rintro e w1 ⟨⟨s, z, rfl, hs, hz0, hz9⟩, hb⟩
    have HB1 : Hid (Below w.heap.size w w1) := hb
    have hsm : s.size ≤ maxLen := Nat.le_trans hs (by decide)
    clear hb
    cases hok : okB s z
    · skip
      have HG : Hid (getVal (putS s z) = .tuple #[.agg #[.string ByteArray.empty, .int .i64 0], .bool false]) := get_bad s z hok
      have CI : Hid (∀ w, Calls Tryd.prog 8 #[.agg #[.string s, .int .i64 z]] w fun e w' => e = .returned (.bool false) ∧ Below w.heap.size w w') := fun w => by rw [← hok]; exact implOk_any s z w hsm
      have CK : Hid (∀ w, Calls Tryd.prog 9 #[.agg #[.string s, .int .i64 z]] w fun e w' => e = .returned (.bool false) ∧ Below w.heap.size w w') := fun w => by rw [← hok]; exact specOk_any s z w hsm
      clear hok
      obtain ⟨P, hP⟩ : ∃ P, P = putS s z := ⟨_, rfl⟩
      have hPm : P.size ≤ maxLen := by rw [hP]; exact putS_size s z hsm
      rw [← hP] at HG
      have CS : Hid (∀ w, Calls Tryd.prog 7 #[.agg #[.string s, .int .i64 z]] w fun e w' => e = .returned (.string P) ∧ Below w.heap.size w w') := fun w => by rw [hP]; exact specPut_any s z w hsm
      have CW : Hid (∀ w, Tab w → Calls Tryd.prog 5 #[.agg #[.string s, .int .i64 z]] w fun e w' => e = .returned (.string P) ∧ Below w.heap.size w w') := fun w ht => by rw [hP]; exact implPut_any s z w hsm ht
      clear hP
      obtain ⟨r, hr⟩ : ∃ r, r = ByteArray.empty := ⟨_, rfl⟩
      obtain ⟨n, hn⟩ : ∃ n, n = (0 : Int) := ⟨_, rfl⟩
      rw [← hr, ← hn] at HG
      have HRN : Hid (r = ByteArray.empty ∧ n = 0) := ⟨hr, hn⟩
      clear hr hn
      go_wp2_with fail
      refine (CW.out _ ?_).mono ?_
      · exact (HT.out.below HB1.out).below ((Below.refl _ _).alloc (Nat.le_refl _) _)
      rintro e w2 ⟨rfl, hb⟩
      have H52 : Hid (TwoAt w2 w1.heap.size (.string s) (.int .i64 z)) := (TwoAt.new w1 _ _ _).below hb
      have HB2 : Hid (Below w.heap.size w w2) := (HB1.out.alloc HB1.out.size _).trans (hb.mono (by have := HB1.out.size; simp; omega))
      clear hb
      go_wp2_with fail
      refine (implGet_val _ _ _ _ _ hPm HG.out).mono ?_
      rintro e w3 ⟨rfl, hb⟩
      have H53 : Hid (TwoAt w3 w1.heap.size (.string s) (.int .i64 z)) := H52.out.below hb
      have HB3 : Hid (Below w.heap.size w w3) := HB2.out.trans (hb.mono HB2.out.size)
      clear hb
      have H50 : Hid (TwoAt (w3.alloc (.cells #[.string r, .int .i64 n] 24)).drew w1.heap.size (.string s) (.int .i64 z)) := (H53.out.below ((Below.refl _ _).alloc (Nat.le_refl _) _)).below ((Below.refl _ _).drew)
      have H70 : Hid (TwoAt (w3.alloc (.cells #[.string r, .int .i64 n] 24)).drew w3.heap.size (.string r) (.int .i64 n)) := (TwoAt.new w3 _ _ _).below ((Below.refl _ _).drew)
      have HB0 : Hid (Below w.heap.size w (w3.alloc (.cells #[.string r, .int .i64 n] 24)).drew) := (HB3.out.alloc HB3.out.size _).drew
      clear H52 H53
      go_wp2_with fail
      refine wp_region_held_drew (S := (fun w' => (w'.cell? ⟨w1.heap.size, 0, none⟩ = some (.string s) ∧ w'.cell? ⟨w1.heap.size, 1, none⟩ = some (.int .i64 z)) ∧ (w'.cell? ⟨w3.heap.size, 0, none⟩ = some (.string r) ∧ w'.cell? ⟨w3.heap.size, 1, none⟩ = some (.int .i64 n)))) (by kernel_rfl) ?_ (fun hS => ?_)
      · exact ⟨⟨H50.out.c0, H50.out.c1⟩, ⟨H70.out.c0, H70.out.c1⟩⟩
      refine takeH_on 0 (v := ?_) rfl rfl (by kernel_rfl) (by kernel_rfl) (by kernel_rfl) (fun _ _ _ h => h) (by rfl) hS (fun w hSw => ?_) ?_
      rotate_left
      · ((try dsimp only at hSw); go_simp; try with_reducible rfl)
      simp only [List.setIfInBounds_toArray, List.set_cons_zero, List.set_cons_succ]
      refine takeH_on 1 (v := ?_) rfl rfl (by kernel_rfl) (by kernel_rfl) (by kernel_rfl) (fun _ _ _ h => h) (by rfl) hS (fun w hSw => ?_) ?_
      rotate_left
      · ((try dsimp only at hSw); go_simp; try with_reducible rfl)
      simp only [List.setIfInBounds_toArray, List.set_cons_zero, List.set_cons_succ]
      refine wpAnyH_ready (rs := [2]) (by kernel_rfl) (by simp) (AllReadyH.cons rfl (fun K hK => ?_) AllReadyH.nil)
      clear hS
      go_simp
      go_wp2_with fail
      refine (CS.out _).mono ?_
      rintro e wa ⟨rfl, hb⟩
      have H5a : Hid (TwoAt wa w1.heap.size (.string s) (.int .i64 z)) := H50.out.below hb
      have H7a : Hid (TwoAt wa w3.heap.size (.string r) (.int .i64 n)) := H70.out.below hb
      have HBa : Hid (Below w.heap.size w wa) := HB0.out.trans (hb.mono HB0.out.size)
      clear hb
      refine Shut.out hK _ _ ⟨⟨H5a.out.c0, H5a.out.c1⟩, ⟨H7a.out.c0, H7a.out.c1⟩⟩ (fun hS => ?_)
      clear hK K
      refine takeH_on 3 (v := .bool false) rfl rfl (by kernel_rfl) (by kernel_rfl) (by kernel_rfl) (fun _ _ _ h => h) (by rfl) hS (fun w hSw => ?_) ?_
      · ((try dsimp only at hSw); go_simp; try simp)
      simp only [List.setIfInBounds_toArray, List.set_cons_zero, List.set_cons_succ]
      refine takeH_on 4 (v := ?_) rfl rfl (by kernel_rfl) (by kernel_rfl) (by kernel_rfl) (fun _ _ _ h => h) (by rfl) hS (fun w hSw => ?_) ?_
      rotate_left
      · ((try dsimp only at hSw); go_simp; try with_reducible rfl)
      simp only [List.setIfInBounds_toArray, List.set_cons_zero, List.set_cons_succ]
      refine takeH_on 5 (v := ?_) rfl rfl (by kernel_rfl) (by kernel_rfl) (by kernel_rfl) (fun _ _ _ h => h) (by rfl) hS (fun w hSw => ?_) ?_
      rotate_left
      · ((try dsimp only at hSw); go_simp; try with_reducible rfl)
      simp only [List.setIfInBounds_toArray, List.set_cons_zero, List.set_cons_succ]
      refine takeH_on 7 (v := ?_) rfl rfl (by kernel_rfl) (by kernel_rfl) (by kernel_rfl) (fun _ _ _ h => h) (by rfl) hS (fun w hSw => ?_) ?_
      rotate_left
      · ((try dsimp only at hSw); go_simp; try with_reducible rfl)
      simp only [List.setIfInBounds_toArray, List.set_cons_zero, List.set_cons_succ]
      refine wpAnyH_ready (rs := [6]) (by kernel_rfl) (by simp) (AllReadyH.cons rfl (fun K hK => ?_) AllReadyH.nil)
      clear hS
      go_simp
      go_wp2_with fail
      refine (CI.out _).mono ?_
      rintro e wb ⟨rfl, hb⟩
      have H5b : Hid (TwoAt wb w1.heap.size (.string s) (.int .i64 z)) := H5a.out.below hb
      have H7b : Hid (TwoAt wb w3.heap.size (.string r) (.int .i64 n)) := H7a.out.below hb
      have HBb : Hid (Below w.heap.size w wb) := HBa.out.trans (hb.mono HBa.out.size)
      clear hb
      refine Shut.out hK _ _ ⟨⟨H5b.out.c0, H5b.out.c1⟩, ⟨H7b.out.c0, H7b.out.c1⟩⟩ (fun hS => ?_)
      clear hK K
      refine wpAnyH_ready (rs := [8]) (by kernel_rfl) (by simp) (AllReadyH.cons rfl (fun K hK => ?_) AllReadyH.nil)
      clear hS
      go_simp
      go_wp2_with fail
      refine (CK.out _).mono ?_
      rintro e wc ⟨rfl, hb⟩
      have H5c : Hid (TwoAt wc w1.heap.size (.string s) (.int .i64 z)) := H5b.out.below hb
      have H7c : Hid (TwoAt wc w3.heap.size (.string r) (.int .i64 n)) := H7b.out.below hb
      have HBc : Hid (Below w.heap.size w wc) := HBb.out.trans (hb.mono HBb.out.size)
      clear hb
      refine Shut.out hK _ _ ⟨⟨H5c.out.c0, H5c.out.c1⟩, ⟨H7c.out.c0, H7c.out.c1⟩⟩ (fun hS => ?_)
      clear hK K
      refine takeH_on 9 (v := ?_) rfl rfl (by kernel_rfl) (by kernel_rfl) (by kernel_rfl) (fun _ _ _ h => h) (by rfl) hS (fun w hSw => ?_) ?_
      rotate_left
      · ((try dsimp only at hSw); go_simp; try with_reducible rfl)
      simp only [List.setIfInBounds_toArray, List.set_cons_zero, List.set_cons_succ]
      refine takeH_on 10 (v := ?_) rfl rfl (by kernel_rfl) (by kernel_rfl) (by kernel_rfl) (fun _ _ _ h => h) (by rfl) hS (fun w hSw => ?_) ?_
      rotate_left
      · ((try dsimp only at hSw); go_simp; try with_reducible rfl)
      simp only [List.setIfInBounds_toArray, List.set_cons_zero, List.set_cons_succ]
      refine takeH_on 11 (v := ?_) rfl rfl (by kernel_rfl) (by kernel_rfl) (by kernel_rfl) (fun _ _ _ h => h) (by rfl) hS (fun w hSw => ?_) ?_
      rotate_left
      · ((try dsimp only at hSw); go_simp; try with_reducible rfl)
      simp only [List.setIfInBounds_toArray, List.set_cons_zero, List.set_cons_succ]
      refine takeH_on 12 (v := ?_) rfl rfl (by kernel_rfl) (by kernel_rfl) (by kernel_rfl) (fun _ _ _ h => h) (by rfl) hS (fun w hSw => ?_) ?_
      rotate_left
      · ((try dsimp only at hSw); go_simp; try with_reducible rfl)
      simp only [List.setIfInBounds_toArray, List.set_cons_zero, List.set_cons_succ]
      refine takeH_on 13 (v := ?_) rfl rfl (by kernel_rfl) (by kernel_rfl) (by kernel_rfl) (fun _ _ _ h => h) (by rfl) hS (fun w hSw => ?_) ?_
      rotate_left
      · ((try dsimp only at hSw); go_simp; try with_reducible rfl)
      simp only [List.setIfInBounds_toArray, List.set_cons_zero, List.set_cons_succ]
      refine wpAnyH_ready (rs := [14]) (by kernel_rfl) (by simp) (AllReadyH.cons rfl (fun K hK => ?_) AllReadyH.nil)
      clear hS
      go_simp
      go_wp2_with fail
      refine (CI.out _).mono ?_
      rintro e wd ⟨rfl, hb⟩
      have H5d : Hid (TwoAt wd w1.heap.size (.string s) (.int .i64 z)) := H5c.out.below hb
      have H7d : Hid (TwoAt wd w3.heap.size (.string r) (.int .i64 n)) := H7c.out.below hb
      have HBd : Hid (Below w.heap.size w wd) := HBc.out.trans (hb.mono HBc.out.size)
      clear hb
      refine Shut.out hK _ _ ⟨⟨H5d.out.c0, H5d.out.c1⟩, ⟨H7d.out.c0, H7d.out.c1⟩⟩ (fun hS => ?_)
      clear hK K
      refine takeH_on 15 (v := ?_) rfl rfl (by kernel_rfl) (by kernel_rfl) (by kernel_rfl) (fun _ _ _ h => h) (by rfl) hS (fun w hSw => ?_) ?_
      rotate_left
      · ((try dsimp only at hSw); go_simp; try with_reducible rfl)
      simp only [List.setIfInBounds_toArray, List.set_cons_zero, List.set_cons_succ]
      refine takeH_on 16 (v := ?_) rfl rfl (by kernel_rfl) (by kernel_rfl) (by kernel_rfl) (fun _ _ _ h => h) (by rfl) hS (fun w hSw => ?_) ?_
      rotate_left
      · ((try dsimp only at hSw); go_simp; try with_reducible rfl)
      simp only [List.setIfInBounds_toArray, List.set_cons_zero, List.set_cons_succ]
      refine takeH_on 17 (v := ?_) rfl rfl (by kernel_rfl) (by kernel_rfl) (by kernel_rfl) (fun _ _ _ h => h) (by rfl) hS (fun w hSw => ?_) ?_
      rotate_left
      · ((try dsimp only at hSw); go_simp; try with_reducible rfl)
      simp only [List.setIfInBounds_toArray, List.set_cons_zero, List.set_cons_succ]
      refine takeH_on 18 (v := ?_) rfl rfl (by kernel_rfl) (by kernel_rfl) (by kernel_rfl) (fun _ _ _ h => h) (by rfl) hS (fun w hSw => ?_) ?_
      rotate_left
      · ((try dsimp only at hSw); go_simp; try with_reducible rfl)
      simp only [List.setIfInBounds_toArray, List.set_cons_zero, List.set_cons_succ]
      refine takeH_on 19 (v := ?_) rfl rfl (by kernel_rfl) (by kernel_rfl) (by kernel_rfl) (fun _ _ _ h => h) (by rfl) hS (fun w hSw => ?_) ?_
      rotate_left
      · ((try dsimp only at hSw); go_simp; try with_reducible rfl)
      simp only [List.setIfInBounds_toArray, List.set_cons_zero, List.set_cons_succ]
      refine takeH_off 20 rfl rfl (by kernel_rfl) (by kernel_rfl) (by kernel_rfl) (fun _ _ _ h => h) (by rfl) hS ?_
      simp only [List.setIfInBounds_toArray, List.set_cons_zero, List.set_cons_succ]
      refine takeH_off 21 rfl rfl (by kernel_rfl) (by kernel_rfl) (by kernel_rfl) (fun _ _ _ h => h) (by rfl) hS ?_
      simp only [List.setIfInBounds_toArray, List.set_cons_zero, List.set_cons_succ]
      refine takeH_off 22 rfl rfl (by kernel_rfl) (by kernel_rfl) (by kernel_rfl) (fun _ _ _ h => h) (by rfl) hS ?_
      simp only [List.setIfInBounds_toArray, List.set_cons_zero, List.set_cons_succ]
      refine takeH_on 23 (v := ?_) rfl rfl (by kernel_rfl) (by kernel_rfl) (by kernel_rfl) (fun _ _ _ h => h) (by rfl) hS (fun w hSw => ?_) ?_
      rotate_left
      · ((try dsimp only at hSw); go_simp; try with_reducible rfl)
      simp only [List.setIfInBounds_toArray, List.set_cons_zero, List.set_cons_succ]
      refine takeH_on 24 (v := ?_) rfl rfl (by kernel_rfl) (by kernel_rfl) (by kernel_rfl) (fun _ _ _ h => h) (by rfl) hS (fun w hSw => ?_) ?_
      rotate_left
      · ((try dsimp only at hSw); go_simp; try with_reducible rfl)
      simp only [List.setIfInBounds_toArray, List.set_cons_zero, List.set_cons_succ]
      refine wpAnyH_done (by kernel_rfl) ?_ _
      go_wp2_with fail
      refine (drawGet_any oa2 len2 cap2 _ (HC2.out.below HBd.out) hc2 hm2).mono ?_
      rintro e w6 ⟨⟨t, rfl, ht⟩, hb⟩
      have HB6 : Hid (Below w.heap.size w w6) := HBd.out.trans (hb.mono HBd.out.size)
      clear hb
      have htm : t.size ≤ maxLen := Nat.le_trans ht (by decide)
      cases hg : getOk t
      · have HV : Hid (getVal t = .tuple #[.agg #[.string ByteArray.empty, .int .i64 0], .bool false]) := if_neg (by rw [hg]; decide)
        clear hg
        go_wp2_with fail
        refine (implGet_val _ _ _ _ _ htm HV.out).mono ?_
        rintro e w7 ⟨rfl, hb⟩
        have HB7 : Hid (Below w.heap.size w w7) := HB6.out.trans (hb.mono HB6.out.size)
        clear hb
        go_wp2_with fail
        refine (specHostGet_val _ _ _ _ _ htm HV).mono ?_
        rintro e w8 ⟨rfl, hb⟩
        have H10 : Hid (TwoAt w8 w7.heap.size (.string ByteArray.empty) (.int .i64 0)) := (TwoAt.new w7 _ _ _).below hb
        have HB8 : Hid (Below w.heap.size w w8) := (HB7.out.alloc HB7.out.size _).trans (hb.mono (by have := HB7.out.size; simp; omega))
        clear hb
        have x0 := H10.out.c0
        have x1 := H10.out.c1
        have x2 := H10.out.old
        go_wp2
        go_ret
        exact ⟨rfl, HB8.out.alloc HB8.out.size _⟩
      · have HV : Hid (getVal t = .tuple #[.agg #[.string (getName t), .int .i64 (getNum t)], .bool true]) := if_pos hg
        have HPG : Hid (putS (getName t) (getNum t) = t) := put_get t hg
        have hnm : (getName t).size ≤ maxLen := by
          have h1 := getName_size t
          have h2 := lead_le t.data.toList
          have h3 : t.data.toList.length = t.size := by simp
          omega
        clear hg
        obtain ⟨y, hy⟩ : ∃ y, y = getName t := ⟨_, rfl⟩
        obtain ⟨m, hm⟩ : ∃ m, m = getNum t := ⟨_, rfl⟩
        rw [← hy, ← hm] at HV HPG
        rw [← hy] at hnm
        clear hy hm
        have CP : Hid (∀ w, Tab w → Calls Tryd.prog 5 #[.agg #[.string y, .int .i64 m]] w fun e w' => e = .returned (.string t) ∧ Below w.heap.size w w') := fun w ht => by have := implPut_any y m w hnm ht; rw [HPG.out] at this; exact this
        go_wp2_with fail
        refine (implGet_val _ _ _ _ _ htm HV.out).mono ?_
        rintro e w7 ⟨rfl, hb⟩
        have HB7 : Hid (Below w.heap.size w w7) := HB6.out.trans (hb.mono HB6.out.size)
        clear hb
        go_wp2_with fail
        refine (specHostGet_val _ _ _ _ _ htm HV).mono ?_
        rintro e w8 ⟨rfl, hb⟩
        have H10 : Hid (TwoAt w8 w7.heap.size (.string y) (.int .i64 m)) := (TwoAt.new w7 _ _ _).below hb
        have HB8 : Hid (Below w.heap.size w w8) := (HB7.out.alloc HB7.out.size _).trans (hb.mono (by have := HB7.out.size; simp; omega))
        have HT9 : Hid (∀ t5, Tab (w8.alloc t5)) := fun t5 => (HT.out.below HB8.out).below ((Below.refl _ _).alloc (Nat.le_refl _) _)
        clear hb
        have x0 := H10.out.c0
        have x1 := H10.out.c1
        have x2 := H10.out.old
        go_wp2_with fail
        refine (CP.out _ (HT9.out _)).mono ?_
        rintro e w9 ⟨rfl, hb⟩
        have HB9 : Hid (Below w.heap.size w w9) := (HB8.out.alloc HB8.out.size _).trans (hb.mono (by have := HB8.out.size; simp; omega))
        clear hb
        go_wp2
        go_ret
        exact ⟨rfl, HB9.out⟩
    · skip
      have HG : Hid (getVal (putS s z) = .tuple #[.agg #[.string s, .int .i64 z], .bool true]) := get_put s z hok
      have CI : Hid (∀ w, Calls Tryd.prog 8 #[.agg #[.string s, .int .i64 z]] w fun e w' => e = .returned (.bool true) ∧ Below w.heap.size w w') := fun w => by rw [← hok]; exact implOk_any s z w hsm
      have CK : Hid (∀ w, Calls Tryd.prog 9 #[.agg #[.string s, .int .i64 z]] w fun e w' => e = .returned (.bool true) ∧ Below w.heap.size w w') := fun w => by rw [← hok]; exact specOk_any s z w hsm
      clear hok
      obtain ⟨P, hP⟩ : ∃ P, P = putS s z := ⟨_, rfl⟩
      have hPm : P.size ≤ maxLen := by rw [hP]; exact putS_size s z hsm
      rw [← hP] at HG
      have CS : Hid (∀ w, Calls Tryd.prog 7 #[.agg #[.string s, .int .i64 z]] w fun e w' => e = .returned (.string P) ∧ Below w.heap.size w w') := fun w => by rw [hP]; exact specPut_any s z w hsm
      have CW : Hid (∀ w, Tab w → Calls Tryd.prog 5 #[.agg #[.string s, .int .i64 z]] w fun e w' => e = .returned (.string P) ∧ Below w.heap.size w w') := fun w ht => by rw [hP]; exact implPut_any s z w hsm ht
      clear hP
      obtain ⟨r, hr⟩ : ∃ r, r = s := ⟨_, rfl⟩
      obtain ⟨n, hn⟩ : ∃ n, n = (z : Int) := ⟨_, rfl⟩
      rw [← hr, ← hn] at HG
      have HRN : Hid (r = s ∧ n = z) := ⟨hr, hn⟩
      clear hr hn
      go_wp2_with fail
      refine (CW.out _ ?_).mono ?_
      · exact (HT.out.below HB1.out).below ((Below.refl _ _).alloc (Nat.le_refl _) _)
      rintro e w2 ⟨rfl, hb⟩
      have H52 : Hid (TwoAt w2 w1.heap.size (.string s) (.int .i64 z)) := (TwoAt.new w1 _ _ _).below hb
      have HB2 : Hid (Below w.heap.size w w2) := (HB1.out.alloc HB1.out.size _).trans (hb.mono (by have := HB1.out.size; simp; omega))
      clear hb
      go_wp2_with fail
      refine (implGet_val _ _ _ _ _ hPm HG.out).mono ?_
      rintro e w3 ⟨rfl, hb⟩
      have H53 : Hid (TwoAt w3 w1.heap.size (.string s) (.int .i64 z)) := H52.out.below hb
      have HB3 : Hid (Below w.heap.size w w3) := HB2.out.trans (hb.mono HB2.out.size)
      clear hb
      have H50 : Hid (TwoAt (w3.alloc (.cells #[.string r, .int .i64 n] 24)).drew w1.heap.size (.string s) (.int .i64 z)) := (H53.out.below ((Below.refl _ _).alloc (Nat.le_refl _) _)).below ((Below.refl _ _).drew)
      have H70 : Hid (TwoAt (w3.alloc (.cells #[.string r, .int .i64 n] 24)).drew w3.heap.size (.string r) (.int .i64 n)) := (TwoAt.new w3 _ _ _).below ((Below.refl _ _).drew)
      have HB0 : Hid (Below w.heap.size w (w3.alloc (.cells #[.string r, .int .i64 n] 24)).drew) := (HB3.out.alloc HB3.out.size _).drew
      clear H52 H53
      go_wp2_with fail
      refine wp_region_held_drew (S := (fun w' => (w'.cell? ⟨w1.heap.size, 0, none⟩ = some (.string s) ∧ w'.cell? ⟨w1.heap.size, 1, none⟩ = some (.int .i64 z)) ∧ (w'.cell? ⟨w3.heap.size, 0, none⟩ = some (.string r) ∧ w'.cell? ⟨w3.heap.size, 1, none⟩ = some (.int .i64 n)))) (by kernel_rfl) ?_ (fun hS => ?_)
      · exact ⟨⟨H50.out.c0, H50.out.c1⟩, ⟨H70.out.c0, H70.out.c1⟩⟩
      refine takeH_on 0 (v := ?_) rfl rfl (by kernel_rfl) (by kernel_rfl) (by kernel_rfl) (fun _ _ _ h => h) (by rfl) hS (fun w hSw => ?_) ?_
      rotate_left
      · ((try dsimp only at hSw); go_simp; try with_reducible rfl)
      simp only [List.setIfInBounds_toArray, List.set_cons_zero, List.set_cons_succ]
      refine takeH_on 1 (v := ?_) rfl rfl (by kernel_rfl) (by kernel_rfl) (by kernel_rfl) (fun _ _ _ h => h) (by rfl) hS (fun w hSw => ?_) ?_
      rotate_left
      · ((try dsimp only at hSw); go_simp; try with_reducible rfl)
      simp only [List.setIfInBounds_toArray, List.set_cons_zero, List.set_cons_succ]
      refine wpAnyH_ready (rs := [2]) (by kernel_rfl) (by simp) (AllReadyH.cons rfl (fun K hK => ?_) AllReadyH.nil)
      clear hS
      go_simp
      go_wp2_with fail
      refine (CS.out _).mono ?_
      rintro e wa ⟨rfl, hb⟩
      have H5a : Hid (TwoAt wa w1.heap.size (.string s) (.int .i64 z)) := H50.out.below hb
      have H7a : Hid (TwoAt wa w3.heap.size (.string r) (.int .i64 n)) := H70.out.below hb
      have HBa : Hid (Below w.heap.size w wa) := HB0.out.trans (hb.mono HB0.out.size)
      clear hb
      refine Shut.out hK _ _ ⟨⟨H5a.out.c0, H5a.out.c1⟩, ⟨H7a.out.c0, H7a.out.c1⟩⟩ (fun hS => ?_)
      clear hK K
      refine takeH_on 3 (v := .bool false) rfl rfl (by kernel_rfl) (by kernel_rfl) (by kernel_rfl) (fun _ _ _ h => h) (by rfl) hS (fun w hSw => ?_) ?_
      · ((try dsimp only at hSw); go_simp; try simp)
      simp only [List.setIfInBounds_toArray, List.set_cons_zero, List.set_cons_succ]
      refine takeH_on 4 (v := ?_) rfl rfl (by kernel_rfl) (by kernel_rfl) (by kernel_rfl) (fun _ _ _ h => h) (by rfl) hS (fun w hSw => ?_) ?_
      rotate_left
      · ((try dsimp only at hSw); go_simp; try with_reducible rfl)
      simp only [List.setIfInBounds_toArray, List.set_cons_zero, List.set_cons_succ]
      refine takeH_on 5 (v := ?_) rfl rfl (by kernel_rfl) (by kernel_rfl) (by kernel_rfl) (fun _ _ _ h => h) (by rfl) hS (fun w hSw => ?_) ?_
      rotate_left
      · ((try dsimp only at hSw); go_simp; try with_reducible rfl)
      simp only [List.setIfInBounds_toArray, List.set_cons_zero, List.set_cons_succ]
      refine takeH_on 7 (v := ?_) rfl rfl (by kernel_rfl) (by kernel_rfl) (by kernel_rfl) (fun _ _ _ h => h) (by rfl) hS (fun w hSw => ?_) ?_
      rotate_left
      · ((try dsimp only at hSw); go_simp; try with_reducible rfl)
      simp only [List.setIfInBounds_toArray, List.set_cons_zero, List.set_cons_succ]
      refine wpAnyH_ready (rs := [6]) (by kernel_rfl) (by simp) (AllReadyH.cons rfl (fun K hK => ?_) AllReadyH.nil)
      clear hS
      go_simp
      go_wp2_with fail
      refine (CI.out _).mono ?_
      rintro e wb ⟨rfl, hb⟩
      have H5b : Hid (TwoAt wb w1.heap.size (.string s) (.int .i64 z)) := H5a.out.below hb
      have H7b : Hid (TwoAt wb w3.heap.size (.string r) (.int .i64 n)) := H7a.out.below hb
      have HBb : Hid (Below w.heap.size w wb) := HBa.out.trans (hb.mono HBa.out.size)
      clear hb
      refine Shut.out hK _ _ ⟨⟨H5b.out.c0, H5b.out.c1⟩, ⟨H7b.out.c0, H7b.out.c1⟩⟩ (fun hS => ?_)
      clear hK K
      refine wpAnyH_ready (rs := [8]) (by kernel_rfl) (by simp) (AllReadyH.cons rfl (fun K hK => ?_) AllReadyH.nil)
      clear hS
      go_simp
      go_wp2_with fail
      refine (CK.out _).mono ?_
      rintro e wc ⟨rfl, hb⟩
      have H5c : Hid (TwoAt wc w1.heap.size (.string s) (.int .i64 z)) := H5b.out.below hb
      have H7c : Hid (TwoAt wc w3.heap.size (.string r) (.int .i64 n)) := H7b.out.below hb
      have HBc : Hid (Below w.heap.size w wc) := HBb.out.trans (hb.mono HBb.out.size)
      clear hb
      refine Shut.out hK _ _ ⟨⟨H5c.out.c0, H5c.out.c1⟩, ⟨H7c.out.c0, H7c.out.c1⟩⟩ (fun hS => ?_)
      clear hK K
      refine takeH_on 9 (v := ?_) rfl rfl (by kernel_rfl) (by kernel_rfl) (by kernel_rfl) (fun _ _ _ h => h) (by rfl) hS (fun w hSw => ?_) ?_
      rotate_left
      · ((try dsimp only at hSw); go_simp; try with_reducible rfl)
      simp only [List.setIfInBounds_toArray, List.set_cons_zero, List.set_cons_succ]
      refine takeH_on 10 (v := ?_) rfl rfl (by kernel_rfl) (by kernel_rfl) (by kernel_rfl) (fun _ _ _ h => h) (by rfl) hS (fun w hSw => ?_) ?_
      rotate_left
      · ((try dsimp only at hSw); go_simp; try with_reducible rfl)
      simp only [List.setIfInBounds_toArray, List.set_cons_zero, List.set_cons_succ]
      refine takeH_on 11 (v := ?_) rfl rfl (by kernel_rfl) (by kernel_rfl) (by kernel_rfl) (fun _ _ _ h => h) (by rfl) hS (fun w hSw => ?_) ?_
      rotate_left
      · ((try dsimp only at hSw); go_simp; try with_reducible rfl)
      simp only [List.setIfInBounds_toArray, List.set_cons_zero, List.set_cons_succ]
      refine takeH_on 12 (v := ?_) rfl rfl (by kernel_rfl) (by kernel_rfl) (by kernel_rfl) (fun _ _ _ h => h) (by rfl) hS (fun w hSw => ?_) ?_
      rotate_left
      · ((try dsimp only at hSw); go_simp; try with_reducible rfl)
      simp only [List.setIfInBounds_toArray, List.set_cons_zero, List.set_cons_succ]
      refine takeH_on 13 (v := ?_) rfl rfl (by kernel_rfl) (by kernel_rfl) (by kernel_rfl) (fun _ _ _ h => h) (by rfl) hS (fun w hSw => ?_) ?_
      rotate_left
      · ((try dsimp only at hSw); go_simp; try with_reducible rfl)
      simp only [List.setIfInBounds_toArray, List.set_cons_zero, List.set_cons_succ]
      refine wpAnyH_ready (rs := [14]) (by kernel_rfl) (by simp) (AllReadyH.cons rfl (fun K hK => ?_) AllReadyH.nil)
      clear hS
      go_simp
      go_wp2_with fail
      refine (CI.out _).mono ?_
      rintro e wd ⟨rfl, hb⟩
      have H5d : Hid (TwoAt wd w1.heap.size (.string s) (.int .i64 z)) := H5c.out.below hb
      have H7d : Hid (TwoAt wd w3.heap.size (.string r) (.int .i64 n)) := H7c.out.below hb
      have HBd : Hid (Below w.heap.size w wd) := HBc.out.trans (hb.mono HBc.out.size)
      clear hb
      refine Shut.out hK _ _ ⟨⟨H5d.out.c0, H5d.out.c1⟩, ⟨H7d.out.c0, H7d.out.c1⟩⟩ (fun hS => ?_)
      clear hK K
      refine takeH_on 15 (v := ?_) rfl rfl (by kernel_rfl) (by kernel_rfl) (by kernel_rfl) (fun _ _ _ h => h) (by rfl) hS (fun w hSw => ?_) ?_
      rotate_left
      · ((try dsimp only at hSw); go_simp; try with_reducible rfl)
      simp only [List.setIfInBounds_toArray, List.set_cons_zero, List.set_cons_succ]
      refine takeH_on 16 (v := ?_) rfl rfl (by kernel_rfl) (by kernel_rfl) (by kernel_rfl) (fun _ _ _ h => h) (by rfl) hS (fun w hSw => ?_) ?_
      rotate_left
      · ((try dsimp only at hSw); go_simp; try with_reducible rfl)
      simp only [List.setIfInBounds_toArray, List.set_cons_zero, List.set_cons_succ]
      refine takeH_on 17 (v := ?_) rfl rfl (by kernel_rfl) (by kernel_rfl) (by kernel_rfl) (fun _ _ _ h => h) (by rfl) hS (fun w hSw => ?_) ?_
      rotate_left
      · ((try dsimp only at hSw); go_simp; try with_reducible rfl)
      simp only [List.setIfInBounds_toArray, List.set_cons_zero, List.set_cons_succ]
      refine takeH_on 18 (v := ?_) rfl rfl (by kernel_rfl) (by kernel_rfl) (by kernel_rfl) (fun _ _ _ h => h) (by rfl) hS (fun w hSw => ?_) ?_
      rotate_left
      · ((try dsimp only at hSw); go_simp; try with_reducible rfl)
      simp only [List.setIfInBounds_toArray, List.set_cons_zero, List.set_cons_succ]
      refine takeH_on 19 (v := ?_) rfl rfl (by kernel_rfl) (by kernel_rfl) (by kernel_rfl) (fun _ _ _ h => h) (by rfl) hS (fun w hSw => ?_) ?_
      rotate_left
      · ((try dsimp only at hSw); go_simp; try with_reducible rfl)
      simp only [List.setIfInBounds_toArray, List.set_cons_zero, List.set_cons_succ]
      refine takeH_on 20 (v := ?_) rfl rfl (by kernel_rfl) (by kernel_rfl) (by kernel_rfl) (fun _ _ _ h => h) (by rfl) hS (fun w hSw => ?_) ?_
      rotate_left
      · ((try dsimp only at hSw); go_simp; try with_reducible rfl)
      simp only [List.setIfInBounds_toArray, List.set_cons_zero, List.set_cons_succ]
      refine takeH_on 21 (v := ?_) rfl rfl (by kernel_rfl) (by kernel_rfl) (by kernel_rfl) (fun _ _ _ h => h) (by rfl) hS (fun w hSw => ?_) ?_
      rotate_left
      · ((try dsimp only at hSw); go_simp; try with_reducible rfl)
      simp only [List.setIfInBounds_toArray, List.set_cons_zero, List.set_cons_succ]
      refine takeH_on 22 (v := .bool false) rfl rfl (by kernel_rfl) (by kernel_rfl) (by kernel_rfl) (fun _ _ _ h => h) (by rfl) hS (fun w hSw => ?_) ?_
      · ((try dsimp only at hSw); go_simp; (rw [HRN.out.1, HRN.out.2]; simp))
      simp only [List.setIfInBounds_toArray, List.set_cons_zero, List.set_cons_succ]
      refine takeH_on 23 (v := ?_) rfl rfl (by kernel_rfl) (by kernel_rfl) (by kernel_rfl) (fun _ _ _ h => h) (by rfl) hS (fun w hSw => ?_) ?_
      rotate_left
      · ((try dsimp only at hSw); go_simp; try with_reducible rfl)
      simp only [List.setIfInBounds_toArray, List.set_cons_zero, List.set_cons_succ]
      refine takeH_on 24 (v := ?_) rfl rfl (by kernel_rfl) (by kernel_rfl) (by kernel_rfl) (fun _ _ _ h => h) (by rfl) hS (fun w hSw => ?_) ?_
      rotate_left
      · ((try dsimp only at hSw); go_simp; try with_reducible rfl)
      simp only [List.setIfInBounds_toArray, List.set_cons_zero, List.set_cons_succ]
      refine wpAnyH_done (by kernel_rfl) ?_ _
      go_wp2_with fail
      refine (drawGet_any oa2 len2 cap2 _ (HC2.out.below HBd.out) hc2 hm2).mono ?_
      rintro e w6 ⟨⟨t, rfl, ht⟩, hb⟩
      have HB6 : Hid (Below w.heap.size w w6) := HBd.out.trans (hb.mono HBd.out.size)
      clear hb
      have htm : t.size ≤ maxLen := Nat.le_trans ht (by decide)
      cases hg : getOk t
      · have HV : Hid (getVal t = .tuple #[.agg #[.string ByteArray.empty, .int .i64 0], .bool false]) := if_neg (by rw [hg]; decide)
        clear hg
        go_wp2_with fail
        refine (implGet_val _ _ _ _ _ htm HV.out).mono ?_
        rintro e w7 ⟨rfl, hb⟩
        have HB7 : Hid (Below w.heap.size w w7) := HB6.out.trans (hb.mono HB6.out.size)
        clear hb
        go_wp2_with fail
        refine (specHostGet_val _ _ _ _ _ htm HV).mono ?_
        rintro e w8 ⟨rfl, hb⟩
        have H10 : Hid (TwoAt w8 w7.heap.size (.string ByteArray.empty) (.int .i64 0)) := (TwoAt.new w7 _ _ _).below hb
        have HB8 : Hid (Below w.heap.size w w8) := (HB7.out.alloc HB7.out.size _).trans (hb.mono (by have := HB7.out.size; simp; omega))
        clear hb
        have x0 := H10.out.c0
        have x1 := H10.out.c1
        have x2 := H10.out.old
        go_wp2
        go_ret
        exact ⟨rfl, HB8.out.alloc HB8.out.size _⟩
      · have HV : Hid (getVal t = .tuple #[.agg #[.string (getName t), .int .i64 (getNum t)], .bool true]) := if_pos hg
        have HPG : Hid (putS (getName t) (getNum t) = t) := put_get t hg
        have hnm : (getName t).size ≤ maxLen := by
          have h1 := getName_size t
          have h2 := lead_le t.data.toList
          have h3 : t.data.toList.length = t.size := by simp
          omega
        clear hg
        obtain ⟨y, hy⟩ : ∃ y, y = getName t := ⟨_, rfl⟩
        obtain ⟨m, hm⟩ : ∃ m, m = getNum t := ⟨_, rfl⟩
        rw [← hy, ← hm] at HV HPG
        rw [← hy] at hnm
        clear hy hm
        have CP : Hid (∀ w, Tab w → Calls Tryd.prog 5 #[.agg #[.string y, .int .i64 m]] w fun e w' => e = .returned (.string t) ∧ Below w.heap.size w w') := fun w ht => by have := implPut_any y m w hnm ht; rw [HPG.out] at this; exact this
        go_wp2_with fail
        refine (implGet_val _ _ _ _ _ htm HV.out).mono ?_
        rintro e w7 ⟨rfl, hb⟩
        have HB7 : Hid (Below w.heap.size w w7) := HB6.out.trans (hb.mono HB6.out.size)
        clear hb
        go_wp2_with fail
        refine (specHostGet_val _ _ _ _ _ htm HV).mono ?_
        rintro e w8 ⟨rfl, hb⟩
        have H10 : Hid (TwoAt w8 w7.heap.size (.string y) (.int .i64 m)) := (TwoAt.new w7 _ _ _).below hb
        have HB8 : Hid (Below w.heap.size w w8) := (HB7.out.alloc HB7.out.size _).trans (hb.mono (by have := HB7.out.size; simp; omega))
        have HT9 : Hid (∀ t5, Tab (w8.alloc t5)) := fun t5 => (HT.out.below HB8.out).below ((Below.refl _ _).alloc (Nat.le_refl _) _)
        clear hb
        have x0 := H10.out.c0
        have x1 := H10.out.c1
        have x2 := H10.out.old
        go_wp2_with fail
        refine (CP.out _ (HT9.out _)).mono ?_
        rintro e w9 ⟨rfl, hb⟩
        have HB9 : Hid (Below w.heap.size w w9) := (HB8.out.alloc HB8.out.size _).trans (hb.mono (by have := HB8.out.size; simp; omega))
        clear hb
        go_wp2
        go_ret
        exact ⟨rfl, HB9.out⟩

end Go.Proofs.YtiobgpoedohcoaaDoor
