/- DERIVED. The walks of what draws texts of hosts. -/
import Derived.Test.YtiobgpoedohcoaaDoorDrawHost2
namespace Go.Proofs.YtiobgpoedohcoaaDoor
open Go.RowKit

set_option maxHeartbeats 1000000 in
theorem bent_any (R : Nat) (oa : Option Addr) (len cap p : Nat) (s : ByteArray) (w : World) (h : RdAt w R oa len cap p) (hp : p ≤ 999980) (hsz : s.size ≤ 1006) :
    Calls Tryd.prog 21 #[.pointer (some ⟨R, 0, none⟩), .string s] w fun e w' => (∃ t : ByteArray, e = .returned (.string t) ∧ t.size ≤ 2010) ∧ (∃ q, Drawn R oa len cap q w w') := by
  have HR := hid h
  clear h
  go_enter Tryd.func21, Tryd.ntmps21
  go_wp2_with fail
  refine (pick_any R oa len cap p ((s.size : Int) + 1) _ HR.out (by omega) (by omega)).mono ?_
  rintro e w1 ⟨⟨x, rfl, hx0, hx1⟩, hd⟩
  obtain ⟨k, rfl⟩ : ∃ k : Nat, x = (k : Int) := ⟨x.toNat, by omega⟩
  have hk : k ≤ s.size := by omega
  have HD1 : Hid (Drawn R oa len cap (p + 1) w w1) := hd
  clear hd
  go_wp2_with fail
  refine (pick_any R oa len cap (p + 1) 6 _ HD1.out.1 (by omega) (by decide)).mono ?_
  rintro e w2 ⟨⟨y, rfl, hy0, hy1⟩, hd⟩
  have HD2 : Hid (Drawn R oa len cap (p + 2) w w2) := ⟨hd.1, HD1.out.2.trans hd.2⟩
  clear hd HD1
  by_cases h0 : y = 0
  · subst h0
    by_cases hks : k < s.size
    · have hks' : (k : Int) < s.size := by omega
      have hwr : IntKind.i64.wrap ((k : Int) + 1) = (k : Int) + 1 := by rw [IntKind.wrap_i64]; omega
      go_wp2_with fail
      refine wp_region_any (by kernel_rfl) ?_
      change wpAny _ _ _ _ _ _ _ (World.drew _)
      refine take_on 0 (v := ?_) rfl rfl (by kernel_rfl) (by kernel_rfl) (by kernel_rfl) (fun _ _ _ h => h) (by rfl) (fun w => ?_) ?_
      rotate_left
      · (go_simp; try with_reducible rfl)
      simp only [List.setIfInBounds_toArray, List.set_cons_zero, List.set_cons_succ]
      refine take_on 1 (v := ?_) rfl rfl (by kernel_rfl) (by kernel_rfl) (by kernel_rfl) (fun _ _ _ h => h) (by rfl) (fun w => ?_) ?_
      rotate_left
      · (go_simp; try with_reducible rfl)
      simp only [List.setIfInBounds_toArray, List.set_cons_zero, List.set_cons_succ]
      refine take_on 2 (v := ?_) rfl rfl (by kernel_rfl) (by kernel_rfl) (by kernel_rfl) (fun _ _ _ h => h) (by rfl) (fun w => ?_) ?_
      rotate_left
      · (go_simp; try with_reducible rfl)
      simp only [List.setIfInBounds_toArray, List.set_cons_zero, List.set_cons_succ]
      refine take_on 3 (v := ?_) rfl rfl (by kernel_rfl) (by kernel_rfl) (by kernel_rfl) (fun _ _ _ h => h) (by rfl) (fun w => ?_) ?_
      rotate_left
      · (go_simp; try with_reducible rfl)
      simp only [List.setIfInBounds_toArray, List.set_cons_zero, List.set_cons_succ]
      refine take_on 7 (v := ?_) rfl rfl (by kernel_rfl) (by kernel_rfl) (by kernel_rfl) (fun _ _ _ h => h) (by rfl) (fun w => ?_) ?_
      rotate_left
      · (go_simp; try with_reducible rfl)
      simp only [List.setIfInBounds_toArray, List.set_cons_zero, List.set_cons_succ]
      refine take_on 8 (v := ?_) rfl rfl (by kernel_rfl) (by kernel_rfl) (by kernel_rfl) (fun _ _ _ h => h) (by rfl) (fun w => ?_) ?_
      rotate_left
      · (go_simp; try with_reducible rfl)
      simp only [List.setIfInBounds_toArray, List.set_cons_zero, List.set_cons_succ]
      refine take_on 9 (v := .int .i64 ((k : Int) + 1)) rfl rfl (by kernel_rfl) (by kernel_rfl) (by kernel_rfl) (fun _ _ _ h => h) (by rfl) (fun w => ?_) ?_
      · (go_simp; try (rw [hwr]))
      simp only [List.setIfInBounds_toArray, List.set_cons_zero, List.set_cons_succ]
      refine take_on 10 (v := .string (s.extract (k + 1) s.size)) rfl rfl (by kernel_rfl) (by kernel_rfl) (by kernel_rfl) (fun _ _ _ h => h) (by rfl) (fun w => ?_) ?_
      · (go_simp; (intro hh; have := hh (by omega); omega))
      simp only [List.setIfInBounds_toArray, List.set_cons_zero, List.set_cons_succ]
      refine wpAny_ready (rs := [4]) (by kernel_rfl) (by simp) (AllReady.cons rfl (fun K hK => ?_) AllReady.nil)
      go_simp
      refine hK _ _ ?_
      clear hK K
      refine wpAny_ready (rs := [5]) (by kernel_rfl) (by simp) (AllReady.cons rfl (fun K hK => ?_) AllReady.nil)
      go_simp
      go_wp2_with fail
      refine (of_any R _ 17 1 oa len cap (p + 2) _ ?_ (by omega) (by decide) (by decide) ?_ ?_ ?_).mono ?_
      · exact HD2.out.1.keep (((Below.refl _ _).alloc (Nat.le_refl _) _).drew)
      · simp
      · have := HD2.out.1.old; simp; omega
      · exact strs_new _ _ _ 1 _ 17 (by simp) (by rfl) (by kernel_rfl)
      rintro e w3 ⟨⟨a, rfl, ha⟩, hd⟩
      have HD3 : Hid (Drawn R oa len cap (p + 3) w w3) := ⟨hd.1, HD2.out.2.trans ((Keeps.of_below (((Below.refl _ _).alloc (Nat.le_refl _) _).drew) HD2.out.1.old).trans hd.2)⟩
      clear hd
      have hb1 := fun W => run_string_add_sum (P := Tryd.prog) (w := W) (s.extract 0 k) a (by rw [ByteArray.size_extract]; omega)
      refine hK _ _ ?_
      clear hK K
      refine take_on 6 (v := ?_) rfl rfl (by kernel_rfl) (by kernel_rfl) (by kernel_rfl) (fun _ _ _ h => h) (by rfl) (fun w => ?_) ?_
      rotate_left
      · (go_simp; try with_reducible rfl)
      simp only [List.setIfInBounds_toArray, List.set_cons_zero, List.set_cons_succ]
      have hb2 := fun W => run_string_add_sum (P := Tryd.prog) (w := W) (s.extract 0 k ++ a) (s.extract (k + 1) s.size) (by rw [ByteArray.size_append, ByteArray.size_extract, ByteArray.size_extract]; omega)
      refine take_on 11 (v := ?_) rfl rfl (by kernel_rfl) (by kernel_rfl) (by kernel_rfl) (fun _ _ _ h => h) (by rfl) (fun w => ?_) ?_
      rotate_left
      · (go_simp; try with_reducible rfl)
      simp only [List.setIfInBounds_toArray, List.set_cons_zero, List.set_cons_succ]
      refine take_on 12 (v := ?_) rfl rfl (by kernel_rfl) (by kernel_rfl) (by kernel_rfl) (fun _ _ _ h => h) (by rfl) (fun w => ?_) ?_
      rotate_left
      · (go_simp; try with_reducible rfl)
      simp only [List.setIfInBounds_toArray, List.set_cons_zero, List.set_cons_succ]
      refine wpAny_done (by kernel_rfl) ?_ _
      go_wp2
      go_ret
      refine ⟨⟨_, rfl, ?_⟩, p + 3, HD3.out⟩
      rw [ByteArray.size_append, ByteArray.size_append, ByteArray.size_extract, ByteArray.size_extract]; omega
    · go_wp2
      go_ret
      exact ⟨⟨s, rfl, by omega⟩, p + 2, HD2.out⟩
  · have hb0 : (y == 0) = false := by rw [beq_eq_false_iff_ne]; exact h0
    clear h0
    by_cases h1 : y = 1
    · subst h1
      go_wp2
      go_ret
      refine ⟨⟨_, rfl, ?_⟩, p + 2, HD2.out⟩
      rw [ByteArray.size_extract]; omega
    · have hb1 : (y == 1) = false := by rw [beq_eq_false_iff_ne]; exact h1
      clear h1
      by_cases h2 : y = 2
      · subst h2
        go_wp2_with fail
        refine (of_any R _ 7 1 oa len cap (p + 2) _ ?_ (by omega) (by decide) (by decide) ?_ ?_ ?_).mono ?_
        · exact HD2.out.1.keep ((Below.refl _ _).alloc (Nat.le_refl _) _)
        · simp
        · have := HD2.out.1.old; omega
        · exact strs_new _ _ _ 1 _ 7 (by simp) (by rfl) (by kernel_rfl)
        rintro e w3 ⟨⟨a, rfl, ha⟩, hd⟩
        have HD3 : Hid (Drawn R oa len cap (p + 3) w w3) := ⟨hd.1, HD2.out.2.trans ((Keeps.of_below ((Below.refl _ _).alloc (Nat.le_refl _) _) HD2.out.1.old).trans hd.2)⟩
        clear hd
        have hadd := fun W => run_string_add_sum (P := Tryd.prog) (w := W) s a (by omega)
        go_wp2
        go_ret
        refine ⟨⟨_, rfl, ?_⟩, p + 3, HD3.out⟩
        rw [ByteArray.size_append]; omega
      · have hb2 : (y == 2) = false := by rw [beq_eq_false_iff_ne]; exact h2
        clear h2
        by_cases h3 : y = 3
        · subst h3
          go_wp2_with fail
          refine wp_region_any (by kernel_rfl) ?_
          change wpAny _ _ _ _ _ _ _ (World.drew _)
          refine take_on 0 (v := ?_) rfl rfl (by kernel_rfl) (by kernel_rfl) (by kernel_rfl) (fun _ _ _ h => h) (by rfl) (fun w => ?_) ?_
          rotate_left
          · (go_simp; try with_reducible rfl)
          simp only [List.setIfInBounds_toArray, List.set_cons_zero, List.set_cons_succ]
          refine take_on 1 (v := ?_) rfl rfl (by kernel_rfl) (by kernel_rfl) (by kernel_rfl) (fun _ _ _ h => h) (by rfl) (fun w => ?_) ?_
          rotate_left
          · (go_simp; try with_reducible rfl)
          simp only [List.setIfInBounds_toArray, List.set_cons_zero, List.set_cons_succ]
          refine take_on 2 (v := ?_) rfl rfl (by kernel_rfl) (by kernel_rfl) (by kernel_rfl) (fun _ _ _ h => h) (by rfl) (fun w => ?_) ?_
          rotate_left
          · (go_simp; try with_reducible rfl)
          simp only [List.setIfInBounds_toArray, List.set_cons_zero, List.set_cons_succ]
          refine take_on 3 (v := ?_) rfl rfl (by kernel_rfl) (by kernel_rfl) (by kernel_rfl) (fun _ _ _ h => h) (by rfl) (fun w => ?_) ?_
          rotate_left
          · (go_simp; try with_reducible rfl)
          simp only [List.setIfInBounds_toArray, List.set_cons_zero, List.set_cons_succ]
          refine take_on 7 (v := ?_) rfl rfl (by kernel_rfl) (by kernel_rfl) (by kernel_rfl) (fun _ _ _ h => h) (by rfl) (fun w => ?_) ?_
          rotate_left
          · (go_simp; try with_reducible rfl)
          simp only [List.setIfInBounds_toArray, List.set_cons_zero, List.set_cons_succ]
          refine take_on 8 (v := ?_) rfl rfl (by kernel_rfl) (by kernel_rfl) (by kernel_rfl) (fun _ _ _ h => h) (by rfl) (fun w => ?_) ?_
          rotate_left
          · (go_simp; try with_reducible rfl)
          simp only [List.setIfInBounds_toArray, List.set_cons_zero, List.set_cons_succ]
          refine take_on 9 (v := ?_) rfl rfl (by kernel_rfl) (by kernel_rfl) (by kernel_rfl) (fun _ _ _ h => h) (by rfl) (fun w => ?_) ?_
          rotate_left
          · (go_simp; try with_reducible rfl)
          simp only [List.setIfInBounds_toArray, List.set_cons_zero, List.set_cons_succ]
          refine wpAny_ready (rs := [4]) (by kernel_rfl) (by simp) (AllReady.cons rfl (fun K hK => ?_) AllReady.nil)
          go_simp
          refine hK _ _ ?_
          clear hK K
          refine wpAny_ready (rs := [5]) (by kernel_rfl) (by simp) (AllReady.cons rfl (fun K hK => ?_) AllReady.nil)
          go_simp
          go_wp2_with fail
          refine (of_any R _ 9 1 oa len cap (p + 2) _ ?_ (by omega) (by decide) (by decide) ?_ ?_ ?_).mono ?_
          · exact HD2.out.1.keep (((Below.refl _ _).alloc (Nat.le_refl _) _).drew)
          · simp
          · have := HD2.out.1.old; simp; omega
          · exact strs_new _ _ _ 1 _ 9 (by simp) (by rfl) (by kernel_rfl)
          rintro e w3 ⟨⟨a, rfl, ha⟩, hd⟩
          have HD3 : Hid (Drawn R oa len cap (p + 3) w w3) := ⟨hd.1, HD2.out.2.trans ((Keeps.of_below (((Below.refl _ _).alloc (Nat.le_refl _) _).drew) HD2.out.1.old).trans hd.2)⟩
          clear hd
          have hb1 := fun W => run_string_add_sum (P := Tryd.prog) (w := W) (s.extract 0 k) a (by rw [ByteArray.size_extract]; omega)
          refine hK _ _ ?_
          clear hK K
          refine take_on 6 (v := ?_) rfl rfl (by kernel_rfl) (by kernel_rfl) (by kernel_rfl) (fun _ _ _ h => h) (by rfl) (fun w => ?_) ?_
          rotate_left
          · (go_simp; try with_reducible rfl)
          simp only [List.setIfInBounds_toArray, List.set_cons_zero, List.set_cons_succ]
          have hb2 := fun W => run_string_add_sum (P := Tryd.prog) (w := W) (s.extract 0 k ++ a) (s.extract k s.size) (by rw [ByteArray.size_append, ByteArray.size_extract, ByteArray.size_extract]; omega)
          refine take_on 10 (v := ?_) rfl rfl (by kernel_rfl) (by kernel_rfl) (by kernel_rfl) (fun _ _ _ h => h) (by rfl) (fun w => ?_) ?_
          rotate_left
          · (go_simp; try with_reducible rfl)
          simp only [List.setIfInBounds_toArray, List.set_cons_zero, List.set_cons_succ]
          refine take_on 11 (v := ?_) rfl rfl (by kernel_rfl) (by kernel_rfl) (by kernel_rfl) (fun _ _ _ h => h) (by rfl) (fun w => ?_) ?_
          rotate_left
          · (go_simp; try with_reducible rfl)
          simp only [List.setIfInBounds_toArray, List.set_cons_zero, List.set_cons_succ]
          refine wpAny_done (by kernel_rfl) ?_ _
          go_wp2
          go_ret
          refine ⟨⟨_, rfl, ?_⟩, p + 3, HD3.out⟩
          rw [ByteArray.size_append, ByteArray.size_append, ByteArray.size_extract, ByteArray.size_extract]; omega
        · have hb3 : (y == 3) = false := by rw [beq_eq_false_iff_ne]; exact h3
          clear h3
          go_wp2
          go_ret
          exact ⟨⟨s, rfl, by omega⟩, p + 2, HD2.out⟩

set_option maxHeartbeats 600000 in
theorem drawGet_any (oa : Option Addr) (len cap : Nat) (w : World) (h : CodeAt w oa len) (hc : len ≤ cap) (hm : cap ≤ maxLen) :
    Calls Tryd.prog 10 #[.slice oa len cap] w fun e w' => (∃ t : ByteArray, e = .returned (.string t) ∧ t.size ≤ 2010) ∧ Below w.heap.size w w' := by
  have HC := hid h
  clear h
  go_enter Tryd.func10, Tryd.ntmps10
  go_wp2_with fail
  refine (open_any oa len cap _ HC.out hc hm).mono ?_
  rintro e w1 ⟨rfl, ⟨l, c, hr⟩, hb⟩
  have HB1 : Hid (Below w.heap.size w w1) := hb
  have HR1 := hid hr
  clear hb hr
  go_wp2_with fail
  refine (host_any _ oa l c 0 _ HR1.out (by decide)).mono ?_
  rintro e w2 ⟨⟨s, z, rfl, hs, hz0, hz9⟩, hd⟩
  have HB2 : Hid (Below w.heap.size w w2) := hd.2.below _ _ (Nat.le_refl _) HB1.out
  have HR2 := hid hd.1
  clear hd
  obtain ⟨n, rfl⟩ : ∃ n : Nat, z = (n : Int) := ⟨z.toNat, by omega⟩
  have hsum : (s ++ decS n).size ≤ 1006 := by
    have := decS_size n
    rw [ByteArray.size_append]; omega
  obtain ⟨u, hu⟩ : ∃ u, u = s ++ decS n := ⟨_, rfl⟩
  rw [← hu] at hsum
  have CP : Hid (∀ w, Calls Tryd.prog 20 #[.agg #[.string s, .int .i64 (n : Int)]] w fun e w' => e = .returned (.string u) ∧ Below w.heap.size w w') := fun w => by rw [hu]; exact l1Put_any s n w hs (by omega)
  clear hu
  go_wp2_with fail
  refine (CP.out _).mono ?_
  rintro e w3 ⟨rfl, hb⟩
  have HB3 : Hid (Below w.heap.size w w3) := HB2.out.trans (hb.mono HB2.out.size)
  have HR3 := hid (HR2.out.keep hb)
  clear hb
  go_wp2_with fail
  refine (bent_any _ oa l c 3 u _ HR3.out (by decide) hsum).mono ?_
  rintro e w4 ⟨⟨t, rfl, ht⟩, q, hd⟩
  have HB4 : Hid (Below w.heap.size w w4) := hd.2.below _ _ (Nat.le_refl _) HB3.out
  clear hd
  go_wp2
  go_ret
  exact ⟨⟨t, rfl, ht⟩, HB4.out⟩

end Go.Proofs.YtiobgpoedohcoaaDoor
