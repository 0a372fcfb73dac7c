/- DERIVED. The walks of what draws texts of hosts. -/
import Derived.Test.YtmafkelegjjnfafDoorDrawHost2
namespace Go.Proofs.YtmafkelegjjnfafDoor
open Go.RowKit

set_option maxHeartbeats 1000000 in
theorem bent_any (R : Nat) (oa : Option Addr) (len cap p : Nat) (s : ByteArray) (w : World) (h : RdAt w R oa len cap p) (hp : p ≤ 999980) (hsz : s.size ≤ 100000) :
    Calls Tryd.prog 12 #[.pointer (some ⟨R, 0, none⟩), .string s] w fun e w' => (∃ t : ByteArray, e = .returned (.string t) ∧ t.size ≤ 200010) ∧ (∃ q, Drawn R oa len cap q w w') := by
  have HR := hid h
  clear h
  go_enter Tryd.func12, Tryd.ntmps12
  go_wp2_with fail
  refine (pick_any R oa len cap p ((s.size : Int) + 1) _ HR.out (by omega) (by omega)).mono ?_
  rintro e w1 ⟨⟨x, rfl, hx0, hx1⟩, hd⟩
  obtain ⟨k, rfl⟩ : ∃ k : Nat, x = (k : Int) := ⟨x.toNat, by omega⟩
  have hk : k ≤ s.size := by omega
  have HD1 : Hid (Drawn R oa len cap (p + 1) w w1) := hd
  clear hd
  go_wp2_with fail
  refine (pick_any R oa len cap (p + 1) 6 _ HD1.out.1 (by omega) (by decide)).mono ?_
  rintro e w2 ⟨⟨y, rfl, hy0, hy1⟩, hd⟩
  have HD2 : Hid (Drawn R oa len cap (p + 2) w w2) := ⟨hd.1, HD1.out.2.trans hd.2⟩
  clear hd HD1
  by_cases h0 : y = 0
  · subst h0
    by_cases hks : k < s.size
    · have hks' : (k : Int) < s.size := by omega
      have hwr : IntKind.i64.wrap ((k : Int) + 1) = (k : Int) + 1 := by rw [IntKind.wrap_i64]; omega
      go_wp2_with fail
      refine wp_region_any (by kernel_rfl) ?_
      change wpAny _ _ _ _ _ _ _ (World.drew _)
      refine take_on 0 (v := ?_) rfl rfl (by kernel_rfl) (by kernel_rfl) (by kernel_rfl) (fun _ _ _ h => h) (by rfl) (fun w => ?_) ?_
      rotate_left
      · (go_simp; try with_reducible rfl)
      simp only [List.setIfInBounds_toArray, List.set_cons_zero, List.set_cons_succ]
      refine take_on 1 (v := ?_) rfl rfl (by kernel_rfl) (by kernel_rfl) (by kernel_rfl) (fun _ _ _ h => h) (by rfl) (fun w => ?_) ?_
      rotate_left
      · (go_simp; try with_reducible rfl)
      simp only [List.setIfInBounds_toArray, List.set_cons_zero, List.set_cons_succ]
      refine take_on 2 (v := ?_) rfl rfl (by kernel_rfl) (by kernel_rfl) (by kernel_rfl) (fun _ _ _ h => h) (by rfl) (fun w => ?_) ?_
      rotate_left
      · (go_simp; try with_reducible rfl)
      simp only [List.setIfInBounds_toArray, List.set_cons_zero, List.set_cons_succ]
      refine take_on 3 (v := ?_) rfl rfl (by kernel_rfl) (by kernel_rfl) (by kernel_rfl) (fun _ _ _ h => h) (by rfl) (fun w => ?_) ?_
      rotate_left
      · (go_simp; try with_reducible rfl)
      simp only [List.setIfInBounds_toArray, List.set_cons_zero, List.set_cons_succ]
      refine take_on 7 (v := ?_) rfl rfl (by kernel_rfl) (by kernel_rfl) (by kernel_rfl) (fun _ _ _ h => h) (by rfl) (fun w => ?_) ?_
      rotate_left
      · (go_simp; try with_reducible rfl)
      simp only [List.setIfInBounds_toArray, List.set_cons_zero, List.set_cons_succ]
      refine take_on 8 (v := ?_) rfl rfl (by kernel_rfl) (by kernel_rfl) (by kernel_rfl) (fun _ _ _ h => h) (by rfl) (fun w => ?_) ?_
      rotate_left
      · (go_simp; try with_reducible rfl)
      simp only [List.setIfInBounds_toArray, List.set_cons_zero, List.set_cons_succ]
      refine take_on 9 (v := .int .i64 ((k : Int) + 1)) rfl rfl (by kernel_rfl) (by kernel_rfl) (by kernel_rfl) (fun _ _ _ h => h) (by rfl) (fun w => ?_) ?_
      · (go_simp; try (rw [hwr]))
      simp only [List.setIfInBounds_toArray, List.set_cons_zero, List.set_cons_succ]
      refine take_on 10 (v := .string (s.extract (k + 1) s.size)) rfl rfl (by kernel_rfl) (by kernel_rfl) (by kernel_rfl) (fun _ _ _ h => h) (by rfl) (fun w => ?_) ?_
      · (go_simp; (intro hh; have := hh (by omega); omega))
      simp only [List.setIfInBounds_toArray, List.set_cons_zero, List.set_cons_succ]
      refine wpAny_ready (rs := [4]) (by kernel_rfl) (by simp) (AllReady.cons rfl (fun K hK => ?_) AllReady.nil)
      go_simp
      refine hK _ _ ?_
      clear hK K
      refine wpAny_ready (rs := [5]) (by kernel_rfl) (by simp) (AllReady.cons rfl (fun K hK => ?_) AllReady.nil)
      go_simp
      go_wp2_with fail
      refine (of_any R _ 17 1 oa len cap (p + 2) _ ?_ (by omega) (by decide) (by decide) ?_ ?_ ?_).mono ?_
      · exact HD2.out.1.keep (((Below.refl _ _).alloc (Nat.le_refl _) _).drew)
      · simp
      · have := HD2.out.1.old; simp; omega
      · exact strs_new _ _ _ 1 _ 17 (by simp) (by rfl) (by kernel_rfl)
      rintro e w3 ⟨⟨a, rfl, ha⟩, hd⟩
      have HD3 : Hid (Drawn R oa len cap (p + 3) w w3) := ⟨hd.1, HD2.out.2.trans ((Keeps.of_below (((Below.refl _ _).alloc (Nat.le_refl _) _).drew) HD2.out.1.old).trans hd.2)⟩
      clear hd
      have hb1 := fun W => run_string_add_sum (P := Tryd.prog) (w := W) (s.extract 0 k) a (by rw [ByteArray.size_extract]; omega)
      refine hK _ _ ?_
      clear hK K
      refine take_on 6 (v := ?_) rfl rfl (by kernel_rfl) (by kernel_rfl) (by kernel_rfl) (fun _ _ _ h => h) (by rfl) (fun w => ?_) ?_
      rotate_left
      · (go_simp; try with_reducible rfl)
      simp only [List.setIfInBounds_toArray, List.set_cons_zero, List.set_cons_succ]
      have hb2 := fun W => run_string_add_sum (P := Tryd.prog) (w := W) (s.extract 0 k ++ a) (s.extract (k + 1) s.size) (by rw [ByteArray.size_append, ByteArray.size_extract, ByteArray.size_extract]; omega)
      refine take_on 11 (v := ?_) rfl rfl (by kernel_rfl) (by kernel_rfl) (by kernel_rfl) (fun _ _ _ h => h) (by rfl) (fun w => ?_) ?_
      rotate_left
      · (go_simp; try with_reducible rfl)
      simp only [List.setIfInBounds_toArray, List.set_cons_zero, List.set_cons_succ]
      refine take_on 12 (v := ?_) rfl rfl (by kernel_rfl) (by kernel_rfl) (by kernel_rfl) (fun _ _ _ h => h) (by rfl) (fun w => ?_) ?_
      rotate_left
      · (go_simp; try with_reducible rfl)
      simp only [List.setIfInBounds_toArray, List.set_cons_zero, List.set_cons_succ]
      refine wpAny_done (by kernel_rfl) ?_ _
      go_wp2
      go_ret
      refine ⟨⟨_, rfl, ?_⟩, p + 3, HD3.out⟩
      rw [ByteArray.size_append, ByteArray.size_append, ByteArray.size_extract, ByteArray.size_extract]; omega
    · go_wp2
      go_ret
      exact ⟨⟨s, rfl, by omega⟩, p + 2, HD2.out⟩
  · have hb0 : (y == 0) = false := by rw [beq_eq_false_iff_ne]; exact h0
    clear h0
    by_cases h1 : y = 1
    · subst h1
      go_wp2
      go_ret
      refine ⟨⟨_, rfl, ?_⟩, p + 2, HD2.out⟩
      rw [ByteArray.size_extract]; omega
    · have hb1 : (y == 1) = false := by rw [beq_eq_false_iff_ne]; exact h1
      clear h1
      by_cases h2 : y = 2
      · subst h2
        go_wp2_with fail
        refine (of_any R _ 7 1 oa len cap (p + 2) _ ?_ (by omega) (by decide) (by decide) ?_ ?_ ?_).mono ?_
        · exact HD2.out.1.keep ((Below.refl _ _).alloc (Nat.le_refl _) _)
        · simp
        · have := HD2.out.1.old; omega
        · exact strs_new _ _ _ 1 _ 7 (by simp) (by rfl) (by kernel_rfl)
        rintro e w3 ⟨⟨a, rfl, ha⟩, hd⟩
        have HD3 : Hid (Drawn R oa len cap (p + 3) w w3) := ⟨hd.1, HD2.out.2.trans ((Keeps.of_below ((Below.refl _ _).alloc (Nat.le_refl _) _) HD2.out.1.old).trans hd.2)⟩
        clear hd
        have hadd := fun W => run_string_add_sum (P := Tryd.prog) (w := W) s a (by omega)
        go_wp2
        go_ret
        refine ⟨⟨_, rfl, ?_⟩, p + 3, HD3.out⟩
        rw [ByteArray.size_append]; omega
      · have hb2 : (y == 2) = false := by rw [beq_eq_false_iff_ne]; exact h2
        clear h2
        by_cases h3 : y = 3
        · subst h3
          go_wp2_with fail
          refine wp_region_any (by kernel_rfl) ?_
          change wpAny _ _ _ _ _ _ _ (World.drew _)
          refine take_on 0 (v := ?_) rfl rfl (by kernel_rfl) (by kernel_rfl) (by kernel_rfl) (fun _ _ _ h => h) (by rfl) (fun w => ?_) ?_
          rotate_left
          · (go_simp; try with_reducible rfl)
          simp only [List.setIfInBounds_toArray, List.set_cons_zero, List.set_cons_succ]
          refine take_on 1 (v := ?_) rfl rfl (by kernel_rfl) (by kernel_rfl) (by kernel_rfl) (fun _ _ _ h => h) (by rfl) (fun w => ?_) ?_
          rotate_left
          · (go_simp; try with_reducible rfl)
          simp only [List.setIfInBounds_toArray, List.set_cons_zero, List.set_cons_succ]
          refine take_on 2 (v := ?_) rfl rfl (by kernel_rfl) (by kernel_rfl) (by kernel_rfl) (fun _ _ _ h => h) (by rfl) (fun w => ?_) ?_
          rotate_left
          · (go_simp; try with_reducible rfl)
          simp only [List.setIfInBounds_toArray, List.set_cons_zero, List.set_cons_succ]
          refine take_on 3 (v := ?_) rfl rfl (by kernel_rfl) (by kernel_rfl) (by kernel_rfl) (fun _ _ _ h => h) (by rfl) (fun w => ?_) ?_
          rotate_left
          · (go_simp; try with_reducible rfl)
          simp only [List.setIfInBounds_toArray, List.set_cons_zero, List.set_cons_succ]
          refine take_on 7 (v := ?_) rfl rfl (by kernel_rfl) (by kernel_rfl) (by kernel_rfl) (fun _ _ _ h => h) (by rfl) (fun w => ?_) ?_
          rotate_left
          · (go_simp; try with_reducible rfl)
          simp only [List.setIfInBounds_toArray, List.set_cons_zero, List.set_cons_succ]
          refine take_on 8 (v := ?_) rfl rfl (by kernel_rfl) (by kernel_rfl) (by kernel_rfl) (fun _ _ _ h => h) (by rfl) (fun w => ?_) ?_
          rotate_left
          · (go_simp; try with_reducible rfl)
          simp only [List.setIfInBounds_toArray, List.set_cons_zero, List.set_cons_succ]
          refine take_on 9 (v := ?_) rfl rfl (by kernel_rfl) (by kernel_rfl) (by kernel_rfl) (fun _ _ _ h => h) (by rfl) (fun w => ?_) ?_
          rotate_left
          · (go_simp; try with_reducible rfl)
          simp only [List.setIfInBounds_toArray, List.set_cons_zero, List.set_cons_succ]
          refine wpAny_ready (rs := [4]) (by kernel_rfl) (by simp) (AllReady.cons rfl (fun K hK => ?_) AllReady.nil)
          go_simp
          refine hK _ _ ?_
          clear hK K
          refine wpAny_ready (rs := [5]) (by kernel_rfl) (by simp) (AllReady.cons rfl (fun K hK => ?_) AllReady.nil)
          go_simp
          go_wp2_with fail
          refine (of_any R _ 9 1 oa len cap (p + 2) _ ?_ (by omega) (by decide) (by decide) ?_ ?_ ?_).mono ?_
          · exact HD2.out.1.keep (((Below.refl _ _).alloc (Nat.le_refl _) _).drew)
          · simp
          · have := HD2.out.1.old; simp; omega
          · exact strs_new _ _ _ 1 _ 9 (by simp) (by rfl) (by kernel_rfl)
          rintro e w3 ⟨⟨a, rfl, ha⟩, hd⟩
          have HD3 : Hid (Drawn R oa len cap (p + 3) w w3) := ⟨hd.1, HD2.out.2.trans ((Keeps.of_below (((Below.refl _ _).alloc (Nat.le_refl _) _).drew) HD2.out.1.old).trans hd.2)⟩
          clear hd
          have hb1 := fun W => run_string_add_sum (P := Tryd.prog) (w := W) (s.extract 0 k) a (by rw [ByteArray.size_extract]; omega)
          refine hK _ _ ?_
          clear hK K
          refine take_on 6 (v := ?_) rfl rfl (by kernel_rfl) (by kernel_rfl) (by kernel_rfl) (fun _ _ _ h => h) (by rfl) (fun w => ?_) ?_
          rotate_left
          · (go_simp; try with_reducible rfl)
          simp only [List.setIfInBounds_toArray, List.set_cons_zero, List.set_cons_succ]
          have hb2 := fun W => run_string_add_sum (P := Tryd.prog) (w := W) (s.extract 0 k ++ a) (s.extract k s.size) (by rw [ByteArray.size_append, ByteArray.size_extract, ByteArray.size_extract]; omega)
          refine take_on 10 (v := ?_) rfl rfl (by kernel_rfl) (by kernel_rfl) (by kernel_rfl) (fun _ _ _ h => h) (by rfl) (fun w => ?_) ?_
          rotate_left
          · (go_simp; try with_reducible rfl)
          simp only [List.setIfInBounds_toArray, List.set_cons_zero, List.set_cons_succ]
          refine take_on 11 (v := ?_) rfl rfl (by kernel_rfl) (by kernel_rfl) (by kernel_rfl) (fun _ _ _ h => h) (by rfl) (fun w => ?_) ?_
          rotate_left
          · (go_simp; try with_reducible rfl)
          simp only [List.setIfInBounds_toArray, List.set_cons_zero, List.set_cons_succ]
          refine wpAny_done (by kernel_rfl) ?_ _
          go_wp2
          go_ret
          refine ⟨⟨_, rfl, ?_⟩, p + 3, HD3.out⟩
          rw [ByteArray.size_append, ByteArray.size_append, ByteArray.size_extract, ByteArray.size_extract]; omega
        · have hb3 : (y == 3) = false := by rw [beq_eq_false_iff_ne]; exact h3
          clear h3
          go_wp2
          go_ret
          exact ⟨⟨s, rfl, by omega⟩, p + 2, HD2.out⟩

end Go.Proofs.YtmafkelegjjnfafDoor
