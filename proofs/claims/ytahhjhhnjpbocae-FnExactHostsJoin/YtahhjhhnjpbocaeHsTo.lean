/- DERIVED. The walks of toHostS and eqHostS. -/
import Derived.Test.YtahhjhhnjpbocaeHsSz
namespace Go.Proofs.Ytahhjhhnjpbocae
open Go.RowKit

set_option maxHeartbeats 400000 in
theorem toS_none (oa : Option Addr) (cap : Nat) (S : Nat → ByteArray) (M : Nat → Int) (w : World) :
    Calls Try.prog 6 #[.slice oa 0 cap] w fun e w' => (∃ B, e = .returned (.slice (some ⟨B, 0, none⟩) 0 0) ∧ w.heap.size ≤ B ∧ RowAt w' B 0 0 S M) ∧ Below w.heap.size w w' := by
  obtain ⟨A, hA, hmk⟩ := make_hosts 0 (by decide) w
  simp only [Int.natCast_zero] at hmk
  go_enter Try.func6, Try.ntmps6
  go_wp2
  go_loop [4] (fun i => i = .int .i64 0) (fun _ => 0)
  case atStart => rfl
  case round =>
    subst hrel
    go_wp2
    go_ret
    exact ⟨⟨_, rfl, Nat.le_refl _, (OwnAt.new w A _ 0 S M hA).row (fun i hi => absurd hi (Nat.not_lt_zero _))⟩, (Below.refl _ _).alloc (Nat.le_refl _) _⟩

set_option maxHeartbeats 400000 in
theorem toS_any (b off len cap : Nat) (S : Nat → ByteArray) (M : Nat → Int) (w : World) (hn : len ≤ 1048576) (R : RowAt w b off len S M) :
    Calls Try.prog 6 #[.slice (some ⟨b, off, none⟩) len cap] w fun e w' => (∃ B, e = .returned (.slice (some ⟨B, 0, none⟩) len len) ∧ w.heap.size ≤ B ∧ RowAt w' B 0 len S M) ∧ Below w.heap.size w w' := by
  obtain ⟨A, hA, hmk⟩ := make_hosts len hn w
  have HA := hid hA
  clear hA
  go_enter Try.func6, Try.ntmps6
  go_wp2
  clear hmk
  go_loopw [4] (fun i w' => Below w.heap.size w w' ∧ ∃ k : Nat, k ≤ len ∧ i = .int .i64 k ∧ OwnAt w' w.heap.size len k S M) (fun i _ => len - (intOf i).toNat)
  case atStart => exact ⟨(Below.refl _ _).alloc (Nat.le_refl _) _, 0, Nat.zero_le _, rfl, OwnAt.new w A _ len S M HA.out⟩
  case round =>
    obtain ⟨hB, k, hk, rfl, hO⟩ := hrel
    have HB := hid hB
    have HO := hid hO
    clear hB hO
    have HR : Hid (RowAt wr b off len S M) := R.below HB.out
    by_cases hlt : k < len
    · have c0 := HR.out.name k hlt
      have c1 := HR.out.num k hlt
      go_wp2_with fail
      refine (to_any _ _ _).mono ?_
      rintro e w1 ⟨rfl, hb1⟩
      have HB1 : Hid (Below w.heap.size w w1) := HB.out.trans (hb1.mono HB.out.size)
      have HO1 : Hid (OwnAt w1 w.heap.size len k S M) := HO.out.below hb1
      clear hb1 c0 c1
      obtain ⟨u0, hu0⟩ := Option.isSome_iff_exists.mp (HO1.out.there (k * 2) (by omega))
      obtain ⟨u1, hu1⟩ := Option.isSome_iff_exists.mp (HO1.out.there (k * 2 + 1) (by omega))
      have f0 := HO1.out.free (k * 2) (by omega)
      have f1 := HO1.out.free (k * 2 + 1) (by omega)
      go_wp2
      go_roundw
      case rel => exact ⟨(HB1.out.setCell (Nat.le_refl _) _).setCell (Nat.le_refl _) _, k + 1, by omega, by go_num, HO1.out.put hlt⟩
      case measure => simp [intOf]; omega
    · have HE : Hid (k = len) := by show k = len; omega
      go_wp2
      go_ret
      exact ⟨⟨_, rfl, Nat.le_refl _, OwnAt.row (by have := HO.out; rw [HE.out] at this; exact this) R.small⟩, HB.out⟩

set_option maxHeartbeats 600000 in
theorem eqS_same (B1 B2 len : Nat) (S : Nat → ByteArray) (M : Nat → Int) (w : World) (hn : len ≤ 1048576) (R1 : RowAt w B1 0 len S M) (R2 : RowAt w B2 0 len S M) :
    Calls Try.prog 8 #[.slice (some ⟨B1, 0, none⟩) len len, .slice (some ⟨B2, 0, none⟩) len len] w fun e w' => e = .returned (.bool true) ∧ Below w.heap.size w w' := by
  go_enter Try.func8, Try.ntmps8
  go_wp2
  go_loopw [5] (fun i w' => Below w.heap.size w w' ∧ ∃ k : Nat, k ≤ len ∧ i = .int .i64 k) (fun i _ => len - (intOf i).toNat)
  case atStart => exact ⟨Below.refl _ _, 0, Nat.zero_le _, rfl⟩
  case round =>
    obtain ⟨hB, k, hk, rfl⟩ := hrel
    have HB := hid hB
    clear hB
    by_cases hlt : k < len
    · have c0 := (R1.below HB.out).name k hlt
      have c1 := (R1.below HB.out).num k hlt
      have d0 := (R2.below HB.out).name k hlt
      have d1 := (R2.below HB.out).num k hlt
      rw [Nat.zero_add] at c0 c1 d0 d1
      go_wp2_with fail
      refine wp_region_any (by kernel_rfl) ?_
      change wpAny _ _ _ _ _ _ _ (World.drew _)
      refine take_on 0 (v := ?_) rfl rfl (by kernel_rfl) (by kernel_rfl) (by kernel_rfl) (fun _ _ _ h => h) (by rfl) (fun w => ?_) ?_
      rotate_left
      · (go_simp; try with_reducible rfl)
      simp only [List.setIfInBounds_toArray, List.set_cons_zero, List.set_cons_succ]
      refine take_on 1 (v := ?_) rfl rfl (by kernel_rfl) (by kernel_rfl) (by kernel_rfl) (fun _ _ _ h => h) (by rfl) (fun w => ?_) ?_
      rotate_left
      · (go_simp; try with_reducible rfl)
      simp only [List.setIfInBounds_toArray, List.set_cons_zero, List.set_cons_succ]
      refine take_on 2 (v := ?_) rfl rfl (by kernel_rfl) (by kernel_rfl) (by kernel_rfl) (fun _ _ _ h => h) (by rfl) (fun w => ?_) ?_
      rotate_left
      · (go_simp; try with_reducible rfl)
      simp only [List.setIfInBounds_toArray, List.set_cons_zero, List.set_cons_succ]
      refine take_on 4 (v := ?_) rfl rfl (by kernel_rfl) (by kernel_rfl) (by kernel_rfl) (fun _ _ _ h => h) (by rfl) (fun w => ?_) ?_
      rotate_left
      · (go_simp; try with_reducible rfl)
      simp only [List.setIfInBounds_toArray, List.set_cons_zero, List.set_cons_succ]
      refine take_on 5 (v := ?_) rfl rfl (by kernel_rfl) (by kernel_rfl) (by kernel_rfl) (fun _ _ _ h => h) (by rfl) (fun w => ?_) ?_
      rotate_left
      · (go_simp; try with_reducible rfl)
      simp only [List.setIfInBounds_toArray, List.set_cons_zero, List.set_cons_succ]
      refine take_on 6 (v := ?_) rfl rfl (by kernel_rfl) (by kernel_rfl) (by kernel_rfl) (fun _ _ _ h => h) (by rfl) (fun w => ?_) ?_
      rotate_left
      · (go_simp; try with_reducible rfl)
      simp only [List.setIfInBounds_toArray, List.set_cons_zero, List.set_cons_succ]
      refine wpAny_ready (rs := [3, 7]) (by kernel_rfl) (by simp) (AllReady.cons rfl (fun K hK => ?_) (AllReady.cons rfl (fun K hK => ?_) AllReady.nil))
      · go_simp
        refine hK _ _ ?_
        clear hK K
        refine wpAny_ready (rs := [7]) (by kernel_rfl) (by simp) (AllReady.cons rfl (fun K hK => ?_) AllReady.nil)
        go_simp
        refine hK _ _ ?_
        clear hK K
        refine wpAny_ready (rs := [8]) (by kernel_rfl) (by simp) (AllReady.cons rfl (fun K hK => ?_) AllReady.nil)
        go_simp
        go_wp2_with fail
        refine (eqHost_same _ _ _).mono ?_
        rintro e w1 ⟨rfl, hb1⟩
        have HB1 := hid hb1
        clear hb1
        refine hK _ _ ?_
        clear hK K
        refine take_on 9 (v := ?_) rfl rfl (by kernel_rfl) (by kernel_rfl) (by kernel_rfl) (fun _ _ _ h => h) (by rfl) (fun w => ?_) ?_
        rotate_left
        · (go_simp; try with_reducible rfl)
        simp only [List.setIfInBounds_toArray, List.set_cons_zero, List.set_cons_succ]
        refine wpAny_done (by kernel_rfl) ?_ _
        go_wp2
        go_roundw
        case rel => exact ⟨HB.out.drew.trans (HB1.out.mono HB.out.size), k + 1, by omega, by go_num⟩
        case measure => simp [intOf]; omega
      · go_simp
        refine hK _ _ ?_
        clear hK K
        refine wpAny_ready (rs := [3]) (by kernel_rfl) (by simp) (AllReady.cons rfl (fun K hK => ?_) AllReady.nil)
        go_simp
        refine hK _ _ ?_
        clear hK K
        refine wpAny_ready (rs := [8]) (by kernel_rfl) (by simp) (AllReady.cons rfl (fun K hK => ?_) AllReady.nil)
        go_simp
        go_wp2_with fail
        refine (eqHost_same _ _ _).mono ?_
        rintro e w1 ⟨rfl, hb1⟩
        have HB1 := hid hb1
        clear hb1
        refine hK _ _ ?_
        clear hK K
        refine take_on 9 (v := ?_) rfl rfl (by kernel_rfl) (by kernel_rfl) (by kernel_rfl) (fun _ _ _ h => h) (by rfl) (fun w => ?_) ?_
        rotate_left
        · (go_simp; try with_reducible rfl)
        simp only [List.setIfInBounds_toArray, List.set_cons_zero, List.set_cons_succ]
        refine wpAny_done (by kernel_rfl) ?_ _
        go_wp2
        go_roundw
        case rel => exact ⟨HB.out.drew.trans (HB1.out.mono HB.out.size), k + 1, by omega, by go_num⟩
        case measure => simp [intOf]; omega
    · go_wp2
      go_ret
      exact ⟨rfl, HB.out⟩

end Go.Proofs.Ytahhjhhnjpbocae
