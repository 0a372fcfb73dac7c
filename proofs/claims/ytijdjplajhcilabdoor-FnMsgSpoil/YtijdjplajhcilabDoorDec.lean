/- DERIVED. The walk of the model's decimals. -/
import Derived.Test.YtijdjplajhcilabDoorOk
import Derived.Test.YtijdjplajhcilabDoorReg
import Derived.Lib.ItoaNum
import Derived.Laws.IdiomStrings
import Derived.WideShapes
namespace Go.Proofs.YtijdjplajhcilabDoor
open Go.RowKit

def decS (u : Nat) : ByteArray := ⟨(Lib.decDigits u).toArray⟩

theorem dec_len (u : Nat) : (Lib.decDigits u).length ≤ u + 1 := by
  induction u using Nat.strongRecOn with
  | _ u ih =>
    rw [Lib.decDigits]
    by_cases h : u < 10
    · rw [dif_pos h]; simp
    · rw [dif_neg h]
      have := ih (u / 10) (by omega)
      simp only [List.length_append, List.length_singleton]
      omega

theorem decS_size (u : Nat) : (decS u).size ≤ u + 1 := by
  have := dec_len u
  simpa [decS, ByteArray.size] using this

theorem decS_small (u : Nat) (h : u < 10) : decS u = ⟨#[UInt8.ofNat (48 + u)]⟩ := by
  unfold decS; rw [Lib.decDigits, dif_pos h]

theorem decS_more (u : Nat) (h : ¬ u < 10) : decS u = decS (u / 10) ++ ⟨#[UInt8.ofNat (48 + u % 10)]⟩ := by
  have e : Lib.decDigits u = Lib.decDigits (u / 10) ++ [UInt8.ofNat (48 + u % 10)] := by rw [Lib.decDigits, dif_neg h]
  unfold decS; rw [e]
  apply Go.WideShapes.bytes_inj
  simp

theorem conv_one (W : World) (B : Nat) (c : Int) (h0 : 0 ≤ c) (hc : c ≤ 255) (h : W.cell? ⟨B, 0, none⟩ = some (.int .u8 c)) :
    (convert 22 9 (.slice (some ⟨B, 0, none⟩) 1 1)).run Tryd.prog W = .ok (.string ⟨#[UInt8.ofNat c.toNat]⟩) W := by
  refine run_convert_bytes_back (P := Tryd.prog) W 22 9 5 ⟨B, 0, none⟩ 1 [UInt8.ofNat c.toNat] Tryd.underlying22 Tryd.underlying5 Tryd.underlying9 ?_
  intro j hj
  have e : j = 0 := by simpa using hj
  subst e
  have e2 : ((UInt8.ofNat c.toNat).toNat : Int) = c := by
    rw [UInt8.toNat_ofNat']; omega
  simp only [List.getElem_cons_zero, e2]
  simpa [Addr.add] using h

set_option maxRecDepth 100000 in
set_option maxHeartbeats 400000 in
theorem dec_small (u : Nat) (w : World) (h : u < 10) :
    Calls Tryd.prog 37 #[.int .i64 (u : Int)] w fun e w' => e = .returned (.string (decS u)) ∧ Below w.heap.size w w' := by
  have hcv := conv_one (w.alloc (.cells #[.int .u8 (48 + (u : Int))] 5)) w.heap.size (48 + u) (by omega) (by omega) (by simp)
  have he : (48 + (u : Int)).toNat = 48 + u := by omega
  rw [he] at hcv
  clear he
  rw [decS_small u h]
  obtain ⟨z, hz⟩ : ∃ z : ByteArray, z = ⟨#[UInt8.ofNat (48 + u)]⟩ := ⟨_, rfl⟩
  rw [← hz] at hcv ⊢
  clear hz
  go_enter Tryd.func37, Tryd.ntmps37
  go_wp2
  go_ret
  exact ⟨rfl, (Below.refl _ _).alloc (Nat.le_refl _) _⟩

set_option maxRecDepth 100000 in
set_option maxHeartbeats 800000 in
theorem dec_more (u : Nat) (w : World) (h : ¬ u < 10) (hb : u ≤ 9999999999)
    (ih : ∀ w, Calls Tryd.prog 37 #[.int .i64 ((u : Int) / 10)] w fun e w' => e = .returned (.string (decS (u / 10))) ∧ Below w.heap.size w w') :
    Calls Tryd.prog 37 #[.int .i64 (u : Int)] w fun e w' => e = .returned (.string (decS u)) ∧ Below w.heap.size w w' := by
  have IH := hid ih
  clear ih
  have h' : ¬ (u : Int) < 10 := by omega
  have hsz := decS_size (u / 10)
  rw [decS_more u h]
  obtain ⟨r, hr⟩ : ∃ r, r = decS (u / 10) := ⟨_, rfl⟩
  obtain ⟨z, hz⟩ : ∃ z : ByteArray, z = ⟨#[UInt8.ofNat (48 + u % 10)]⟩ := ⟨_, rfl⟩
  have hzs : z.size = 1 := by rw [hz]; rfl
  rw [← hr] at hsz IH ⊢
  rw [← hz]
  have HCV : Hid (∀ W B, W.cell? ⟨B, 0, none⟩ = some (.int .u8 (48 + (u : Int) % 10)) → (convert 22 9 (.slice (some ⟨B, 0, none⟩) 1 1)).run Tryd.prog W = .ok (.string z) W) := by
    intro W B hW
    have := conv_one W B (48 + (u : Int) % 10) (by omega) (by omega) hW
    rw [this, hz, show (48 + (u : Int) % 10).toNat = 48 + u % 10 by omega]
  have hsum : r.size + z.size ≤ 9223372036854775807 := by omega
  have hadd := fun W => run_string_add_sum (P := Tryd.prog) (w := W) r z hsum
  clear hr hz hzs hsum hsz
  have hw1 : IntKind.i64.wrap ((u : Int) / 10) = (u : Int) / 10 := by rw [IntKind.wrap_i64]; omega
  have hm : (u : Int).tmod 10 = (u : Int) % 10 := Int.tmod_eq_emod_of_nonneg (by omega)
  have hw2 : IntKind.i64.wrap (48 + (u : Int) % 10) = 48 + (u : Int) % 10 := by rw [IntKind.wrap_i64]; omega
  have hw3 : IntKind.u8.wrap (48 + (u : Int) % 10) = 48 + (u : Int) % 10 := by rw [IntKind.wrap_u8]; omega
  go_enter Tryd.func37, Tryd.ntmps37
  go_wp2_with fail
  refine wp_region_any (by kernel_rfl) ?_
  change wpAny _ _ _ _ _ _ _ (World.drew _)
  refine take_on 0 (v := ?_) rfl rfl (by kernel_rfl) (by kernel_rfl) (by kernel_rfl) (fun _ _ _ h => h) (by rfl) (fun w => ?_) ?_
  rotate_left
  · (go_simp; try with_reducible rfl)
  simp only [List.setIfInBounds_toArray, List.set_cons_zero, List.set_cons_succ]
  refine take_on 1 (v := .int .i64 ((u : Int) / 10)) rfl rfl (by kernel_rfl) (by kernel_rfl) (by kernel_rfl) (fun _ _ _ h => h) (by rfl) (fun w => ?_) ?_
  · (go_simp; try (rw [hw1]))
  simp only [List.setIfInBounds_toArray, List.set_cons_zero, List.set_cons_succ]
  refine take_on 3 (v := ?_) rfl rfl (by kernel_rfl) (by kernel_rfl) (by kernel_rfl) (fun _ _ _ h => h) (by rfl) (fun w => ?_) ?_
  rotate_left
  · (go_simp; try with_reducible rfl)
  simp only [List.setIfInBounds_toArray, List.set_cons_zero, List.set_cons_succ]
  refine take_on 4 (v := .int .i64 ((u : Int) % 10)) rfl rfl (by kernel_rfl) (by kernel_rfl) (by kernel_rfl) (fun _ _ _ h => h) (by rfl) (fun w => ?_) ?_
  · (go_simp; try (rw [hm]))
  simp only [List.setIfInBounds_toArray, List.set_cons_zero, List.set_cons_succ]
  refine take_on 5 (v := .int .i64 (48 + (u : Int) % 10)) rfl rfl (by kernel_rfl) (by kernel_rfl) (by kernel_rfl) (fun _ _ _ h => h) (by rfl) (fun w => ?_) ?_
  · (go_simp; try (rw [hw2]))
  simp only [List.setIfInBounds_toArray, List.set_cons_zero, List.set_cons_succ]
  refine take_on 6 (v := .int .u8 (48 + (u : Int) % 10)) rfl rfl (by kernel_rfl) (by kernel_rfl) (by kernel_rfl) (fun _ _ _ h => h) (by rfl) (fun w => ?_) ?_
  · (go_simp; try (rw [hw3]))
  simp only [List.setIfInBounds_toArray, List.set_cons_zero, List.set_cons_succ]
  refine wpAny_ready (rs := [2, 7]) (by kernel_rfl) (by simp) (AllReady.cons rfl (fun K hK => ?_) (AllReady.cons rfl (fun K hK => ?_) AllReady.nil))
  · go_simp
    go_wp2_with fail
    refine (IH.out _).mono ?_
    rintro e w1 ⟨rfl, hb1⟩
    have HB1 := hid hb1
    clear hb1
    refine hK _ _ ?_
    clear hK K
    refine wpAny_ready (rs := [7]) (by kernel_rfl) (by simp) (AllReady.cons rfl (fun K hK => ?_) AllReady.nil)
    go_simp
    refine hK _ _ ?_
    clear hK K
    have g0 : (w1.alloc (.cells #[.int .u8 (48 + (u : Int) % 10)] 5)).cell? ⟨w1.heap.size, 0, none⟩ = some (.int .u8 (48 + (u : Int) % 10)) := by simp
    have hcv1 := HCV.out _ _ g0
    refine wpAny_ready (rs := [8]) (by kernel_rfl) (by simp) (AllReady.cons rfl (fun K hK => ?_) AllReady.nil)
    go_simp
    refine hK _ _ ?_
    clear hK K
    refine take_on 9 (v := ?_) rfl rfl (by kernel_rfl) (by kernel_rfl) (by kernel_rfl) (fun _ _ _ h => h) (by rfl) (fun w => ?_) ?_
    rotate_left
    · (go_simp; try with_reducible rfl)
    simp only [List.setIfInBounds_toArray, List.set_cons_zero, List.set_cons_succ]
    refine take_on 10 (v := ?_) rfl rfl (by kernel_rfl) (by kernel_rfl) (by kernel_rfl) (fun _ _ _ h => h) (by rfl) (fun w => ?_) ?_
    rotate_left
    · (go_simp; try with_reducible rfl)
    simp only [List.setIfInBounds_toArray, List.set_cons_zero, List.set_cons_succ]
    refine wpAny_done (by kernel_rfl) ?_ _
    go_wp2
    go_ret
    exact ⟨rfl, ((Below.refl _ _).drew.trans HB1.out).alloc HB1.out.size _⟩
  · go_simp
    refine hK _ _ ?_
    clear hK K
    have g0 : (w.alloc (.cells #[.int .u8 (48 + (u : Int) % 10)] 5)).drew.cell? ⟨w.heap.size, 0, none⟩ = some (.int .u8 (48 + (u : Int) % 10)) := by simp
    have hcv1 := HCV.out _ _ g0
    refine wpAny_ready (rs := [2, 8]) (by kernel_rfl) (by simp) (AllReady.cons rfl (fun K hK => ?_) (AllReady.cons rfl (fun K hK => ?_) AllReady.nil))
    · go_simp
      go_wp2_with fail
      refine (IH.out _).mono ?_
      rintro e w1 ⟨rfl, hb1⟩
      have g1 : w1.cell? ⟨w.heap.size, 0, none⟩ = some (.int .u8 (48 + (u : Int) % 10)) := by rw [hb1.cell (by simp)]; simp
      have hcv2 := HCV.out w1 _ g1
      have HB1 := hid hb1
      clear hb1
      refine hK _ _ ?_
      clear hK K
      refine wpAny_ready (rs := [8]) (by kernel_rfl) (by simp) (AllReady.cons rfl (fun K hK => ?_) AllReady.nil)
      go_simp
      refine hK _ _ ?_
      clear hK K
      refine take_on 9 (v := ?_) rfl rfl (by kernel_rfl) (by kernel_rfl) (by kernel_rfl) (fun _ _ _ h => h) (by rfl) (fun w => ?_) ?_
      rotate_left
      · (go_simp; try with_reducible rfl)
      simp only [List.setIfInBounds_toArray, List.set_cons_zero, List.set_cons_succ]
      refine take_on 10 (v := ?_) rfl rfl (by kernel_rfl) (by kernel_rfl) (by kernel_rfl) (fun _ _ _ h => h) (by rfl) (fun w => ?_) ?_
      rotate_left
      · (go_simp; try with_reducible rfl)
      simp only [List.setIfInBounds_toArray, List.set_cons_zero, List.set_cons_succ]
      refine wpAny_done (by kernel_rfl) ?_ _
      go_wp2
      go_ret
      exact ⟨rfl, (((Below.refl _ _).alloc (Nat.le_refl _) _).drew).trans (HB1.out.mono (by simp))⟩
    · go_simp
      refine hK _ _ ?_
      clear hK K
      refine wpAny_ready (rs := [2]) (by kernel_rfl) (by simp) (AllReady.cons rfl (fun K hK => ?_) AllReady.nil)
      go_simp
      go_wp2_with fail
      refine (IH.out _).mono ?_
      rintro e w1 ⟨rfl, hb1⟩
      have HB1 := hid hb1
      clear hb1
      refine hK _ _ ?_
      clear hK K
      refine take_on 9 (v := ?_) rfl rfl (by kernel_rfl) (by kernel_rfl) (by kernel_rfl) (fun _ _ _ h => h) (by rfl) (fun w => ?_) ?_
      rotate_left
      · (go_simp; try with_reducible rfl)
      simp only [List.setIfInBounds_toArray, List.set_cons_zero, List.set_cons_succ]
      refine take_on 10 (v := ?_) rfl rfl (by kernel_rfl) (by kernel_rfl) (by kernel_rfl) (fun _ _ _ h => h) (by rfl) (fun w => ?_) ?_
      rotate_left
      · (go_simp; try with_reducible rfl)
      simp only [List.setIfInBounds_toArray, List.set_cons_zero, List.set_cons_succ]
      refine wpAny_done (by kernel_rfl) ?_ _
      go_wp2
      go_ret
      exact ⟨rfl, (((Below.refl _ _).alloc (Nat.le_refl _) _).drew).trans (HB1.out.mono (by simp))⟩

theorem dec_any (u : Nat) (w : World) (hb : u ≤ 9999999999) :
    Calls Tryd.prog 37 #[.int .i64 (u : Int)] w fun e w' => e = .returned (.string (decS u)) ∧ Below w.heap.size w w' := by
  induction u using Nat.strongRecOn generalizing w with
  | _ u ih =>
    by_cases h : u < 10
    · exact dec_small u w h
    · refine dec_more u w h hb (fun w => ?_)
      have := ih (u / 10) (by omega) w (by omega)
      rw [show ((u : Int) / 10) = ((u / 10 : Nat) : Int) by omega]
      exact this

end Go.Proofs.YtijdjplajhcilabDoor
