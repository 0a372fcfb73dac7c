/- DERIVED. The walks of the law's own marks: markText, markHostS, heldHostS, and of eqHostS. -/
import Derived.Test.YtahhjhhnjpbocaeRowCore
import Derived.Deep.RegionHeld3
import Derived.Test.YtahhjhhnjpbocaeDec
import Derived.Test.YtahhjhhnjpbocaeHsTo
namespace Go.Proofs.Ytahhjhhnjpbocae
open Go.RowKit

/-- The figures of a mark, ahead of others. -/
def markL : Nat → Nat → ByteArray → ByteArray
  | 0, _, s => s
  | f + 1, k, s => if k = 0 then s else markL f (k / 10) (⟨#[UInt8.ofNat (48 + k % 10)]⟩ ++ s)

theorem markL_zero (f : Nat) (s : ByteArray) : markL f 0 s = s := by
  cases f with
  | zero => rfl
  | succ f => rw [markL, if_pos rfl]

theorem markL_step (f k : Nat) (s : ByteArray) (hf : k ≤ f) (hk : k ≠ 0) : ∃ g, k / 10 ≤ g ∧ markL f k s = markL g (k / 10) (⟨#[UInt8.ofNat (48 + k % 10)]⟩ ++ s) := by
  obtain ⟨g, rfl⟩ : ∃ g, f = g + 1 := ⟨f - 1, by omega⟩
  exact ⟨g, by omega, by rw [markL, if_neg hk]⟩

def markS (k : Nat) : ByteArray := ⟨#[109]⟩ ++ markL k k ⟨#[]⟩

set_option maxRecDepth 100000 in
set_option maxHeartbeats 800000 in
theorem markText_any (k : Nat) (w : World) (h1 : 1 ≤ k) (h6 : k ≤ 9999999) :
    Calls Try.prog 21 #[.int .i64 (k : Int)] w fun e w' => e = .returned (.string (markS k)) ∧ Below w.heap.size w w' := by
  obtain ⟨T, hT⟩ : ∃ T, T = markL k k ⟨#[]⟩ := ⟨_, rfl⟩
  unfold markS
  rw [← hT]
  have HT := hid hT
  clear hT
  have hneg : ¬ (k : Int) ≤ 0 := by omega
  go_enter Try.func21, Try.ntmps21
  go_wp2
  go_loopw [0, 3] (fun n s wr => Below w.heap.size w wr ∧ ∃ (j f d : Nat) (t : ByteArray), n = .int .i64 (j : Int) ∧ s = .string t ∧ j ≤ f ∧ j ≤ 9999999 ∧ j < 10 ^ d ∧ t.size + d ≤ 7 ∧ T = markL f j t) (fun n _ _ => (intOf n).toNat)
  case atStart => exact ⟨Below.refl _ _, k, k, 7, ⟨#[]⟩, rfl, rfl, Nat.le_refl _, h6, by omega, by decide, HT.out⟩
  case round =>
    obtain ⟨hB, j, f, d, t, rfl, rfl, hjf, hj6, hjd, htd, hr⟩ := hrel
    have HB := hid hB
    have HR := hid hr
    clear hB hr
    by_cases hz : j = 0
    · subst hz
      have HE : Hid (T = t) := by show T = t; rw [HR.out, markL_zero]
      have e109 : (⟨#[109]⟩ : ByteArray).size = 1 := rfl
      have hsum : (⟨#[109]⟩ : ByteArray).size + t.size ≤ 9223372036854775807 := by omega
      have hadd := fun W => run_string_add_sum (P := Try.prog) (w := W) ⟨#[109]⟩ t hsum
      clear e109 hsum
      clear hjd
      go_wp2
      go_ret
      exact ⟨by rw [HE.out]; rfl, HB.out⟩
    · have hjpos : (0 : Int) < (j : Int) := by omega
      have HSTEP := hid (markL_step f j t hjf hz)
      have hd1 : 1 ≤ d := by
        rcases Nat.eq_zero_or_pos d with e | e
        · subst e; simp at hjd; omega
        · exact e
      have HD : Hid (j / 10 < 10 ^ (d - 1)) := by
        obtain ⟨d', rfl⟩ : ∃ d', d = d' + 1 := ⟨d - 1, by omega⟩
        show j / 10 < 10 ^ (d' + 1 - 1)
        rw [Nat.add_sub_cancel, Nat.div_lt_iff_lt_mul (by decide)]
        rw [Nat.pow_succ] at hjd; exact hjd
      have hcv := conv_one (wr.alloc (.cells #[.int .u8 (48 + (j : Int) % 10)] 5)) wr.heap.size (48 + (j : Int) % 10) (by omega) (by omega) (by simp)
      rw [show (48 + (j : Int) % 10).toNat = 48 + j % 10 by omega] at hcv
      obtain ⟨z, hz⟩ : ∃ z : ByteArray, z = ⟨#[UInt8.ofNat (48 + j % 10)]⟩ := ⟨_, rfl⟩
      have hzs : z.size = 1 := by rw [hz]; rfl
      rw [← hz] at hcv HSTEP
      have hsum : z.size + t.size ≤ 9223372036854775807 := by omega
      have hadd := fun W => run_string_add_sum (P := Try.prog) (w := W) z t hsum
      have HSZ : Hid ((z ++ t).size = 1 + t.size) := by
        show (z ++ t).size = _
        rw [ByteArray.size_append, hzs]
      clear hz hzs hsum
      have hw1 : IntKind.i64.wrap ((j : Int) / 10) = (j : Int) / 10 := by rw [IntKind.wrap_i64]; omega
      have hm : (j : Int).tmod 10 = (j : Int) % 10 := Int.tmod_eq_emod_of_nonneg (by omega)
      have hqd : (j : Int).tdiv 10 = (j : Int) / 10 := Int.tdiv_eq_ediv_of_nonneg (by omega)
      have hw2 : IntKind.i64.wrap (48 + (j : Int) % 10) = 48 + (j : Int) % 10 := by rw [IntKind.wrap_i64]; omega
      have hw3 : IntKind.u8.wrap (48 + (j : Int) % 10) = 48 + (j : Int) % 10 := by rw [IntKind.wrap_u8]; omega
      have HJD := hid hjd
      have HTD := hid htd
      have HD1 := hid hd1
      have HS := hid HB.out.size
      clear hjd htd hd1 hz
      go_wp2
      go_roundw
      case rel =>
        obtain ⟨g, hg1, hg2⟩ := HSTEP.out
        have a1 := HTD.out
        have a2 := HD1.out
        have a3 := HSZ.out
        exact ⟨HB.out.alloc HS.out _, j / 10, g, d - 1, z ++ t, by go_num, rfl, hg1, by omega, HD.out, by omega, by rw [HR.out, hg2]⟩
      case measure => simp [intOf]; omega

set_option maxHeartbeats 600000 in
theorem eqS_caps (B1 B2 len p1 p2 : Nat) (S : Nat → ByteArray) (M : Nat → Int) (w : World) (hn : len ≤ 1048576) (R1 : RowAt w B1 0 len S M) (R2 : RowAt w B2 0 len S M) :
    Calls Try.prog 8 #[.slice (some ⟨B1, 0, none⟩) len p1, .slice (some ⟨B2, 0, none⟩) len p2] w fun e w' => e = .returned (.bool true) ∧ Below w.heap.size w w' := by
  go_enter Try.func8, Try.ntmps8
  go_wp2
  go_loopw [5] (fun i w' => Below w.heap.size w w' ∧ ∃ k : Nat, k ≤ len ∧ i = .int .i64 k) (fun i _ => len - (intOf i).toNat)
  case atStart => exact ⟨Below.refl _ _, 0, Nat.zero_le _, rfl⟩
  case round =>
    obtain ⟨hB, k, hk, rfl⟩ := hrel
    have HB := hid hB
    clear hB
    by_cases hlt : k < len
    · have c0 := (R1.below HB.out).name k hlt
      have c1 := (R1.below HB.out).num k hlt
      have d0 := (R2.below HB.out).name k hlt
      have d1 := (R2.below HB.out).num k hlt
      rw [Nat.zero_add] at c0 c1 d0 d1
      go_wp2_with fail
      refine wp_region_any (by kernel_rfl) ?_
      change wpAny _ _ _ _ _ _ _ (World.drew _)
      refine take_on 0 (v := ?_) rfl rfl (by kernel_rfl) (by kernel_rfl) (by kernel_rfl) (fun _ _ _ h => h) (by rfl) (fun w => ?_) ?_
      rotate_left
      · (go_simp; try with_reducible rfl)
      simp only [List.setIfInBounds_toArray, List.set_cons_zero, List.set_cons_succ]
      refine take_on 1 (v := ?_) rfl rfl (by kernel_rfl) (by kernel_rfl) (by kernel_rfl) (fun _ _ _ h => h) (by rfl) (fun w => ?_) ?_
      rotate_left
      · (go_simp; try with_reducible rfl)
      simp only [List.setIfInBounds_toArray, List.set_cons_zero, List.set_cons_succ]
      refine take_on 2 (v := ?_) rfl rfl (by kernel_rfl) (by kernel_rfl) (by kernel_rfl) (fun _ _ _ h => h) (by rfl) (fun w => ?_) ?_
      rotate_left
      · (go_simp; try with_reducible rfl)
      simp only [List.setIfInBounds_toArray, List.set_cons_zero, List.set_cons_succ]
      refine take_on 4 (v := ?_) rfl rfl (by kernel_rfl) (by kernel_rfl) (by kernel_rfl) (fun _ _ _ h => h) (by rfl) (fun w => ?_) ?_
      rotate_left
      · (go_simp; try with_reducible rfl)
      simp only [List.setIfInBounds_toArray, List.set_cons_zero, List.set_cons_succ]
      refine take_on 5 (v := ?_) rfl rfl (by kernel_rfl) (by kernel_rfl) (by kernel_rfl) (fun _ _ _ h => h) (by rfl) (fun w => ?_) ?_
      rotate_left
      · (go_simp; try with_reducible rfl)
      simp only [List.setIfInBounds_toArray, List.set_cons_zero, List.set_cons_succ]
      refine take_on 6 (v := ?_) rfl rfl (by kernel_rfl) (by kernel_rfl) (by kernel_rfl) (fun _ _ _ h => h) (by rfl) (fun w => ?_) ?_
      rotate_left
      · (go_simp; try with_reducible rfl)
      simp only [List.setIfInBounds_toArray, List.set_cons_zero, List.set_cons_succ]
      refine wpAny_ready (rs := [3, 7]) (by kernel_rfl) (by simp) (AllReady.cons rfl (fun K hK => ?_) (AllReady.cons rfl (fun K hK => ?_) AllReady.nil))
      · go_simp
        refine hK _ _ ?_
        clear hK K
        refine wpAny_ready (rs := [7]) (by kernel_rfl) (by simp) (AllReady.cons rfl (fun K hK => ?_) AllReady.nil)
        go_simp
        refine hK _ _ ?_
        clear hK K
        refine wpAny_ready (rs := [8]) (by kernel_rfl) (by simp) (AllReady.cons rfl (fun K hK => ?_) AllReady.nil)
        go_simp
        go_wp2_with fail
        refine (eqHost_same _ _ _).mono ?_
        rintro e w1 ⟨rfl, hb1⟩
        have HB1 := hid hb1
        clear hb1
        refine hK _ _ ?_
        clear hK K
        refine take_on 9 (v := ?_) rfl rfl (by kernel_rfl) (by kernel_rfl) (by kernel_rfl) (fun _ _ _ h => h) (by rfl) (fun w => ?_) ?_
        rotate_left
        · (go_simp; try with_reducible rfl)
        simp only [List.setIfInBounds_toArray, List.set_cons_zero, List.set_cons_succ]
        refine wpAny_done (by kernel_rfl) ?_ _
        go_wp2
        go_roundw
        case rel => exact ⟨HB.out.drew.trans (HB1.out.mono HB.out.size), k + 1, by omega, by go_num⟩
        case measure => simp [intOf]; omega
      · go_simp
        refine hK _ _ ?_
        clear hK K
        refine wpAny_ready (rs := [3]) (by kernel_rfl) (by simp) (AllReady.cons rfl (fun K hK => ?_) AllReady.nil)
        go_simp
        refine hK _ _ ?_
        clear hK K
        refine wpAny_ready (rs := [8]) (by kernel_rfl) (by simp) (AllReady.cons rfl (fun K hK => ?_) AllReady.nil)
        go_simp
        go_wp2_with fail
        refine (eqHost_same _ _ _).mono ?_
        rintro e w1 ⟨rfl, hb1⟩
        have HB1 := hid hb1
        clear hb1
        refine hK _ _ ?_
        clear hK K
        refine take_on 9 (v := ?_) rfl rfl (by kernel_rfl) (by kernel_rfl) (by kernel_rfl) (fun _ _ _ h => h) (by rfl) (fun w => ?_) ?_
        rotate_left
        · (go_simp; try with_reducible rfl)
        simp only [List.setIfInBounds_toArray, List.set_cons_zero, List.set_cons_succ]
        refine wpAny_done (by kernel_rfl) ?_ _
        go_wp2
        go_roundw
        case rel => exact ⟨HB.out.drew.trans (HB1.out.mono HB.out.size), k + 1, by omega, by go_num⟩
        case measure => simp [intOf]; omega
    · go_wp2
      go_ret
      exact ⟨rfl, HB.out⟩

set_option maxHeartbeats 400000 in
theorem eqS_zero (oa ob : Option Addr) (p1 p2 : Nat) (w : World) :
    Calls Try.prog 8 #[.slice oa 0 p1, .slice ob 0 p2] w fun e w' => e = .returned (.bool true) ∧ Below w.heap.size w w' := by
  go_enter Try.func8, Try.ntmps8
  go_wp2
  go_loop [5] (fun i => i = .int .i64 0) (fun _ => 0)
  case atStart => rfl
  case round =>
    subst hrel
    go_wp2
    go_ret
    exact ⟨rfl, Below.refl _ _⟩

theorem eqRow_same (v1 v2 : Value) (o : Hs) (b1 b2 : Nat) (w : World) (hn : ∀ x ∈ o, x.1.size ≤ 400) (hl : o.length ≤ 1048576) (h1 : w.ownsRow b1 35 2 v1 o.length (hcells o)) (h2 : w.ownsRow b2 35 2 v2 o.length (hcells o)) :
    Calls Try.prog 8 #[v1, v2] w fun e w' => e = .returned (.bool true) ∧ Below w.heap.size w w' := by
  by_cases h0 : o.length = 0
  · obtain ⟨oa, p1, rfl⟩ := row_shape h1
    obtain ⟨ob, p2, rfl⟩ := row_shape h2
    rw [h0]
    exact eqS_zero oa ob p1 p2 w
  · obtain ⟨g1, p1, rfl, _, _, _, _, _⟩ := srow_cells h1 (by omega)
    obtain ⟨g2, p2, rfl, _, _, _, _, _⟩ := srow_cells h2 (by omega)
    exact eqS_caps g1 g2 o.length p1 p2 (Sof o) (Mof o) w hl (rowAt_of h1 hn) (rowAt_of h2 hn)

/-- What marks are. -/
def markN (i : Nat) : ByteArray := markS (2 * i + 1)
def markM (i : Nat) : Int := ((2 * i + 2 : Nat) : Int)

theorem grown_set (w : World) (g j : Nat) (u : Value) : w.grownBy (w.setCell ⟨g, j, none⟩ u) (some g) :=
  ⟨rfl, rfl, rfl, by simp [World.setCell], fun k _ hne => Below.heap_setCell _ _ _ _ (fun e => hne (by rw [e]))⟩

theorem grown_below {w w' : World} (h : Below w.heap.size w w') (row : Option Nat) : w.grownBy w' row := ⟨h.os, h.tape, h.output, h.size, fun k hk _ => h.block k hk⟩

set_option maxHeartbeats 400000 in
theorem mark_zero (oa : Option Addr) (cap : Nat) (w : World) :
    Calls Try.prog 9 #[.slice oa 0 cap, .int .i64 1] w fun e w' => e = .returned (.int .i64 1) ∧ w' = w := by
  go_enter Try.func9, Try.ntmps9
  go_wp2
  go_loop [1, 5] (fun k i => k = .int .i64 1 ∧ i = .int .i64 0) (fun _ _ => 0)
  case atStart => exact ⟨rfl, rfl⟩
  case round =>
    obtain ⟨rfl, rfl⟩ := hrel
    go_wp2
    go_ret
    exact ⟨rfl, rfl⟩

set_option maxHeartbeats 400000 in
theorem held_zero (oa : Option Addr) (cap : Nat) (w : World) :
    Calls Try.prog 10 #[.slice oa 0 cap, .int .i64 1] w fun e w' => e = .returned (.int .i64 1) ∧ w' = w := by
  go_enter Try.func10, Try.ntmps10
  go_wp2
  go_loop [1, 5] (fun k i => k = .int .i64 1 ∧ i = .int .i64 0) (fun _ _ => 0)
  case atStart => exact ⟨rfl, rfl⟩
  case round =>
    obtain ⟨rfl, rfl⟩ := hrel
    go_wp2
    go_ret
    exact ⟨rfl, rfl⟩

set_option maxRecDepth 100000 in
set_option maxHeartbeats 800000 in
theorem mark_any (g n cap : Nat) (w : World) (hn : n ≤ 1000) (h0 : OwnAt w g n 0 markN markM) :
    Calls Try.prog 9 #[.slice (some ⟨g, 0, none⟩) n cap, .int .i64 1] w fun e w' => e = .returned (.int .i64 ((2 * n + 1 : Nat) : Int)) ∧ OwnAt w' g n n markN markM ∧ w.grownBy w' (some g) := by
  have H0 := hid h0
  clear h0
  go_enter Try.func9, Try.ntmps9
  go_wp2
  go_loopw [1, 5] (fun k i wr => ∃ j : Nat, j ≤ n ∧ i = .int .i64 (j : Int) ∧ k = .int .i64 ((2 * j + 1 : Nat) : Int) ∧ OwnAt wr g n j markN markM ∧ w.grownBy wr (some g)) (fun _ i _ => n - (intOf i).toNat)
  case atStart => exact ⟨0, Nat.zero_le _, rfl, rfl, H0.out, grown_below (Below.refl _ _) _⟩
  case round =>
    obtain ⟨j, hj, rfl, rfl, hown, hgr⟩ := hrel
    have HOWN := hid hown
    have HGR := hid hgr
    clear hown hgr
    by_cases hlt : j < n
    · obtain ⟨k, hk⟩ : ∃ k, k = 2 * j + 1 := ⟨_, rfl⟩
      have HK := hid hk
      rw [← hk]
      have hk1 : 1 ≤ k := by omega
      have hk2 : k ≤ 3000 := by omega
      have hjn : (j : Int) < (n : Int) := by omega
      have hj0 : (0 : Int) ≤ (j : Int) := by omega
      have CM := hid (fun W => markText_any k W hk1 (by omega))
      obtain ⟨z, hz⟩ : ∃ z, z = markS k := ⟨_, rfl⟩
      rw [← hz] at CM
      have HZ := hid hz
      clear hz hk
      go_wp2_with fail
      refine (CM.out _).mono ?_
      rintro e w1 ⟨rfl, hb1⟩
      have hO := HOWN.out.below hb1
      have HO := hid hO
      have HG1 : Hid (w.grownBy w1 (some g)) := HGR.out.trans (grown_below hb1 _)
      have t0 := hO.there (j * 2) (by omega)
      have t1 := hO.there (j * 2 + 1) (by omega)
      have f0 := hO.free (j * 2) (by omega)
      have f1 := hO.free (j * 2 + 1) (by omega)
      obtain ⟨u0, hu0⟩ := Option.isSome_iff_exists.mp t0
      obtain ⟨u1, hu1⟩ := Option.isSome_iff_exists.mp t1
      clear hb1 hO t0 t1
      go_wp2
      go_roundw
      case rel =>
        have ek := HK.out
        have e1 : markN j = z := by unfold markN; rw [HZ.out, ek]
        have e2 : markM j = (k : Int) + 1 := by unfold markM; omega
        have hp := HO.out.put hlt
        rw [e1, e2] at hp
        refine ⟨j + 1, by omega, by go_num, ?_, hp, (HG1.out.trans (grown_set _ _ _ _)).trans (grown_set _ _ _ _)⟩
        rw [ek]
        congr 1
      case measure => simp [intOf]; omega
    · have hj' : j = n := by omega
      subst hj'
      obtain ⟨k, hk⟩ : ∃ k, k = 2 * j + 1 := ⟨_, rfl⟩
      rw [← hk]
      have HK := hid hk
      clear hk
      go_wp2
      go_ret
      exact ⟨by rw [← HK.out]; rfl, HOWN.out, HGR.out⟩

set_option maxRecDepth 100000 in
set_option maxHeartbeats 800000 in
theorem held_any (g n cap : Nat) (w : World) (hn : n ≤ 1000) (R : RowAt w g 0 n markN markM) :
    Calls Try.prog 10 #[.slice (some ⟨g, 0, none⟩) n cap, .int .i64 1] w fun e w' => e = .returned (.int .i64 ((2 * n + 1 : Nat) : Int)) ∧ Below w.heap.size w w' := by
  have HR := hid R
  clear R
  go_enter Try.func10, Try.ntmps10
  go_wp2
  go_loopw [1, 5] (fun k i wr => ∃ j : Nat, j ≤ n ∧ i = .int .i64 (j : Int) ∧ k = .int .i64 ((2 * j + 1 : Nat) : Int) ∧ Below w.heap.size w wr) (fun _ i _ => n - (intOf i).toNat)
  case atStart => exact ⟨0, Nat.zero_le _, rfl, rfl, Below.refl _ _⟩
  case round =>
    obtain ⟨j, hj, rfl, rfl, hB⟩ := hrel
    have HB := hid hB
    clear hB
    by_cases hlt : j < n
    · obtain ⟨k, hk⟩ : ∃ k, k = 2 * j + 1 := ⟨_, rfl⟩
      have HK := hid hk
      rw [← hk]
      have hk1 : 1 ≤ k := by omega
      have hk2 : k ≤ 3000 := by omega
      have hjn : (j : Int) < (n : Int) := by omega
      have hj0 : (0 : Int) ≤ (j : Int) := by omega
      have CM := hid (fun W => markText_any k W hk1 (by omega))
      obtain ⟨z, hz⟩ : ∃ z, z = markS k := ⟨_, rfl⟩
      rw [← hz] at CM
      have HRW := hid (HR.out.below HB.out)
      have c0 : wr.cell? ⟨g, j * 2, none⟩ = some (.string z) := by
        have := HRW.out.name j hlt
        rw [Nat.zero_add] at this
        rw [this, hz, hk]; rfl
      have c1 : wr.cell? ⟨g, j * 2 + 1, none⟩ = some (.int .i64 ((k : Int) + 1)) := by
        have := HRW.out.num j hlt
        rw [Nat.zero_add] at this
        rw [this]
        unfold markM
        congr 2
        omega
      have hgw : g < wr.heap.size := World.block_lt_of_cell? wr _ c0
      clear hz hk
      go_wp2_with fail
      go_region_held3 (fun w' => w'.cell? ⟨g, j * 2, none⟩ = some (.string z) ∧ w'.cell? ⟨g, j * 2 + 1, none⟩ = some (.int .i64 ((k : Int) + 1))) (go_keep)
        ((go_at_call 21; refine (CM.out _).mono ?_; rintro e w1 ⟨rfl, hb1⟩; have HB1 := hid hb1; have k0 : w1.cell? ⟨g, j * 2, none⟩ = some (.string z) := (by rw [hb1.cell (by exact hgw)]; exact c0); have k1 : w1.cell? ⟨g, j * 2 + 1, none⟩ = some (.int .i64 ((k : Int) + 1)) := (by rw [hb1.cell (by exact hgw)]; exact c1); clear hb1))
      all_goals
        go_wp2
        go_roundw
        case rel =>
          have ek := HK.out
          refine ⟨j + 1, by omega, by go_num, by rw [ek]; congr 1, HB.out.trans (((below_drew1 wr).mono HB.out.size).trans (HB1.out.mono (by have := HB.out.size; simpa using this)))⟩
        case measure => simp [intOf]; omega
    · have hj' : j = n := by omega
      subst hj'
      obtain ⟨k, hk⟩ : ∃ k, k = 2 * j + 1 := ⟨_, rfl⟩
      rw [← hk]
      have HK := hid hk
      clear hk
      go_wp2
      go_ret
      exact ⟨by rw [← HK.out]; rfl, HB.out⟩

end Go.Proofs.Ytahhjhhnjpbocae
