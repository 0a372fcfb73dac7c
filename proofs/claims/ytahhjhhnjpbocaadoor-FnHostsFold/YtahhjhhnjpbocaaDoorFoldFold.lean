/- DERIVED. The model's walk: hosts are folded. -/
import Derived.Test.YtahhjhhnjpbocaaDoorFoldNums
namespace Go.Proofs.YtahhjhhnjpbocaaDoor
open Go.RowKit

theorem RowAt.part {w : World} {b off len : Nat} {S : Nat → ByteArray} {M : Nat → Int} (h : RowAt w b off len S M) (k n : Nat) (hn : k + n ≤ len) : RowAt w b (off + k * 2) n (fun i => S (k + i)) (fun i => M (k + i)) where
  old := h.old
  name := fun i hi => by have := h.name (k + i) (by omega); rw [show off + k * 2 + i * 2 = off + (k + i) * 2 by omega]; exact this
  num := fun i hi => by have := h.num (k + i) (by omega); rw [show off + k * 2 + i * 2 + 1 = off + (k + i) * 2 + 1 by omega]; exact this
  small := fun i hi => h.small (k + i) (by omega)

theorem part_same (S : Nat → ByteArray) (k len : Nat) (i : Nat) (hi : i < stretch (sameP S) k len) : (S (k + i)).toList = (S k).toList := by
  have := same_chain S k (i + 1) (by omega) (fun j a b => stretch_all (sameP S) k len j a (by omega))
  rw [show k + (i + 1) - 1 = k + i by omega] at this
  exact this

theorem part_nums (b off len cap k n : Nat) (S : Nat → ByteArray) (M : Nat → Int) (w : World) (hc : len ≤ cap) (hm : cap ≤ maxLen) (h30 : len ≤ 30) (R : RowAt w b off len S M) (hnum : ∀ i, i < len → 0 ≤ M i ∧ M i ≤ 999)
    (hk : k < len) (hn : n = stretch (sameP S) k len) (c2 : Nat) (hc2 : c2 = cap - k) :
    Calls Tryd.prog 37 #[.slice (some ⟨b, off + k * 2, none⟩) n c2] w fun e w' => e = .returned (.string (mkS (numsL M k (k + n)))) ∧ Below w.heap.size w w' := by
  have hl := stretch_le (sameP S) k len hk
  have hp := stretch_pos (sameP S) k len
  rw [← hn] at hl hp
  have h := nums_spec b (off + k * 2) n c2 (fun i => S (k + i)) (fun i => M (k + i)) w (by omega) (by omega) (by omega) (R.part k n (by omega))
    (fun i j hi hj => by
      rw [beq_iff_eq]
      show (S (k + i)).toList = (S (k + j)).toList
      rw [part_same S k len i (by omega), part_same S k len j (by omega)])
    (fun i hi => hnum (k + i) (by omega))
  rw [numsL_shift] at h
  exact h

set_option maxHeartbeats 2000000 in
theorem fold_spec (b off len cap : Nat) (S : Nat → ByteArray) (M : Nat → Int) (w : World) (hc : len ≤ cap) (hm : cap ≤ maxLen) (h30 : len ≤ 30) (R : RowAt w b off len S M)
    (hname : ∀ i, i < len → (S i).size ≤ 6) (hnum : ∀ i, i < len → 0 ≤ M i ∧ M i ≤ 999) :
    Calls Tryd.prog 19 #[.slice (some ⟨b, off, none⟩) len cap] w fun e w' => e = .returned (.string (mkS (foldL S M 0 len))) ∧ Below w.heap.size w w' := by
  have hm' : cap ≤ 2 ^ 63 - 1 := hm
  have HS := hid hname
  have HM := hid hnum
  clear hname hnum
  have HTL : Hid ((foldL S M 0 len).length ≤ 2011 * 30) := by
    have := foldL_len S M 0 len (fun j _ h => HS.out j h) (fun j _ h => (HM.out j h).2)
    show _ ≤ _; omega
  go_enter Tryd.func19, Tryd.ntmps19
  go_wp2
  go_loopw [3, 4] (fun s i w' => Below w.heap.size w w' ∧ ∃ (o : ByteArray) (k : Nat), k ≤ len ∧ s = .string o ∧ i = .int .i64 k ∧ o.data.toList ++ tailF S M k len = foldL S M 0 len) (fun _ i _ => len - (intOf i).toNat)
  case atStart =>
    refine ⟨Below.refl _ _, ⟨#[]⟩, 0, Nat.zero_le _, rfl, rfl, ?_⟩
    unfold tailF
    by_cases h : 0 < len
    · simp [h]
    · rw [foldL_eqn]; simp [h]
  case round =>
    obtain ⟨hB, o, k, hk, rfl, rfl, hi⟩ := hrel
    have HI := hid hi
    have HB := hid hB
    clear hi hB
    have HR : Hid (RowAt wr b off len S M) := R.below HB.out
    by_cases hlt : k < len
    · have hos : o.size ≤ 200000 := by
        have h1 := congrArg List.length HI.out
        have h2 := HTL.out
        rw [List.length_append] at h1
        have h3 : o.data.toList.length = o.size := by simp
        omega
      have hp := stretch_pos (sameP S) k len
      have hl := stretch_le (sameP S) k len hlt
      obtain ⟨n, hn⟩ : ∃ n, n = stretch (sameP S) k len := ⟨_, rfl⟩
      have CR : Hid (Calls Tryd.prog 35 #[.slice (some ⟨b, off, none⟩) len cap, .int .i64 k] wr fun e w' => e = .returned (.int .i64 n) ∧ Below wr.heap.size wr w') := by
        rw [hn]; exact same_spec b off len cap k S M wr hc hm hlt HR.out
      have HST : Hid (stretch (sameP S) k len = n) := hn.symm
      rw [← hn] at hp hl
      clear hn
      obtain ⟨j, hj⟩ : ∃ j, j = k + n := ⟨_, rfl⟩
      have HJ := hid hj
      have hadd : (k : Int) + (n : Int) = (j : Int) := by omega
      have hw : IntKind.i64.wrap (j : Int) = (j : Int) := by rw [IntKind.wrap_i64]; omega
      have hlj : j ≤ len := by omega
      have hkj : k < j := by omega
      clear hj
      obtain ⟨u, hu⟩ : ∃ u : Nat, M k = (u : Int) := ⟨(M k).toNat, by have := HM.out k hlt; omega⟩
      have hub : u ≤ 999 := by have := HM.out k hlt; omega
      have hss := HS.out k hlt
      have HU := hid hu
      clear hu
      by_cases hn1 : n = 1
      · have HN1 := hid hn1
        have h1n : ((n : Int) == 1) = true := by simp; omega
        have h1e : (n : Int) = 1 := by omega
        clear hn1 h1e
        by_cases hk0 : k = 0
        · have HK0 := hid hk0
          have hk00 : ¬ (0 : Int) < (k : Int) := by omega
          clear hk0
          obtain ⟨o1, ho1⟩ : ∃ o1, o1 = o := ⟨_, rfl⟩
          have HO1 : Hid (o1.data.toList = o.data.toList ++ commaL k) := by show _ = _; rw [ho1, commaL, if_pos HK0.out]; simp
          have hso1 : o1.size ≤ 200001 := by rw [ho1]; omega
          rw [← ho1]
          clear ho1
          obtain ⟨p, hp'⟩ : ∃ p, p = S k ++ decS u := ⟨_, rfl⟩
          have hps : p.size ≤ 1010 := by have := decS_size u; rw [hp', ByteArray.size_append]; omega
          have HP : Hid (p.data.toList = (S k).data.toList ++ decL (M k)) := by show _ = _; rw [hp', cat_l, decS_l, HU.out]
          have CP : Hid (∀ w, Calls Tryd.prog 36 #[.agg #[.string (S k), .int .i64 (u : Int)]] w fun e w' => e = .returned (.string p) ∧ Below w.heap.size w w') := fun w => by rw [hp']; exact l1Put_any (S k) u w hss (by omega)
          clear hp'
          obtain ⟨o2, ho2⟩ : ∃ o2, o2 = o1 ++ p := ⟨_, rfl⟩
          have HO2 : Hid (o2.data.toList = o.data.toList ++ commaL k ++ ((S k).data.toList ++ decL (M k))) := by show _ = _; rw [ho2, cat_l, HO1.out, HP.out]
          have hso2 : o2.size ≤ 202000 := by rw [ho2, ByteArray.size_append]; omega
          have hadd_o2 := fun W => run_string_add_sum (P := Tryd.prog) (w := W) o1 p (by omega)
          rw [← ho2] at hadd_o2
          clear ho2
          have HE : Hid (o2.data.toList ++ tailF S M j len = foldL S M 0 len) := by
            have := HI.out
            rw [tailF_step S M k len hlt, HST.out, ← HJ.out] at this
            show _ = _
            rw [← this, HO2.out, nameL, if_pos HN1.out]
            simp
          go_wp2_with fail
          refine CR.out.mono ?_
          rintro e w1 ⟨rfl, hb1⟩
          have HR1 : Hid (RowAt w1 b off len S M) := HR.out.below hb1
          have HB1 : Hid (Below w.heap.size w w1) := HB.out.trans (hb1.mono HB.out.size)
          clear hb1 CR
          have c0 := HR1.out.name k hlt
          have c1 := HR1.out.num k hlt
          rw [HU.out] at c1
          go_wp2_with fail
          refine (CP.out _).mono ?_
          rintro e w2 ⟨rfl, hb2⟩
          have HB2 : Hid (Below w.heap.size w w2) := HB1.out.trans (hb2.mono HB1.out.size)
          clear hb2 CP c1 c0
          go_wp2
          go_roundw
          case rel => exact ⟨HB2.out, o2, j, by omega, rfl, by go_num, HE.out⟩
          case measure => simp [intOf]; omega
        · have HK0 := hid hk0
          have hk00 : (0 : Int) < (k : Int) := by omega
          clear hk0
          obtain ⟨o1, ho1⟩ : ∃ o1, o1 = o ++ ⟨#[44]⟩ := ⟨_, rfl⟩
          have HO1 : Hid (o1.data.toList = o.data.toList ++ commaL k) := by show _ = _; rw [ho1, cat_l, commaL, if_neg HK0.out]
          have hso1 : o1.size ≤ 200001 := by rw [ho1, ByteArray.size_append]; have : (ByteArray.mk #[44]).size = 1 := rfl; omega
          have hadd1 := fun W => run_string_add_sum (P := Tryd.prog) (w := W) o ⟨#[44]⟩ (by have : (ByteArray.mk #[44]).size = 1 := rfl; omega)
          rw [← ho1] at hadd1
          clear ho1
          obtain ⟨p, hp'⟩ : ∃ p, p = S k ++ decS u := ⟨_, rfl⟩
          have hps : p.size ≤ 1010 := by have := decS_size u; rw [hp', ByteArray.size_append]; omega
          have HP : Hid (p.data.toList = (S k).data.toList ++ decL (M k)) := by show _ = _; rw [hp', cat_l, decS_l, HU.out]
          have CP : Hid (∀ w, Calls Tryd.prog 36 #[.agg #[.string (S k), .int .i64 (u : Int)]] w fun e w' => e = .returned (.string p) ∧ Below w.heap.size w w') := fun w => by rw [hp']; exact l1Put_any (S k) u w hss (by omega)
          clear hp'
          obtain ⟨o2, ho2⟩ : ∃ o2, o2 = o1 ++ p := ⟨_, rfl⟩
          have HO2 : Hid (o2.data.toList = o.data.toList ++ commaL k ++ ((S k).data.toList ++ decL (M k))) := by show _ = _; rw [ho2, cat_l, HO1.out, HP.out]
          have hso2 : o2.size ≤ 202000 := by rw [ho2, ByteArray.size_append]; omega
          have hadd_o2 := fun W => run_string_add_sum (P := Tryd.prog) (w := W) o1 p (by omega)
          rw [← ho2] at hadd_o2
          clear ho2
          have HE : Hid (o2.data.toList ++ tailF S M j len = foldL S M 0 len) := by
            have := HI.out
            rw [tailF_step S M k len hlt, HST.out, ← HJ.out] at this
            show _ = _
            rw [← this, HO2.out, nameL, if_pos HN1.out]
            simp
          go_wp2_with fail
          refine CR.out.mono ?_
          rintro e w1 ⟨rfl, hb1⟩
          have HR1 : Hid (RowAt w1 b off len S M) := HR.out.below hb1
          have HB1 : Hid (Below w.heap.size w w1) := HB.out.trans (hb1.mono HB.out.size)
          clear hb1 CR
          have c0 := HR1.out.name k hlt
          have c1 := HR1.out.num k hlt
          rw [HU.out] at c1
          go_wp2_with fail
          refine (CP.out _).mono ?_
          rintro e w2 ⟨rfl, hb2⟩
          have HB2 : Hid (Below w.heap.size w w2) := HB1.out.trans (hb2.mono HB1.out.size)
          clear hb2 CP c1 c0
          go_wp2
          go_roundw
          case rel => exact ⟨HB2.out, o2, j, by omega, rfl, by go_num, HE.out⟩
          case measure => simp [intOf]; omega
      · have HN1 := hid hn1
        have h1n : ((n : Int) == 1) = false := by simp; omega
        have hn2 : 2 ≤ n := by omega
        clear hn1
        by_cases hk0 : k = 0
        · have HK0 := hid hk0
          have hk00 : ¬ (0 : Int) < (k : Int) := by omega
          clear hk0
          obtain ⟨o1, ho1⟩ : ∃ o1, o1 = o := ⟨_, rfl⟩
          have HO1 : Hid (o1.data.toList = o.data.toList ++ commaL k) := by show _ = _; rw [ho1, commaL, if_pos HK0.out]; simp
          have hso1 : o1.size ≤ 200001 := by rw [ho1]; omega
          rw [← ho1]
          clear ho1
          obtain ⟨z, hz⟩ : ∃ z, z = mkS (numsL M k (k + n)) := ⟨_, rfl⟩
          have HZ : Hid (z.data.toList = numsL M k (k + n)) := by show _ = _; rw [hz]; simp [mkS]
          have hzs : z.size ≤ 100000 := by
            have h1 := numsL_len M k (k + n) (fun i _ h => (HM.out i (by omega)).2)
            have h2 := congrArg List.length HZ.out
            have h3 : z.data.toList.length = z.size := by simp
            omega
          obtain ⟨c2, hc2⟩ : ∃ c2, c2 = cap - k := ⟨_, rfl⟩
          have CN : Hid (∀ w', RowAt w' b off len S M → Calls Tryd.prog 37 #[.slice (some ⟨b, off + k * 2, none⟩) n c2] w' fun e w2 => e = .returned (.string z) ∧ Below w'.heap.size w' w2) := fun w' h => by rw [hz]; exact part_nums b off len cap k n S M w' hc hm h30 h HM.out hlt HST.out.symm c2 hc2
          clear hz
          obtain ⟨a1, ha1⟩ : ∃ a1, a1 = o1 ++ (S k) := ⟨_, rfl⟩
          have HA1 : Hid (a1.data.toList = o.data.toList ++ commaL k ++ (S k).data.toList) := by show _ = _; rw [ha1, cat_l, HO1.out]
          have hsa1 : a1.size ≤ 200100 := by rw [ha1, ByteArray.size_append]; omega
          have hadd_a1 := fun W => run_string_add_sum (P := Tryd.prog) (w := W) o1 (S k) (by omega)
          rw [← ha1] at hadd_a1
          clear ha1
          obtain ⟨a2, ha2⟩ : ∃ a2, a2 = a1 ++ ⟨#[91]⟩ := ⟨_, rfl⟩
          have HA2 : Hid (a2.data.toList = o.data.toList ++ commaL k ++ (S k).data.toList ++ [91]) := by show _ = _; rw [ha2, cat_l, HA1.out]
          have hsa2 : a2.size ≤ 200101 := by rw [ha2, ByteArray.size_append]; have : (ByteArray.mk #[91]).size = 1 := rfl; omega
          have hadd_a2 := fun W => run_string_add_sum (P := Tryd.prog) (w := W) a1 ⟨#[91]⟩ (by have : (ByteArray.mk #[91]).size = 1 := rfl; omega)
          rw [← ha2] at hadd_a2
          clear ha2
          obtain ⟨a3, ha3⟩ : ∃ a3, a3 = a2 ++ z := ⟨_, rfl⟩
          have HA3 : Hid (a3.data.toList = o.data.toList ++ commaL k ++ (S k).data.toList ++ [91] ++ numsL M k (k + n)) := by show _ = _; rw [ha3, cat_l, HA2.out, HZ.out]
          have hsa3 : a3.size ≤ 310000 := by rw [ha3, ByteArray.size_append]; omega
          have hadd_a3 := fun W => run_string_add_sum (P := Tryd.prog) (w := W) a2 z (by omega)
          rw [← ha3] at hadd_a3
          clear ha3
          obtain ⟨a4, ha4⟩ : ∃ a4, a4 = a3 ++ ⟨#[93]⟩ := ⟨_, rfl⟩
          have HA4 : Hid (a4.data.toList = o.data.toList ++ commaL k ++ (S k).data.toList ++ [91] ++ numsL M k (k + n) ++ [93]) := by show _ = _; rw [ha4, cat_l, HA3.out]
          have hsa4 : a4.size ≤ 310001 := by rw [ha4, ByteArray.size_append]; have : (ByteArray.mk #[93]).size = 1 := rfl; omega
          have hadd_a4 := fun W => run_string_add_sum (P := Tryd.prog) (w := W) a3 ⟨#[93]⟩ (by have : (ByteArray.mk #[93]).size = 1 := rfl; omega)
          rw [← ha4] at hadd_a4
          clear ha4
          have HE : Hid (a4.data.toList ++ tailF S M j len = foldL S M 0 len) := by
            have := HI.out
            rw [tailF_step S M k len hlt, HST.out, ← HJ.out] at this
            show _ = _
            rw [← this, HA4.out, nameL, if_neg HN1.out]
            simp
          go_wp2_with fail
          refine CR.out.mono ?_
          rintro e w1 ⟨rfl, hb1⟩
          have HR1 : Hid (RowAt w1 b off len S M) := HR.out.below hb1
          have HB1 : Hid (Below w.heap.size w w1) := HB.out.trans (hb1.mono HB.out.size)
          clear hb1 CR
          have c0 := HR1.out.name k hlt
          have hjk : j - k = n := by have := HJ.out; omega
          have hck : cap - k = c2 := hc2.symm
          have hc2b : n ≤ c2 := by omega
          clear hc2
          have hcl : (j : Int) ≤ (cap : Int) := by omega
          have hkl : (k : Int) ≤ (j : Int) := by omega
          go_wp2_with fail
          refine wp_region_held_drew (S := fun w' => w'.cell? ⟨b, off + k * 2, none⟩ = some (.string (S k))) (by kernel_rfl) ?_ (fun hS => ?_)
          · exact c0
          refine takeH_on 0 (v := ?_) rfl rfl (by kernel_rfl) (by kernel_rfl) (by kernel_rfl) (fun _ _ _ h => h) (by rfl) hS (fun w hSw => ?_) ?_
          rotate_left
          · ((try dsimp only at hSw); go_simp; try with_reducible rfl)
          simp only [List.setIfInBounds_toArray, List.set_cons_zero, List.set_cons_succ]
          refine takeH_on 1 (v := ?_) rfl rfl (by kernel_rfl) (by kernel_rfl) (by kernel_rfl) (fun _ _ _ h => h) (by rfl) hS (fun w hSw => ?_) ?_
          rotate_left
          · ((try dsimp only at hSw); go_simp; try with_reducible rfl)
          simp only [List.setIfInBounds_toArray, List.set_cons_zero, List.set_cons_succ]
          refine takeH_on 2 (v := ?_) rfl rfl (by kernel_rfl) (by kernel_rfl) (by kernel_rfl) (fun _ _ _ h => h) (by rfl) hS (fun w hSw => ?_) ?_
          rotate_left
          · ((try dsimp only at hSw); go_simp; try with_reducible rfl)
          simp only [List.setIfInBounds_toArray, List.set_cons_zero, List.set_cons_succ]
          refine takeH_on 3 (v := ?_) rfl rfl (by kernel_rfl) (by kernel_rfl) (by kernel_rfl) (fun _ _ _ h => h) (by rfl) hS (fun w hSw => ?_) ?_
          rotate_left
          · ((try dsimp only at hSw); go_simp; try with_reducible rfl)
          simp only [List.setIfInBounds_toArray, List.set_cons_zero, List.set_cons_succ]
          refine takeH_on 4 (v := ?_) rfl rfl (by kernel_rfl) (by kernel_rfl) (by kernel_rfl) (fun _ _ _ h => h) (by rfl) hS (fun w hSw => ?_) ?_
          rotate_left
          · ((try dsimp only at hSw); go_simp; try with_reducible rfl)
          simp only [List.setIfInBounds_toArray, List.set_cons_zero, List.set_cons_succ]
          refine takeH_on 5 (v := ?_) rfl rfl (by kernel_rfl) (by kernel_rfl) (by kernel_rfl) (fun _ _ _ h => h) (by rfl) hS (fun w hSw => ?_) ?_
          rotate_left
          · ((try dsimp only at hSw); go_simp; try with_reducible rfl)
          simp only [List.setIfInBounds_toArray, List.set_cons_zero, List.set_cons_succ]
          refine takeH_on 6 (v := .string a1) rfl rfl (by kernel_rfl) (by kernel_rfl) (by kernel_rfl) (fun _ _ _ h => h) (by rfl) hS (fun w hSw => ?_) ?_
          · ((try dsimp only at hSw); go_simp; try with_reducible rfl)
          simp only [List.setIfInBounds_toArray, List.set_cons_zero, List.set_cons_succ]
          refine takeH_on 7 (v := .string a2) rfl rfl (by kernel_rfl) (by kernel_rfl) (by kernel_rfl) (fun _ _ _ h => h) (by rfl) hS (fun w hSw => ?_) ?_
          · ((try dsimp only at hSw); go_simp; try with_reducible rfl)
          simp only [List.setIfInBounds_toArray, List.set_cons_zero, List.set_cons_succ]
          refine takeH_on 8 (v := ?_) rfl rfl (by kernel_rfl) (by kernel_rfl) (by kernel_rfl) (fun _ _ _ h => h) (by rfl) hS (fun w hSw => ?_) ?_
          rotate_left
          · ((try dsimp only at hSw); go_simp; try with_reducible rfl)
          simp only [List.setIfInBounds_toArray, List.set_cons_zero, List.set_cons_succ]
          refine takeH_on 9 (v := ?_) rfl rfl (by kernel_rfl) (by kernel_rfl) (by kernel_rfl) (fun _ _ _ h => h) (by rfl) hS (fun w hSw => ?_) ?_
          rotate_left
          · ((try dsimp only at hSw); go_simp; try with_reducible rfl)
          simp only [List.setIfInBounds_toArray, List.set_cons_zero, List.set_cons_succ]
          refine takeH_on 10 (v := ?_) rfl rfl (by kernel_rfl) (by kernel_rfl) (by kernel_rfl) (fun _ _ _ h => h) (by rfl) hS (fun w hSw => ?_) ?_
          rotate_left
          · ((try dsimp only at hSw); go_simp; try with_reducible rfl)
          simp only [List.setIfInBounds_toArray, List.set_cons_zero, List.set_cons_succ]
          refine takeH_on 11 (v := ?_) rfl rfl (by kernel_rfl) (by kernel_rfl) (by kernel_rfl) (fun _ _ _ h => h) (by rfl) hS (fun w hSw => ?_) ?_
          rotate_left
          · ((try dsimp only at hSw); go_simp; try with_reducible rfl)
          simp only [List.setIfInBounds_toArray, List.set_cons_zero, List.set_cons_succ]
          refine takeH_on 12 (v := .int .i64 (j : Int)) rfl rfl (by kernel_rfl) (by kernel_rfl) (by kernel_rfl) (fun _ _ _ h => h) (by rfl) hS (fun w hSw => ?_) ?_
          · ((try dsimp only at hSw); go_simp; try with_reducible rfl)
          simp only [List.setIfInBounds_toArray, List.set_cons_zero, List.set_cons_succ]
          refine takeH_on 13 (v := .slice (some ⟨b, off + k * 2, none⟩) n c2) rfl rfl (by kernel_rfl) (by kernel_rfl) (by kernel_rfl) (fun _ _ _ h => h) (by rfl) hS (fun w hSw => ?_) ?_
          · ((try dsimp only at hSw); go_simp; try (intro hh; omega))
          simp only [List.setIfInBounds_toArray, List.set_cons_zero, List.set_cons_succ]
          refine wpAnyH_ready (rs := [14]) (by kernel_rfl) (by simp) (AllReadyH.cons rfl (fun K hK => ?_) AllReadyH.nil)
          clear hS
          go_simp
          go_wp2_with fail
          refine (CN.out _ HR1.out.drew).mono ?_
          rintro e w2 ⟨rfl, hb2⟩
          have HB2 : Hid (Below w.heap.size w w2) := HB1.out.drew.trans (hb2.mono HB1.out.size)
          have c9 : w2.cell? ⟨b, off + k * 2, none⟩ = some (.string (S k)) := by rw [hb2.cell (p := ⟨b, off + k * 2, none⟩) HR1.out.old]; exact c0
          clear hb2 CN
          refine Shut.out hK _ _ c9 (fun hS => ?_)
          clear hK K
          refine takeH_on 15 (v := .string a3) rfl rfl (by kernel_rfl) (by kernel_rfl) (by kernel_rfl) (fun _ _ _ h => h) (by rfl) hS (fun w hSw => ?_) ?_
          · ((try dsimp only at hSw); go_simp; try with_reducible rfl)
          simp only [List.setIfInBounds_toArray, List.set_cons_zero, List.set_cons_succ]
          refine takeH_on 16 (v := .string a4) rfl rfl (by kernel_rfl) (by kernel_rfl) (by kernel_rfl) (fun _ _ _ h => h) (by rfl) hS (fun w hSw => ?_) ?_
          · ((try dsimp only at hSw); go_simp; try with_reducible rfl)
          simp only [List.setIfInBounds_toArray, List.set_cons_zero, List.set_cons_succ]
          refine takeH_on 17 (v := ?_) rfl rfl (by kernel_rfl) (by kernel_rfl) (by kernel_rfl) (fun _ _ _ h => h) (by rfl) hS (fun w hSw => ?_) ?_
          rotate_left
          · ((try dsimp only at hSw); go_simp; try with_reducible rfl)
          simp only [List.setIfInBounds_toArray, List.set_cons_zero, List.set_cons_succ]
          refine wpAnyH_done (by kernel_rfl) ?_ _
          go_wp2
          go_roundw
          case rel => exact ⟨HB2.out, a4, j, by omega, rfl, by go_num, HE.out⟩
          case measure => simp [intOf]; omega
        · have HK0 := hid hk0
          have hk00 : (0 : Int) < (k : Int) := by omega
          clear hk0
          obtain ⟨o1, ho1⟩ : ∃ o1, o1 = o ++ ⟨#[44]⟩ := ⟨_, rfl⟩
          have HO1 : Hid (o1.data.toList = o.data.toList ++ commaL k) := by show _ = _; rw [ho1, cat_l, commaL, if_neg HK0.out]
          have hso1 : o1.size ≤ 200001 := by rw [ho1, ByteArray.size_append]; have : (ByteArray.mk #[44]).size = 1 := rfl; omega
          have hadd1 := fun W => run_string_add_sum (P := Tryd.prog) (w := W) o ⟨#[44]⟩ (by have : (ByteArray.mk #[44]).size = 1 := rfl; omega)
          rw [← ho1] at hadd1
          clear ho1
          obtain ⟨z, hz⟩ : ∃ z, z = mkS (numsL M k (k + n)) := ⟨_, rfl⟩
          have HZ : Hid (z.data.toList = numsL M k (k + n)) := by show _ = _; rw [hz]; simp [mkS]
          have hzs : z.size ≤ 100000 := by
            have h1 := numsL_len M k (k + n) (fun i _ h => (HM.out i (by omega)).2)
            have h2 := congrArg List.length HZ.out
            have h3 : z.data.toList.length = z.size := by simp
            omega
          obtain ⟨c2, hc2⟩ : ∃ c2, c2 = cap - k := ⟨_, rfl⟩
          have CN : Hid (∀ w', RowAt w' b off len S M → Calls Tryd.prog 37 #[.slice (some ⟨b, off + k * 2, none⟩) n c2] w' fun e w2 => e = .returned (.string z) ∧ Below w'.heap.size w' w2) := fun w' h => by rw [hz]; exact part_nums b off len cap k n S M w' hc hm h30 h HM.out hlt HST.out.symm c2 hc2
          clear hz
          obtain ⟨a1, ha1⟩ : ∃ a1, a1 = o1 ++ (S k) := ⟨_, rfl⟩
          have HA1 : Hid (a1.data.toList = o.data.toList ++ commaL k ++ (S k).data.toList) := by show _ = _; rw [ha1, cat_l, HO1.out]
          have hsa1 : a1.size ≤ 200100 := by rw [ha1, ByteArray.size_append]; omega
          have hadd_a1 := fun W => run_string_add_sum (P := Tryd.prog) (w := W) o1 (S k) (by omega)
          rw [← ha1] at hadd_a1
          clear ha1
          obtain ⟨a2, ha2⟩ : ∃ a2, a2 = a1 ++ ⟨#[91]⟩ := ⟨_, rfl⟩
          have HA2 : Hid (a2.data.toList = o.data.toList ++ commaL k ++ (S k).data.toList ++ [91]) := by show _ = _; rw [ha2, cat_l, HA1.out]
          have hsa2 : a2.size ≤ 200101 := by rw [ha2, ByteArray.size_append]; have : (ByteArray.mk #[91]).size = 1 := rfl; omega
          have hadd_a2 := fun W => run_string_add_sum (P := Tryd.prog) (w := W) a1 ⟨#[91]⟩ (by have : (ByteArray.mk #[91]).size = 1 := rfl; omega)
          rw [← ha2] at hadd_a2
          clear ha2
          obtain ⟨a3, ha3⟩ : ∃ a3, a3 = a2 ++ z := ⟨_, rfl⟩
          have HA3 : Hid (a3.data.toList = o.data.toList ++ commaL k ++ (S k).data.toList ++ [91] ++ numsL M k (k + n)) := by show _ = _; rw [ha3, cat_l, HA2.out, HZ.out]
          have hsa3 : a3.size ≤ 310000 := by rw [ha3, ByteArray.size_append]; omega
          have hadd_a3 := fun W => run_string_add_sum (P := Tryd.prog) (w := W) a2 z (by omega)
          rw [← ha3] at hadd_a3
          clear ha3
          obtain ⟨a4, ha4⟩ : ∃ a4, a4 = a3 ++ ⟨#[93]⟩ := ⟨_, rfl⟩
          have HA4 : Hid (a4.data.toList = o.data.toList ++ commaL k ++ (S k).data.toList ++ [91] ++ numsL M k (k + n) ++ [93]) := by show _ = _; rw [ha4, cat_l, HA3.out]
          have hsa4 : a4.size ≤ 310001 := by rw [ha4, ByteArray.size_append]; have : (ByteArray.mk #[93]).size = 1 := rfl; omega
          have hadd_a4 := fun W => run_string_add_sum (P := Tryd.prog) (w := W) a3 ⟨#[93]⟩ (by have : (ByteArray.mk #[93]).size = 1 := rfl; omega)
          rw [← ha4] at hadd_a4
          clear ha4
          have HE : Hid (a4.data.toList ++ tailF S M j len = foldL S M 0 len) := by
            have := HI.out
            rw [tailF_step S M k len hlt, HST.out, ← HJ.out] at this
            show _ = _
            rw [← this, HA4.out, nameL, if_neg HN1.out]
            simp
          go_wp2_with fail
          refine CR.out.mono ?_
          rintro e w1 ⟨rfl, hb1⟩
          have HR1 : Hid (RowAt w1 b off len S M) := HR.out.below hb1
          have HB1 : Hid (Below w.heap.size w w1) := HB.out.trans (hb1.mono HB.out.size)
          clear hb1 CR
          have c0 := HR1.out.name k hlt
          have hjk : j - k = n := by have := HJ.out; omega
          have hck : cap - k = c2 := hc2.symm
          have hc2b : n ≤ c2 := by omega
          clear hc2
          have hcl : (j : Int) ≤ (cap : Int) := by omega
          have hkl : (k : Int) ≤ (j : Int) := by omega
          go_wp2_with fail
          refine wp_region_held_drew (S := fun w' => w'.cell? ⟨b, off + k * 2, none⟩ = some (.string (S k))) (by kernel_rfl) ?_ (fun hS => ?_)
          · exact c0
          refine takeH_on 0 (v := ?_) rfl rfl (by kernel_rfl) (by kernel_rfl) (by kernel_rfl) (fun _ _ _ h => h) (by rfl) hS (fun w hSw => ?_) ?_
          rotate_left
          · ((try dsimp only at hSw); go_simp; try with_reducible rfl)
          simp only [List.setIfInBounds_toArray, List.set_cons_zero, List.set_cons_succ]
          refine takeH_on 1 (v := ?_) rfl rfl (by kernel_rfl) (by kernel_rfl) (by kernel_rfl) (fun _ _ _ h => h) (by rfl) hS (fun w hSw => ?_) ?_
          rotate_left
          · ((try dsimp only at hSw); go_simp; try with_reducible rfl)
          simp only [List.setIfInBounds_toArray, List.set_cons_zero, List.set_cons_succ]
          refine takeH_on 2 (v := ?_) rfl rfl (by kernel_rfl) (by kernel_rfl) (by kernel_rfl) (fun _ _ _ h => h) (by rfl) hS (fun w hSw => ?_) ?_
          rotate_left
          · ((try dsimp only at hSw); go_simp; try with_reducible rfl)
          simp only [List.setIfInBounds_toArray, List.set_cons_zero, List.set_cons_succ]
          refine takeH_on 3 (v := ?_) rfl rfl (by kernel_rfl) (by kernel_rfl) (by kernel_rfl) (fun _ _ _ h => h) (by rfl) hS (fun w hSw => ?_) ?_
          rotate_left
          · ((try dsimp only at hSw); go_simp; try with_reducible rfl)
          simp only [List.setIfInBounds_toArray, List.set_cons_zero, List.set_cons_succ]
          refine takeH_on 4 (v := ?_) rfl rfl (by kernel_rfl) (by kernel_rfl) (by kernel_rfl) (fun _ _ _ h => h) (by rfl) hS (fun w hSw => ?_) ?_
          rotate_left
          · ((try dsimp only at hSw); go_simp; try with_reducible rfl)
          simp only [List.setIfInBounds_toArray, List.set_cons_zero, List.set_cons_succ]
          refine takeH_on 5 (v := ?_) rfl rfl (by kernel_rfl) (by kernel_rfl) (by kernel_rfl) (fun _ _ _ h => h) (by rfl) hS (fun w hSw => ?_) ?_
          rotate_left
          · ((try dsimp only at hSw); go_simp; try with_reducible rfl)
          simp only [List.setIfInBounds_toArray, List.set_cons_zero, List.set_cons_succ]
          refine takeH_on 6 (v := .string a1) rfl rfl (by kernel_rfl) (by kernel_rfl) (by kernel_rfl) (fun _ _ _ h => h) (by rfl) hS (fun w hSw => ?_) ?_
          · ((try dsimp only at hSw); go_simp; try with_reducible rfl)
          simp only [List.setIfInBounds_toArray, List.set_cons_zero, List.set_cons_succ]
          refine takeH_on 7 (v := .string a2) rfl rfl (by kernel_rfl) (by kernel_rfl) (by kernel_rfl) (fun _ _ _ h => h) (by rfl) hS (fun w hSw => ?_) ?_
          · ((try dsimp only at hSw); go_simp; try with_reducible rfl)
          simp only [List.setIfInBounds_toArray, List.set_cons_zero, List.set_cons_succ]
          refine takeH_on 8 (v := ?_) rfl rfl (by kernel_rfl) (by kernel_rfl) (by kernel_rfl) (fun _ _ _ h => h) (by rfl) hS (fun w hSw => ?_) ?_
          rotate_left
          · ((try dsimp only at hSw); go_simp; try with_reducible rfl)
          simp only [List.setIfInBounds_toArray, List.set_cons_zero, List.set_cons_succ]
          refine takeH_on 9 (v := ?_) rfl rfl (by kernel_rfl) (by kernel_rfl) (by kernel_rfl) (fun _ _ _ h => h) (by rfl) hS (fun w hSw => ?_) ?_
          rotate_left
          · ((try dsimp only at hSw); go_simp; try with_reducible rfl)
          simp only [List.setIfInBounds_toArray, List.set_cons_zero, List.set_cons_succ]
          refine takeH_on 10 (v := ?_) rfl rfl (by kernel_rfl) (by kernel_rfl) (by kernel_rfl) (fun _ _ _ h => h) (by rfl) hS (fun w hSw => ?_) ?_
          rotate_left
          · ((try dsimp only at hSw); go_simp; try with_reducible rfl)
          simp only [List.setIfInBounds_toArray, List.set_cons_zero, List.set_cons_succ]
          refine takeH_on 11 (v := ?_) rfl rfl (by kernel_rfl) (by kernel_rfl) (by kernel_rfl) (fun _ _ _ h => h) (by rfl) hS (fun w hSw => ?_) ?_
          rotate_left
          · ((try dsimp only at hSw); go_simp; try with_reducible rfl)
          simp only [List.setIfInBounds_toArray, List.set_cons_zero, List.set_cons_succ]
          refine takeH_on 12 (v := .int .i64 (j : Int)) rfl rfl (by kernel_rfl) (by kernel_rfl) (by kernel_rfl) (fun _ _ _ h => h) (by rfl) hS (fun w hSw => ?_) ?_
          · ((try dsimp only at hSw); go_simp; try with_reducible rfl)
          simp only [List.setIfInBounds_toArray, List.set_cons_zero, List.set_cons_succ]
          refine takeH_on 13 (v := .slice (some ⟨b, off + k * 2, none⟩) n c2) rfl rfl (by kernel_rfl) (by kernel_rfl) (by kernel_rfl) (fun _ _ _ h => h) (by rfl) hS (fun w hSw => ?_) ?_
          · ((try dsimp only at hSw); go_simp; try (intro hh; omega))
          simp only [List.setIfInBounds_toArray, List.set_cons_zero, List.set_cons_succ]
          refine wpAnyH_ready (rs := [14]) (by kernel_rfl) (by simp) (AllReadyH.cons rfl (fun K hK => ?_) AllReadyH.nil)
          clear hS
          go_simp
          go_wp2_with fail
          refine (CN.out _ HR1.out.drew).mono ?_
          rintro e w2 ⟨rfl, hb2⟩
          have HB2 : Hid (Below w.heap.size w w2) := HB1.out.drew.trans (hb2.mono HB1.out.size)
          have c9 : w2.cell? ⟨b, off + k * 2, none⟩ = some (.string (S k)) := by rw [hb2.cell (p := ⟨b, off + k * 2, none⟩) HR1.out.old]; exact c0
          clear hb2 CN
          refine Shut.out hK _ _ c9 (fun hS => ?_)
          clear hK K
          refine takeH_on 15 (v := .string a3) rfl rfl (by kernel_rfl) (by kernel_rfl) (by kernel_rfl) (fun _ _ _ h => h) (by rfl) hS (fun w hSw => ?_) ?_
          · ((try dsimp only at hSw); go_simp; try with_reducible rfl)
          simp only [List.setIfInBounds_toArray, List.set_cons_zero, List.set_cons_succ]
          refine takeH_on 16 (v := .string a4) rfl rfl (by kernel_rfl) (by kernel_rfl) (by kernel_rfl) (fun _ _ _ h => h) (by rfl) hS (fun w hSw => ?_) ?_
          · ((try dsimp only at hSw); go_simp; try with_reducible rfl)
          simp only [List.setIfInBounds_toArray, List.set_cons_zero, List.set_cons_succ]
          refine takeH_on 17 (v := ?_) rfl rfl (by kernel_rfl) (by kernel_rfl) (by kernel_rfl) (fun _ _ _ h => h) (by rfl) hS (fun w hSw => ?_) ?_
          rotate_left
          · ((try dsimp only at hSw); go_simp; try with_reducible rfl)
          simp only [List.setIfInBounds_toArray, List.set_cons_zero, List.set_cons_succ]
          refine wpAnyH_done (by kernel_rfl) ?_ _
          go_wp2
          go_roundw
          case rel => exact ⟨HB2.out, a4, j, by omega, rfl, by go_num, HE.out⟩
          case measure => simp [intOf]; omega
    · have HE : Hid (o = mkS (foldL S M 0 len)) := by
        have h := HI.out
        unfold tailF at h
        rw [if_neg hlt] at h
        refine mkS_of ?_
        rw [← h]; simp
      have hg : ¬ (k : Int) < (len : Int) := by omega
      go_wp2
      go_ret
      exact ⟨by rw [HE.out]; rfl, HB.out⟩

end Go.Proofs.YtahhjhhnjpbocaaDoor
