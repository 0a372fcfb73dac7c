/- DERIVED. The model's walk: the numbers of hosts of one name. -/
import Derived.Test.YtahhjhhnjpbocaaDoorFoldRun
import Derived.Test.YtahhjhhnjpbocaaDoorPut
namespace Go.Proofs.YtahhjhhnjpbocaaDoor
open Go.RowKit

theorem decS_l (u : Nat) : (decS u).data.toList = decL (u : Int) := by
  unfold decS decL; simp

set_option maxHeartbeats 2000000 in
theorem nums_spec (b off len cap : Nat) (S : Nat → ByteArray) (M : Nat → Int) (w : World) (hc : len ≤ cap) (hm : cap ≤ maxLen) (h30 : len ≤ 30) (R : RowAt w b off len S M)
    (hsame : ∀ i j, i < len → j < len → ((S i).toList == (S j).toList) = true) (hnum : ∀ i, i < len → 0 ≤ M i ∧ M i ≤ 999) :
    Calls Tryd.prog 37 #[.slice (some ⟨b, off, none⟩) len cap] w fun e w' => e = .returned (.string (mkS (numsL M 0 len))) ∧ Below w.heap.size w w' := by
  have hm' : cap ≤ 2 ^ 63 - 1 := hm
  have HS := hid hsame
  have HM := hid hnum
  clear hsame hnum
  have HTL : Hid ((numsL M 0 len).length ≤ 2002 * 30) := by
    have := numsL_len M 0 len (fun j _ h => (HM.out j h).2)
    show _ ≤ _; omega
  go_enter Tryd.func37, Tryd.ntmps37
  go_wp2
  go_loopw [3, 4] (fun s i w' => Below w.heap.size w w' ∧ ∃ (o : ByteArray) (k : Nat), k ≤ len ∧ s = .string o ∧ i = .int .i64 k ∧ o.data.toList ++ tailN M k len = numsL M 0 len) (fun _ i _ => len - (intOf i).toNat)
  case atStart =>
    refine ⟨Below.refl _ _, ⟨#[]⟩, 0, Nat.zero_le _, rfl, rfl, ?_⟩
    unfold tailN
    by_cases h : 0 < len
    · simp [h]
    · rw [numsL_eqn]; simp [h]
  case round =>
    obtain ⟨hB, o, k, hk, rfl, rfl, hi⟩ := hrel
    have HI := hid hi
    have HB := hid hB
    clear hi hB
    have HR : Hid (RowAt wr b off len S M) := R.below HB.out
    by_cases hlt : k < len
    · have hos : o.size ≤ 200000 := by
        have h1 := congrArg List.length HI.out
        have h2 := HTL.out
        rw [List.length_append] at h1
        have h3 : o.data.toList.length = o.size := by simp
        omega
      have hp := stretch_pos (nextP M) k len
      have hl := stretch_le (nextP M) k len hlt
      obtain ⟨n, hn⟩ : ∃ n, n = stretch (nextP M) k len := ⟨_, rfl⟩
      have CR : Hid (Calls Tryd.prog 55 #[.slice (some ⟨b, off, none⟩) len cap, .int .i64 k] wr fun e w' => e = .returned (.int .i64 n) ∧ Below wr.heap.size wr w') := by
        rw [hn]; exact run_spec b off len cap k S M wr hc hm hlt HR.out HS.out HM.out
      have HST : Hid (stretch (nextP M) k len = n) := hn.symm
      rw [← hn] at hp hl
      clear hn
      obtain ⟨j, hj⟩ : ∃ j, j = k + n := ⟨_, rfl⟩
      have HJ := hid hj
      have hadd : (k : Int) + (n : Int) = (j : Int) := by omega
      have hw : IntKind.i64.wrap (j : Int) = (j : Int) := by rw [IntKind.wrap_i64]; omega
      have hlj : j ≤ len := by omega
      have hkj : k < j := by omega
      clear hj
      obtain ⟨q, hq⟩ : ∃ q, q = j - 1 := ⟨_, rfl⟩
      have HQ := hid hq
      have hsub : (j : Int) - 1 = (q : Int) := by omega
      have hwq : IntKind.i64.wrap (q : Int) = (q : Int) := by rw [IntKind.wrap_i64]; omega
      have hql : q < len := by omega
      clear hq
      obtain ⟨u, hu⟩ : ∃ u : Nat, M k = (u : Int) := ⟨(M k).toNat, by have := HM.out k hlt; omega⟩
      obtain ⟨v, hv⟩ : ∃ v : Nat, M q = (v : Int) := ⟨(M q).toNat, by have := HM.out q hql; omega⟩
      have hub : u ≤ 999 := by have := HM.out k hlt; omega
      have hvb : v ≤ 999 := by have := HM.out q hql; omega
      obtain ⟨r, hr⟩ : ∃ r, r = decS u := ⟨_, rfl⟩
      obtain ⟨r2, hr2⟩ : ∃ r2, r2 = decS v := ⟨_, rfl⟩
      have hrs : r.size ≤ 1000 := by have := decS_size u; rw [hr]; omega
      have hrs2 : r2.size ≤ 1000 := by have := decS_size v; rw [hr2]; omega
      have HRL : Hid (r.data.toList = decL (M k)) := by show _ = _; rw [hr, decS_l, hu]
      have HRL2 : Hid (r2.data.toList = decL (M q)) := by show _ = _; rw [hr2, decS_l, hv]
      have CD : Hid (∀ w, Calls Tryd.prog 54 #[.int .i64 (u : Int)] w fun e w' => e = .returned (.string r) ∧ Below w.heap.size w w') := fun w => by rw [hr]; exact dec_any u w (by omega)
      have CD2 : Hid (∀ w, Calls Tryd.prog 54 #[.int .i64 (v : Int)] w fun e w' => e = .returned (.string r2) ∧ Below w.heap.size w w') := fun w => by rw [hr2]; exact dec_any v w (by omega)
      clear hr hr2
      have HU := hid hu
      have HV := hid hv
      clear hu hv
      by_cases hn1 : n = 1
      · have HN1 := hid hn1
        have h1n : ¬ (1 : Int) < (n : Int) := by omega
        clear hn1
        by_cases hk0 : k = 0
        · have HK0 := hid hk0
          have hk00 : ¬ (0 : Int) < (k : Int) := by omega
          clear hk0
          obtain ⟨o1, ho1⟩ : ∃ o1, o1 = o := ⟨_, rfl⟩
          have HO1 : Hid (o1.data.toList = o.data.toList ++ commaL k) := by show _ = _; rw [ho1, commaL, if_pos HK0.out]; simp
          have hs1 : o1.size ≤ 200000 := by rw [ho1]; omega
          rw [← ho1]
          clear ho1
          obtain ⟨o2, ho2⟩ : ∃ o2, o2 = o1 ++ r := ⟨_, rfl⟩
          have HO2 : Hid (o2.data.toList = o.data.toList ++ commaL k ++ decL (M k)) := by show _ = _; rw [ho2, cat_l, HO1.out, HRL.out]
          have hs2 : o2.size ≤ 201001 := by rw [ho2, ByteArray.size_append]; omega
          have hadd2 := fun W => run_string_add_sum (P := Tryd.prog) (w := W) o1 r (by omega)
          rw [← ho2] at hadd2
          clear ho2
          have HE : Hid (o2.data.toList ++ tailN M j len = numsL M 0 len) := by
            have := HI.out
            rw [tailN_step M k len hlt, HST.out, ← HJ.out] at this
            show _ = _
            rw [← this, HO2.out, runL, if_neg (by rw [HN1.out]; decide)]
            simp
          go_wp2_with fail
          refine CR.out.mono ?_
          rintro e w1 ⟨rfl, hb1⟩
          have HR1 : Hid (RowAt w1 b off len S M) := HR.out.below hb1
          have HB1 : Hid (Below w.heap.size w w1) := HB.out.trans (hb1.mono HB.out.size)
          clear hb1 CR
          have c1 := HR1.out.num k hlt
          rw [HU.out] at c1
          go_wp2_with fail
          refine (CD.out _).mono ?_
          rintro e w2 ⟨rfl, hb2⟩
          have HR2 : Hid (RowAt w2 b off len S M) := HR1.out.below hb2
          have HB2 : Hid (Below w.heap.size w w2) := HB1.out.trans (hb2.mono HB1.out.size)
          clear hb2 CD c1
          go_wp2
          go_roundw
          case rel => exact ⟨HB2.out, o2, j, by omega, rfl, by go_num, HE.out⟩
          case measure => simp [intOf]; omega
        · have HK0 := hid hk0
          have hk00 : (0 : Int) < (k : Int) := by omega
          clear hk0
          obtain ⟨o1, ho1⟩ : ∃ o1, o1 = o ++ ⟨#[44]⟩ := ⟨_, rfl⟩
          have HO1 : Hid (o1.data.toList = o.data.toList ++ commaL k) := by show _ = _; rw [ho1, cat_l, commaL, if_neg HK0.out]
          have hs1 : o1.size ≤ 200001 := by rw [ho1, ByteArray.size_append]; have : (ByteArray.mk #[44]).size = 1 := rfl; omega
          have hadd1 := fun W => run_string_add_sum (P := Tryd.prog) (w := W) o ⟨#[44]⟩ (by have : (ByteArray.mk #[44]).size = 1 := rfl; omega)
          rw [← ho1] at hadd1
          clear ho1
          obtain ⟨o2, ho2⟩ : ∃ o2, o2 = o1 ++ r := ⟨_, rfl⟩
          have HO2 : Hid (o2.data.toList = o.data.toList ++ commaL k ++ decL (M k)) := by show _ = _; rw [ho2, cat_l, HO1.out, HRL.out]
          have hs2 : o2.size ≤ 201001 := by rw [ho2, ByteArray.size_append]; omega
          have hadd2 := fun W => run_string_add_sum (P := Tryd.prog) (w := W) o1 r (by omega)
          rw [← ho2] at hadd2
          clear ho2
          have HE : Hid (o2.data.toList ++ tailN M j len = numsL M 0 len) := by
            have := HI.out
            rw [tailN_step M k len hlt, HST.out, ← HJ.out] at this
            show _ = _
            rw [← this, HO2.out, runL, if_neg (by rw [HN1.out]; decide)]
            simp
          go_wp2_with fail
          refine CR.out.mono ?_
          rintro e w1 ⟨rfl, hb1⟩
          have HR1 : Hid (RowAt w1 b off len S M) := HR.out.below hb1
          have HB1 : Hid (Below w.heap.size w w1) := HB.out.trans (hb1.mono HB.out.size)
          clear hb1 CR
          have c1 := HR1.out.num k hlt
          rw [HU.out] at c1
          go_wp2_with fail
          refine (CD.out _).mono ?_
          rintro e w2 ⟨rfl, hb2⟩
          have HR2 : Hid (RowAt w2 b off len S M) := HR1.out.below hb2
          have HB2 : Hid (Below w.heap.size w w2) := HB1.out.trans (hb2.mono HB1.out.size)
          clear hb2 CD c1
          go_wp2
          go_roundw
          case rel => exact ⟨HB2.out, o2, j, by omega, rfl, by go_num, HE.out⟩
          case measure => simp [intOf]; omega
      · have HN1 : Hid (1 < n) := by show 1 < n; omega
        have h1n : (1 : Int) < (n : Int) := by omega
        clear hn1
        by_cases hk0 : k = 0
        · have HK0 := hid hk0
          have hk00 : ¬ (0 : Int) < (k : Int) := by omega
          clear hk0
          obtain ⟨o1, ho1⟩ : ∃ o1, o1 = o := ⟨_, rfl⟩
          have HO1 : Hid (o1.data.toList = o.data.toList ++ commaL k) := by show _ = _; rw [ho1, commaL, if_pos HK0.out]; simp
          have hs1 : o1.size ≤ 200000 := by rw [ho1]; omega
          rw [← ho1]
          clear ho1
          obtain ⟨o2, ho2⟩ : ∃ o2, o2 = o1 ++ r := ⟨_, rfl⟩
          have HO2 : Hid (o2.data.toList = o.data.toList ++ commaL k ++ decL (M k)) := by show _ = _; rw [ho2, cat_l, HO1.out, HRL.out]
          have hs2 : o2.size ≤ 201001 := by rw [ho2, ByteArray.size_append]; omega
          have hadd2 := fun W => run_string_add_sum (P := Tryd.prog) (w := W) o1 r (by omega)
          rw [← ho2] at hadd2
          clear ho2
          obtain ⟨o3, ho3⟩ : ∃ o3, o3 = o2 ++ ⟨#[45]⟩ := ⟨_, rfl⟩
          have HO3 : Hid (o3.data.toList = o.data.toList ++ commaL k ++ decL (M k) ++ [45]) := by show _ = _; rw [ho3, cat_l, HO2.out]
          have hs3 : o3.size ≤ 201002 := by rw [ho3, ByteArray.size_append]; have : (ByteArray.mk #[45]).size = 1 := rfl; omega
          have hadd3 := fun W => run_string_add_sum (P := Tryd.prog) (w := W) o2 ⟨#[45]⟩ (by have : (ByteArray.mk #[45]).size = 1 := rfl; omega)
          rw [← ho3] at hadd3
          clear ho3
          obtain ⟨o4, ho4⟩ : ∃ o4, o4 = o3 ++ r2 := ⟨_, rfl⟩
          have HO4 : Hid (o4.data.toList = o.data.toList ++ commaL k ++ decL (M k) ++ [45] ++ decL (M q)) := by show _ = _; rw [ho4, cat_l, HO3.out, HRL2.out]
          have hadd4 := fun W => run_string_add_sum (P := Tryd.prog) (w := W) o3 r2 (by omega)
          rw [← ho4] at hadd4
          clear ho4
          have HE : Hid (o4.data.toList ++ tailN M j len = numsL M 0 len) := by
            have := HI.out
            rw [tailN_step M k len hlt, HST.out, ← HJ.out] at this
            show _ = _
            rw [← this, HO4.out, runL, if_pos HN1.out, ← HJ.out, ← HQ.out]
            simp
          go_wp2_with fail
          refine CR.out.mono ?_
          rintro e w1 ⟨rfl, hb1⟩
          have HR1 : Hid (RowAt w1 b off len S M) := HR.out.below hb1
          have HB1 : Hid (Below w.heap.size w w1) := HB.out.trans (hb1.mono HB.out.size)
          clear hb1 CR
          have c1 := HR1.out.num k hlt
          rw [HU.out] at c1
          go_wp2_with fail
          refine (CD.out _).mono ?_
          rintro e w2 ⟨rfl, hb2⟩
          have HR2 : Hid (RowAt w2 b off len S M) := HR1.out.below hb2
          have HB2 : Hid (Below w.heap.size w w2) := HB1.out.trans (hb2.mono HB1.out.size)
          clear hb2 CD c1
          have c2 := HR2.out.num q hql
          rw [HV.out] at c2
          go_wp2_with fail
          refine (CD2.out _).mono ?_
          rintro e w3 ⟨rfl, hb3⟩
          have HB3 : Hid (Below w.heap.size w w3) := HB2.out.trans (hb3.mono HB2.out.size)
          clear hb3 CD2 c2
          go_wp2
          go_roundw
          case rel => exact ⟨HB3.out, o4, j, by omega, rfl, by go_num, HE.out⟩
          case measure => simp [intOf]; omega
        · have HK0 := hid hk0
          have hk00 : (0 : Int) < (k : Int) := by omega
          clear hk0
          obtain ⟨o1, ho1⟩ : ∃ o1, o1 = o ++ ⟨#[44]⟩ := ⟨_, rfl⟩
          have HO1 : Hid (o1.data.toList = o.data.toList ++ commaL k) := by show _ = _; rw [ho1, cat_l, commaL, if_neg HK0.out]
          have hs1 : o1.size ≤ 200001 := by rw [ho1, ByteArray.size_append]; have : (ByteArray.mk #[44]).size = 1 := rfl; omega
          have hadd1 := fun W => run_string_add_sum (P := Tryd.prog) (w := W) o ⟨#[44]⟩ (by have : (ByteArray.mk #[44]).size = 1 := rfl; omega)
          rw [← ho1] at hadd1
          clear ho1
          obtain ⟨o2, ho2⟩ : ∃ o2, o2 = o1 ++ r := ⟨_, rfl⟩
          have HO2 : Hid (o2.data.toList = o.data.toList ++ commaL k ++ decL (M k)) := by show _ = _; rw [ho2, cat_l, HO1.out, HRL.out]
          have hs2 : o2.size ≤ 201001 := by rw [ho2, ByteArray.size_append]; omega
          have hadd2 := fun W => run_string_add_sum (P := Tryd.prog) (w := W) o1 r (by omega)
          rw [← ho2] at hadd2
          clear ho2
          obtain ⟨o3, ho3⟩ : ∃ o3, o3 = o2 ++ ⟨#[45]⟩ := ⟨_, rfl⟩
          have HO3 : Hid (o3.data.toList = o.data.toList ++ commaL k ++ decL (M k) ++ [45]) := by show _ = _; rw [ho3, cat_l, HO2.out]
          have hs3 : o3.size ≤ 201002 := by rw [ho3, ByteArray.size_append]; have : (ByteArray.mk #[45]).size = 1 := rfl; omega
          have hadd3 := fun W => run_string_add_sum (P := Tryd.prog) (w := W) o2 ⟨#[45]⟩ (by have : (ByteArray.mk #[45]).size = 1 := rfl; omega)
          rw [← ho3] at hadd3
          clear ho3
          obtain ⟨o4, ho4⟩ : ∃ o4, o4 = o3 ++ r2 := ⟨_, rfl⟩
          have HO4 : Hid (o4.data.toList = o.data.toList ++ commaL k ++ decL (M k) ++ [45] ++ decL (M q)) := by show _ = _; rw [ho4, cat_l, HO3.out, HRL2.out]
          have hadd4 := fun W => run_string_add_sum (P := Tryd.prog) (w := W) o3 r2 (by omega)
          rw [← ho4] at hadd4
          clear ho4
          have HE : Hid (o4.data.toList ++ tailN M j len = numsL M 0 len) := by
            have := HI.out
            rw [tailN_step M k len hlt, HST.out, ← HJ.out] at this
            show _ = _
            rw [← this, HO4.out, runL, if_pos HN1.out, ← HJ.out, ← HQ.out]
            simp
          go_wp2_with fail
          refine CR.out.mono ?_
          rintro e w1 ⟨rfl, hb1⟩
          have HR1 : Hid (RowAt w1 b off len S M) := HR.out.below hb1
          have HB1 : Hid (Below w.heap.size w w1) := HB.out.trans (hb1.mono HB.out.size)
          clear hb1 CR
          have c1 := HR1.out.num k hlt
          rw [HU.out] at c1
          go_wp2_with fail
          refine (CD.out _).mono ?_
          rintro e w2 ⟨rfl, hb2⟩
          have HR2 : Hid (RowAt w2 b off len S M) := HR1.out.below hb2
          have HB2 : Hid (Below w.heap.size w w2) := HB1.out.trans (hb2.mono HB1.out.size)
          clear hb2 CD c1
          have c2 := HR2.out.num q hql
          rw [HV.out] at c2
          go_wp2_with fail
          refine (CD2.out _).mono ?_
          rintro e w3 ⟨rfl, hb3⟩
          have HB3 : Hid (Below w.heap.size w w3) := HB2.out.trans (hb3.mono HB2.out.size)
          clear hb3 CD2 c2
          go_wp2
          go_roundw
          case rel => exact ⟨HB3.out, o4, j, by omega, rfl, by go_num, HE.out⟩
          case measure => simp [intOf]; omega
    · have HE : Hid (o = mkS (numsL M 0 len)) := by
        have h := HI.out
        unfold tailN at h
        rw [if_neg hlt] at h
        refine mkS_of ?_
        rw [← h]; simp
      have hg : ¬ (k : Int) < (len : Int) := by omega
      go_wp2
      go_ret
      exact ⟨by rw [HE.out]; rfl, HB.out⟩

end Go.Proofs.YtahhjhhnjpbocaaDoor
