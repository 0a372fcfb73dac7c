/- DERIVED. The walk of the model's range of numbers: l1Range. -/
import Derived.Test.YtahhjhhnjpbocabDoorOpenCut
import Derived.Test.YtahhjhhnjpbocabDoorNumWalks
import Derived.Test.YtahhjhhnjpbocabDoorGetSpec
namespace Go.Proofs.YtahhjhhnjpbocabDoor
open Go.RowKit

theorem cell_new2 (w : World) (u u2 : Value) (e : TypeId) : ∀ (j : Nat) x, [u, u2][j]? = some x → (w.alloc (.cells #[u, u2] e)).cell? ((⟨w.heap.size, 0, none⟩ : Addr).add j) = some x := by
  intro j x hj
  match j, hj with
  | 0, hj => simp at hj; subst hj; simp [Addr.add]
  | 1, hj => simp at hj; subst hj; simp [Addr.add]
  | n + 2, hj => simp at hj

/-- What a range leaves: a row of hosts, all else as it was. -/
def HostsOut (base : Nat) (w : World) (out : Hs) (e : Ending) (w' : World) : Prop :=
  ∃ v, e = .returned v ∧ w'.ownsRow base 41 2 v out.length (hcells out) ∧ Below base w w' ∧ KeepT 41 w w'

theorem range_yes (nm : ByteArray) (f : Nat) (n hi : Int) (o T : Hs) (hf : 31 - o.length ≤ f) (h1 : n ≤ hi) (h2 : o.length ≤ 30) (h3 : n ≤ 999) (hT : T = rangeL nm f n hi o) : ∃ g, 31 - (o ++ [(nm, n)]).length ≤ g ∧ T = rangeL nm g (n + 1) hi (o ++ [(nm, n)]) := by
  obtain ⟨g, rfl⟩ : ∃ g, f = g + 1 := ⟨f - 1, by omega⟩
  refine ⟨g, by simp; omega, ?_⟩
  rw [hT, rangeL, if_pos ⟨h1, h2, h3⟩]

set_option maxRecDepth 100000 in
set_option maxHeartbeats 1600000 in
theorem range_core (nm t : ByteArray) (v : Value) (out : Hs) (base : Nat) (w : World) (ht : t.size ≤ maxLen) (hl : out.length ≤ 1000) (hbase : base ≤ w.heap.size) (hown : w.ownsRow base 41 2 v out.length (hcells out)) :
    Calls Tryd.prog 39 #[.string nm, .string t, v] w fun e w' => HostsOut base w (rangeOf nm t.data.toList out) e w' := by
  obtain ⟨i0, hi, hz0, hz1, hz2⟩ := info_parts infoHost
  have hcut := fun W => cut_spec t 45 45 1 W ht rfl (by decide)
  obtain ⟨T, hT⟩ : ∃ T, T = rangeOf nm t.data.toList out := ⟨_, rfl⟩
  rw [← hT]
  have HOWN := hid hown
  have HBASE := hid hbase
  clear hown hbase
  rcases cut1_cases 45 [] t.data.toList with ⟨a, ha⟩ | ⟨a, b, ha⟩
  · obtain ⟨lo, hlo⟩ : ∃ lo, lo = numOf a := ⟨_, rfl⟩
    obtain ⟨hj, hhj⟩ : ∃ hj, hj = lo := ⟨_, rfl⟩
    have hT2 : T = rangeL nm (31 - out.length) lo hj out := by rw [hT, rangeOf, ha, hhj, hlo]
    have hsa : (mkB a).size ≤ maxLen := by
      have := cut_size 45 1 [] t.data.toList a (by rw [ha]; simp)
      rw [mkB_size]; simp at this; exact Nat.le_trans this ht
    have CN : Hid (∀ W, Calls Tryd.prog 60 #[.string (mkB a)] W fun e w' => e = .returned (.int .i64 lo) ∧ w' = W) := fun W => l1Num_val (mkB a) lo W hsa (by rw [mkB_list]; exact hlo)
    have hbd := numOf_bd a
    rw [← hlo] at hbd
    simp only [ha, List.length_cons, List.length_nil, List.map_cons, List.map_nil] at hcut
    have HC := hid hcut
    have HT := hid hT2
    have HH := hid hhj
    clear hcut ha hT hlo hT2 hsa ht hhj
    go_enter Tryd.func39, Tryd.ntmps39
    go_wp2_with fail
    refine (HC.out _).mono ?_
    rintro e w1 ⟨v1, rfl, hrow1, hb1⟩
    obtain ⟨g, cp, rfl, hbg, hg, hcp, hcm, hcell⟩ := srow_cells hrow1 (by decide)
    have c0 : w1.cell? ⟨g, 0, none⟩ = some (.string (mkB a)) := hcell 0 _ rfl
    have HB1 := hid hb1
    have HOWN1 := hid (row_ownBelow HOWN.out hb1)
    have HK1 : Hid (KeepT 41 w w1) := KeepT.below hb1
    clear hcell hrow1 hb1 HC
    go_wp2_with fail
    refine (CN.out _).mono ?_
    rintro e w2 ⟨rfl, rfl⟩
    rw [← HH.out]
    rw [← HH.out] at HT hbd
    go_wp2
    go_loopw [2, 10] (fun v i wr => Below base w wr ∧ KeepT 41 w wr ∧ ∃ (n : Int) (o : Hs) (f : Nat), i = .int .i64 n ∧ -1 ≤ n ∧ n ≤ 999999 ∧ o.length ≤ 1000 ∧ wr.ownsRow base 41 2 v o.length (hcells o) ∧ 31 - o.length ≤ f ∧ T = rangeL nm f n hj o) (fun _ i _ => (1000 - intOf i).toNat)
    case atStart => exact ⟨HB1.out.mono HBASE.out, HK1.out, hj, out, 31 - out.length, rfl, by omega, by omega, hl, HOWN1.out, Nat.le_refl _, HT.out⟩
    case round =>
      obtain ⟨hB, hKT, n, o, f, rfl, hn1, hn2, hol, hown, hf, hr⟩ := hrel
      have HB := hid hB
      have HKT := hid hKT
      have HF := hid hf
      have HRR := hid hr
      have HS : Hid (base ≤ wr.heap.size) := Nat.le_trans HBASE.out hB.size
      clear hr hB hKT hf
      obtain ⟨oa, cp2, rfl⟩ := row_shape hown
      have HOWN2 := hid hown
      by_cases h1 : n ≤ hj
      · by_cases h2 : (o.length : Int) ≤ 30
        · by_cases h3 : n ≤ 999
          · have HY := hid (range_yes nm f n hj o T HF.out h1 (by omega) h3 HRR.out)
            go_wp2_with (at_builtin; refine wpList_append_own _ rfl _ _ 24 rfl base 41 i0 (.agg #[.string ⟨#[]⟩, .int .i64 0]) 2 24 Tryd.underlying24 hi hz0 hz1 hz2 rfl (by decide) _ _ _ rfl (hown.alloc _) ⟨wr.heap.size, 0, none⟩ 1 1 [.string nm, .int .i64 n] rfl rfl (cell_new2 _ _ _ _) (by simp [Value.oneCell']) (by unfold maxLen; omega) (by omega) (by have := HS.out; simp; omega) ?_)
            intro v' w3 hown' hgrow _
            have HB3 : Hid (Below base w w3) := (HB.out.alloc HS.out _).trans (below_grown (hown.alloc _) (by have := HS.out; simp; omega) hgrow)
            have HK3 : Hid (KeepT 41 w w3) := HKT.out.trans ((KeepT.below ((Below.refl _ _).alloc (Nat.le_refl _) _)).trans (KeepT.grown (hown.alloc _) hgrow))
            have HOWN' := hid hown'
            clear hown' hgrow hown
            go_wp2
            go_roundw
            case rel =>
              obtain ⟨g', hg1, hg2⟩ := HY.out
              refine ⟨HB3.out, HK3.out, n + 1, o ++ [(nm, n)], g', by go_num, by omega, by omega, by simp; omega, ?_, hg1, hg2⟩
              have := HOWN'.out
              rw [hcells_append]
              simpa [hcells] using this
            case measure => simp [intOf]; omega
          · have HE := hid (range_stop nm f n hj o (fun c => h3 c.2.2))
            clear hown
            go_wp2
            refine bodyPost_ret (v := _) (by simp [results, Tryd.results39, go_sem]; rfl) rfl ?_
            exact ⟨_, rfl, by rw [HRR.out, HE.out]; exact HOWN2.out, HB.out, HKT.out⟩
        · have HE := hid (range_stop nm f n hj o (fun c => h2 (by omega)))
          clear hown
          go_wp2
          refine bodyPost_ret (v := _) (by simp [results, Tryd.results39, go_sem]; rfl) rfl ?_
          exact ⟨_, rfl, by rw [HRR.out, HE.out]; exact HOWN2.out, HB.out, HKT.out⟩
      · have HE := hid (range_stop nm f n hj o (fun c => h1 c.1))
        clear hown
        go_wp2
        refine bodyPost_ret (v := _) (by simp [results, Tryd.results39, go_sem]; rfl) rfl ?_
        exact ⟨_, rfl, by rw [HRR.out, HE.out]; exact HOWN2.out, HB.out, HKT.out⟩
  · obtain ⟨lo, hlo⟩ : ∃ lo, lo = numOf a := ⟨_, rfl⟩
    obtain ⟨hj, hhj⟩ : ∃ hj, hj = numOf b := ⟨_, rfl⟩
    have hT2 : T = rangeL nm (31 - out.length) lo hj out := by rw [hT, rangeOf, ha, hlo, hhj]
    have hsb : (mkB b).size ≤ maxLen := by
      have := cut_size 45 1 [] t.data.toList b (by rw [ha]; simp)
      rw [mkB_size]; simp at this; exact Nat.le_trans this ht
    have CM : Hid (∀ W, Calls Tryd.prog 60 #[.string (mkB b)] W fun e w' => e = .returned (.int .i64 hj) ∧ w' = W) := fun W => l1Num_val (mkB b) hj W hsb (by rw [mkB_list]; exact hhj)
    have hsa : (mkB a).size ≤ maxLen := by
      have := cut_size 45 1 [] t.data.toList a (by rw [ha]; simp)
      rw [mkB_size]; simp at this; exact Nat.le_trans this ht
    have CN : Hid (∀ W, Calls Tryd.prog 60 #[.string (mkB a)] W fun e w' => e = .returned (.int .i64 lo) ∧ w' = W) := fun W => l1Num_val (mkB a) lo W hsa (by rw [mkB_list]; exact hlo)
    have hbd := numOf_bd a
    rw [← hlo] at hbd
    simp only [ha, List.length_cons, List.length_nil, List.map_cons, List.map_nil] at hcut
    have HC := hid hcut
    have HT := hid hT2
    have HH := hid hhj
    clear hcut ha hT hlo hT2 hsa ht hhj hsb
    go_enter Tryd.func39, Tryd.ntmps39
    go_wp2_with fail
    refine (HC.out _).mono ?_
    rintro e w1 ⟨v1, rfl, hrow1, hb1⟩
    obtain ⟨g, cp, rfl, hbg, hg, hcp, hcm, hcell⟩ := srow_cells hrow1 (by decide)
    have c0 : w1.cell? ⟨g, 0, none⟩ = some (.string (mkB a)) := hcell 0 _ rfl
    have c1 : w1.cell? ⟨g, 1, none⟩ = some (.string (mkB b)) := hcell 1 _ rfl
    have HB1 := hid hb1
    have HOWN1 := hid (row_ownBelow HOWN.out hb1)
    have HK1 : Hid (KeepT 41 w w1) := KeepT.below hb1
    clear hcell hrow1 hb1 HC
    go_wp2_with fail
    refine (CN.out _).mono ?_
    rintro e w2 ⟨rfl, rfl⟩
    go_wp2_with fail
    refine (CM.out _).mono ?_
    rintro e w2 ⟨rfl, rfl⟩
    go_wp2
    go_loopw [2, 10] (fun v i wr => Below base w wr ∧ KeepT 41 w wr ∧ ∃ (n : Int) (o : Hs) (f : Nat), i = .int .i64 n ∧ -1 ≤ n ∧ n ≤ 999999 ∧ o.length ≤ 1000 ∧ wr.ownsRow base 41 2 v o.length (hcells o) ∧ 31 - o.length ≤ f ∧ T = rangeL nm f n hj o) (fun _ i _ => (1000 - intOf i).toNat)
    case atStart => exact ⟨HB1.out.mono HBASE.out, HK1.out, lo, out, 31 - out.length, rfl, by omega, by omega, hl, HOWN1.out, Nat.le_refl _, HT.out⟩
    case round =>
      obtain ⟨hB, hKT, n, o, f, rfl, hn1, hn2, hol, hown, hf, hr⟩ := hrel
      have HB := hid hB
      have HKT := hid hKT
      have HF := hid hf
      have HRR := hid hr
      have HS : Hid (base ≤ wr.heap.size) := Nat.le_trans HBASE.out hB.size
      clear hr hB hKT hf
      obtain ⟨oa, cp2, rfl⟩ := row_shape hown
      have HOWN2 := hid hown
      by_cases h1 : n ≤ hj
      · by_cases h2 : (o.length : Int) ≤ 30
        · by_cases h3 : n ≤ 999
          · have HY := hid (range_yes nm f n hj o T HF.out h1 (by omega) h3 HRR.out)
            go_wp2_with (at_builtin; refine wpList_append_own _ rfl _ _ 24 rfl base 41 i0 (.agg #[.string ⟨#[]⟩, .int .i64 0]) 2 24 Tryd.underlying24 hi hz0 hz1 hz2 rfl (by decide) _ _ _ rfl (hown.alloc _) ⟨wr.heap.size, 0, none⟩ 1 1 [.string nm, .int .i64 n] rfl rfl (cell_new2 _ _ _ _) (by simp [Value.oneCell']) (by unfold maxLen; omega) (by omega) (by have := HS.out; simp; omega) ?_)
            intro v' w3 hown' hgrow _
            have HB3 : Hid (Below base w w3) := (HB.out.alloc HS.out _).trans (below_grown (hown.alloc _) (by have := HS.out; simp; omega) hgrow)
            have HK3 : Hid (KeepT 41 w w3) := HKT.out.trans ((KeepT.below ((Below.refl _ _).alloc (Nat.le_refl _) _)).trans (KeepT.grown (hown.alloc _) hgrow))
            have HOWN' := hid hown'
            clear hown' hgrow hown
            go_wp2
            go_roundw
            case rel =>
              obtain ⟨g', hg1, hg2⟩ := HY.out
              refine ⟨HB3.out, HK3.out, n + 1, o ++ [(nm, n)], g', by go_num, by omega, by omega, by simp; omega, ?_, hg1, hg2⟩
              have := HOWN'.out
              rw [hcells_append]
              simpa [hcells] using this
            case measure => simp [intOf]; omega
          · have HE := hid (range_stop nm f n hj o (fun c => h3 c.2.2))
            clear hown
            go_wp2
            refine bodyPost_ret (v := _) (by simp [results, Tryd.results39, go_sem]; rfl) rfl ?_
            exact ⟨_, rfl, by rw [HRR.out, HE.out]; exact HOWN2.out, HB.out, HKT.out⟩
        · have HE := hid (range_stop nm f n hj o (fun c => h2 (by omega)))
          clear hown
          go_wp2
          refine bodyPost_ret (v := _) (by simp [results, Tryd.results39, go_sem]; rfl) rfl ?_
          exact ⟨_, rfl, by rw [HRR.out, HE.out]; exact HOWN2.out, HB.out, HKT.out⟩
      · have HE := hid (range_stop nm f n hj o (fun c => h1 c.1))
        clear hown
        go_wp2
        refine bodyPost_ret (v := _) (by simp [results, Tryd.results39, go_sem]; rfl) rfl ?_
        exact ⟨_, rfl, by rw [HRR.out, HE.out]; exact HOWN2.out, HB.out, HKT.out⟩

end Go.Proofs.YtahhjhhnjpbocabDoor
