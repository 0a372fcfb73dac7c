/- DERIVED. The model's reader of entries: l9ListGet. -/
import Derived.Test.YtcielnlhopjijabDoorSpecVotes
import Derived.Test.YtcielnlhopjijabDoorGetMsg
namespace Go.Proofs.YtcielnlhopjijabDoor
open Go.RowKit

/-- An entry as the model reads it. -/
def mEnt (l : List UInt8) : Ent := if (cutL 58 2 [] l).length = 3 then (numOf ((cutL 58 2 [] l).getD 0 []), numOf ((cutL 58 2 [] l).getD 1 []), mVotes ((cutL 58 2 [] l).getD 2 [])) else (numOf ((cutL 58 2 [] l).getD 0 []), 0, [])

def mList (l : List UInt8) : List Ent := if l = [45] then [] else (cutL 59 12 [] l).map mEnt

theorem rowPut {base R : Nat} {e : TypeId} {size n : Nat} {v : Value} {xs : List Value} {w : World} (h : w.ownsRow base e size v n xs) (hn : ∀ g, v.ownBlock = some g → g ≠ R) (o : Nat) (x : Value) : (w.setCell ⟨R, o, none⟩ x).ownsRow base e size v n xs := by
  refine ⟨h.1, ?_⟩
  rcases h.2 with h2 | ⟨g, cap, cur, e1, hb, hg, h3⟩
  · exact Or.inl h2
  · refine Or.inr ⟨g, cap, cur, e1, hb, ?_, h3⟩
    rw [Below.heap_setCell _ _ _ _ (hn g (by rw [e1]; rfl))]
    exact hg

theorem rowT {w : World} {base : Nat} {e t : TypeId} {size n g : Nat} {v : Value} {xs : List Value} {cur : Array Value} {fz : Nat × Nat} (h : w.ownsRow base e size v n xs) (hg : w.heap[g]? = some (.cells cur t fz)) (hne : e ≠ t) (j : Nat) (u : Value) : (w.setCell ⟨g, j, none⟩ u).ownsRow base e size v n xs := by
  refine ⟨h.1, ?_⟩
  rcases h.2 with h0 | ⟨g', cap, c2, e1, e2, hb, e3⟩
  · exact Or.inl h0
  · refine Or.inr ⟨g', cap, c2, e1, e2, set_other hb g j u ?_, e3⟩
    intro c
    subst c
    rw [hb] at hg
    injection hg with hg
    injection hg with _ h2 _
    exact hne h2

theorem ecT {w : World} {base g : Nat} {t : TypeId} {L : List Ent} {xs : List Value} {cur : Array Value} {fz : Nat × Nat} (h : ECells base w L xs) (hg : w.heap[g]? = some (.cells cur t fz)) (hne : (3 : TypeId) ≠ t) (j : Nat) (u : Value) : ECells base (w.setCell ⟨g, j, none⟩ u) L xs := by
  refine h.kept (fun b cur2 fz2 hb hh => set_other hh g j u ?_)
  intro c
  subst c
  rw [hh] at hg
  injection hg with hg
  injection hg with _ h2 _
  exact hne h2

theorem neStrEnt : (9 : TypeId) ≠ 71 := by decide
theorem neIntEnt' : (3 : TypeId) ≠ 71 := by decide

theorem neEntStr : (71 : TypeId) ≠ 9 := by decide

set_option maxRecDepth 100000 in
set_option maxHeartbeats 3200000 in
theorem listGet_any (s : ByteArray) (w : World) (hs : s.size ≤ 1000) :
    Calls Tryd.prog 23 #[.string s] w fun e w' => (∃ v : Value, e = .returned v ∧ ∃ xs : List Value, w'.ownsRow w.heap.size 71 3 v (mList s.data.toList).length xs ∧ ECells w.heap.size w' (mList s.data.toList) xs) ∧ Below w.heap.size w w' := by
  by_cases hd : s.data.toList = [45]
  · have hdb : (s.toList == [45]) = true := by rw [ByteArray.toList_eq, hd]; rfl
    have hm : mList s.data.toList = [] := by unfold mList; rw [if_pos hd]
    rw [hm]
    clear hd hm
    go_enter Tryd.func23, Tryd.ntmps23
    go_wp2
    go_ret
    exact ⟨⟨_, rfl, [], rowNil _ _ _ _, ⟨rfl, fun i hi => absurd hi (Nat.not_lt_zero _)⟩⟩, Below.refl _ _⟩
  have hdb : (s.toList == [45]) = false := by
    rw [ByteArray.toList_eq]
    cases hq : (s.data.toList == [45]) with
    | false => rfl
    | true => exact absurd (by simpa using hq) hd
  obtain ⟨i0, hi, hz0, hz1, hz2⟩ := info_parts infoEnt
  obtain ⟨R, hR⟩ : ∃ R, R = cutL 59 12 [] s.data.toList := ⟨_, rfl⟩
  obtain ⟨U, hU⟩ : ∃ U, U = mList s.data.toList := ⟨_, rfl⟩
  rw [← hU]
  have HU : Hid (U = R.map mEnt) := by show _ = _; rw [hU, hR]; unfold mList; rw [if_neg hd]
  have hR1 : 1 ≤ R.length := by rw [hR]; exact cutL_pos _ _ _ _
  have hR4 : R.length ≤ 13 := by rw [hR]; exact cutL_most _ _ _ _
  have HRS : Hid (∀ x ∈ R, x.length ≤ 1000) := fun x hx => by
    rw [hR] at hx
    have := cutL_small _ _ _ _ x hx
    simp at this
    omega
  have CC : Hid (∀ W, Calls Tryd.prog 20 #[.string s, .int .u8 59, .int .i64 12] W fun e w' => ∃ v, e = .returned v ∧ w'.ownsRow W.heap.size 9 1 v R.length (R.map strV) ∧ Below W.heap.size W w') := fun W => by
    have h := cut_spec s 59 59 12 W (by unfold maxLen; omega) rfl (by decide)
    rw [← hR] at h
    exact h
  clear hR hU hd
  go_enter Tryd.func23, Tryd.ntmps23
  go_wp2_with fail
  obtain ⟨w1, hw1⟩ : ∃ w1, w1 = w.alloc (.cells #[] 71) := ⟨_, rfl⟩
  rw [← hw1]
  have HB1 : Hid (Below w.heap.size w w1) := by rw [hw1]; exact (Below.refl _ _).alloc (Nat.le_refl _) _
  have HO1 : Hid (w1.ownsRow w.heap.size 71 3 (.slice (some ⟨w.heap.size, 0, none⟩) 0 0) 0 []) := by rw [hw1]; exact World.ownsRow_made w #[] 0 (Nat.le_refl _) (by decide) rfl
  clear hw1
  refine (CC.out w1).mono ?_
  rintro e w2 ⟨v2, rfl, hrow, hb⟩
  obtain ⟨g, cp, rfl, hbg, hg, hcp, hcm, _⟩ := srow_cells hrow hR1
  have HB2 := hid (HB1.out.trans (hb.mono HB1.out.size))
  have HO2 := hid (row_below HO1.out hb)
  have HROW := hid hrow
  have HS1 : Hid (w.heap.size ≤ w1.heap.size) := HB1.out.size
  clear hrow hb HO1 hcp hcm hbg hg
  go_wp2
  go_loopw [3, 5] (fun v i wr => Below w.heap.size w wr ∧ ∃ (k : Nat) (P : List Ent) (xs : List Value), k ≤ R.length ∧ i = .int .i64 k ∧ P.length = k ∧ wr.ownsRow w.heap.size 71 3 v P.length xs ∧ ECells w.heap.size wr P xs ∧ wr.ownsRow w1.heap.size 9 1 (.slice (some ⟨g, 0, none⟩) R.length cp) R.length (R.map strV) ∧ U = P ++ (R.drop k).map mEnt) (fun _ i _ => R.length - (intOf i).toNat)
  case atStart => exact ⟨HB2.out, 0, [], [], Nat.zero_le _, rfl, rfl, HO2.out, ⟨rfl, fun i hi => absurd hi (Nat.not_lt_zero _)⟩, HROW.out, by rw [HU.out]; simp⟩
  case round =>
    obtain ⟨hB, k, P, xs, hk, rfl, hP, hown, hec, hrows, hr⟩ := hrel
    have HB := hid hB
    have HS := hid hr
    have HP := hid hP
    have HOWN := hid hown
    have HEC := hid hec
    have HROWS := hid hrows
    obtain ⟨ov, cv, rfl⟩ := rv_shape hown
    clear hB hr hP hown hrows hec
    by_cases hlt : k < R.length
    · have hltI : (k : Int) < (R.length : Int) := by omega
      obtain ⟨y, hy⟩ : ∃ y, y = mkB R[k] := ⟨_, rfl⟩
      have cy : wr.cell? ⟨g, k, none⟩ = some (.string y) := by
        have := HROWS.out.cells (g := g) rfl k (.string y) (by rw [List.getElem?_map, List.getElem?_eq_getElem hlt, hy]; rfl)
        rw [Go.WideShapes.add_plain, Nat.zero_add] at this
        exact this
      have hys : y.size ≤ 1000 := by rw [hy, mkB_size]; exact HRS.out _ (List.getElem_mem hlt)
      obtain ⟨X, hX⟩ : ∃ X, X = cutL 58 2 [] R[k] := ⟨_, rfl⟩
      have hX1 : 1 ≤ X.length := by rw [hX]; exact cutL_pos _ _ _ _
      have hX3 : X.length ≤ 3 := by rw [hX]; exact cutL_most _ _ _ _
      have HXS : Hid (∀ x ∈ X, x.length ≤ 1000) := fun x hx => by
        rw [hX] at hx
        have := cutL_small _ _ _ _ x hx
        have h2 := HRS.out _ (List.getElem_mem hlt)
        simp at this
        omega
      have C2 : Hid (∀ W, Calls Tryd.prog 20 #[.string y, .int .u8 58, .int .i64 2] W fun e w' => ∃ v, e = .returned v ∧ w'.ownsRow W.heap.size 9 1 v X.length (X.map strV) ∧ Below W.heap.size W w') := fun W => by
        have h := cut_spec y 58 58 2 W (by unfold maxLen; omega) rfl (by decide)
        rw [hy, mkB_list, ← hX] at h
        rw [hy]
        exact h
      have HNX : Hid (U = (P ++ [if X.length = 3 then (numOf (X.getD 0 []), numOf (X.getD 1 []), mVotes (X.getD 2 [])) else (numOf (X.getD 0 []), 0, [])]) ++ (R.drop (k + 1)).map mEnt) := by
        show U = _
        rw [HS.out, List.drop_eq_getElem_cons hlt, List.map_cons, List.append_assoc, hX]
        rfl
      clear hy hX
      go_wp2_with fail
      refine (C2.out _).mono ?_
      rintro e w3 ⟨v3, rfl, hrow, hb⟩
      obtain ⟨g3, cp3, rfl, hbg3, hg3, _, _, hcell⟩ := srow_cells hrow hX1
      have HB3 := hid (HB.out.trans (hb.mono HB.out.size))
      have HO3 := hid (row_below HOWN.out hb)
      have HE3 := hid (HEC.out.kept (fun b cur fz hbb hh => kept_below hb b cur fz hbb hh))
      have HRW3 := hid (row_below HROWS.out hb)
      have x0 : w3.cell? ⟨g3, 0, none⟩ = some (.string (mkB X[0])) := hcell 0 _ (by rw [List.getElem?_map, List.getElem?_eq_getElem (by omega)]; rfl)
      have HCELL := hid hcell
      have CN : Hid (∀ (j : Nat) (hj : j < X.length) W, Calls Tryd.prog 21 #[.string (mkB X[j])] W fun e w' => e = .returned (.int .i64 (numOf X[j])) ∧ w' = W) := fun j hj W => by
        have := l1Num_any (mkB X[j]) W (by rw [mkB_size]; unfold maxLen; have := HXS.out _ (List.getElem_mem hj); omega)
        rw [mkB_list] at this
        exact this
      clear hrow hb hcell
      go_wp2_with fail
      refine (CN.out 0 (by omega) _).mono ?_
      rintro e w4 ⟨rfl, rfl⟩
      by_cases h3 : X.length = 3
      · have h3I : (X.length : Int) = 3 := by omega
        have x1 : w4.cell? ⟨g3, 1, none⟩ = some (.string (mkB X[1])) := HCELL.out 1 _ (by rw [List.getElem?_map, List.getElem?_eq_getElem (by omega)]; rfl)
        have x2 : w4.cell? ⟨g3, 2, none⟩ = some (.string (mkB X[2])) := HCELL.out 2 _ (by rw [List.getElem?_map, List.getElem?_eq_getElem (by omega)]; rfl)
        obtain ⟨n0, hn0⟩ : ∃ n0, n0 = numOf X[0] := ⟨_, rfl⟩
        obtain ⟨n1, hn1⟩ : ∃ n1, n1 = numOf X[1] := ⟨_, rfl⟩
        obtain ⟨A2, hA2⟩ : ∃ A2, A2 = mVotes X[2] := ⟨_, rfl⟩
        have HNX3 : Hid (U = (P ++ [(n0, n1, A2)]) ++ (R.drop (k + 1)).map mEnt) := by
          have h := HNX.out
          rw [if_pos h3] at h
          show U = _
          rw [h, hn0, hn1, hA2]
          simp [List.getD_eq_getElem?_getD, List.getElem?_eq_getElem (show 0 < X.length by omega), List.getElem?_eq_getElem (show 1 < X.length by omega), List.getElem?_eq_getElem (show 2 < X.length by omega)]
        have C1 := CN.out 1 (by omega)
        have CV : Hid (∀ W, Calls Tryd.prog 22 #[.string (mkB X[2])] W fun e w' => (∃ v : Value, e = .returned v ∧ w'.ownsRow W.heap.size 3 1 v A2.length (A2.map (Value.int .i64))) ∧ Below W.heap.size W w') := fun W => by
          have := votesGet_any (mkB X[2]) W (by rw [mkB_size]; exact HXS.out _ (List.getElem_mem (by omega)))
          rw [mkB_list, ← hA2] at this
          exact this
        rw [← hn1] at C1
        have HC1 := hid C1
        rw [← hn0]
        have hA4 : A2.length ≤ 4 := by
          rw [hA2]; unfold mVotes; split
          · simp
          · have := cutL_most 44 3 [] X[2]; simp; omega
        clear hn0 hn1 hA2 C1 HNX
        have hgE : ∀ q, (Value.slice ov P.length cv).ownBlock = some q → q ≠ w4.heap.size := fun q hq => Nat.ne_of_lt (HO3.out.lt q hq).2
        go_wp2_with fail
        obtain ⟨w5, hw5⟩ : ∃ w5, w5 = w4.alloc (.cells #[.int .i64 n0, .int .i64 0, .slice none 0 0] 71) := ⟨_, rfl⟩
        have hal : Below w4.heap.size w4 w5 := by rw [hw5]; exact (Below.refl _ _).alloc (Nat.le_refl _) _
        have hm5 : w5.heap[w4.heap.size]? = some (.cells #[.int .i64 n0, .int .i64 0, .slice none 0 0] 71 (0, 0)) := by rw [hw5]; exact alloc_new _ _
        have HB5 := hid (HB3.out.trans (hal.mono HB3.out.size))
        have HO5 := hid (row_below HO3.out hal)
        have HE5 := hid (HE3.out.kept (fun b cur fz hbb hh => kept_below hal b cur fz hbb hh))
        have HRW5 := hid (row_below HRW3.out hal)
        have y2 : w5.cell? ⟨g3, 2, none⟩ = some (.string (mkB X[2])) := by rw [hal.cell (p := ⟨g3, 2, none⟩) hg3]; exact x2
        have ne1 : ¬ g3 = w4.heap.size := by omega
        have ne2 : ¬ w4.heap.size = g3 := by omega
        have HWE : Hid (w.heap.size ≤ w4.heap.size) := HB3.out.size
        rw [← hw5]
        clear hal hw5 x0 x1 x2
        refine (HC1.out _).mono ?_
        rintro e w6 ⟨rfl, rfl⟩
        have c1 : w6.cell? ⟨w4.heap.size, 1, none⟩ = some (.int .i64 0) := by rw [in_block hm5 1]; rfl
        have f1 : w6.frozen? ⟨w4.heap.size, 1, none⟩ = false := free_block hm5 1
        go_wp2_with fail
        obtain ⟨w7, hw7⟩ : ∃ w7, w7 = w6.setCell ⟨w4.heap.size, 1, none⟩ (.int .i64 n1) := ⟨_, rfl⟩
        rw [← hw7]
        have hm7 : w7.heap[w4.heap.size]? = some (.cells #[.int .i64 n0, .int .i64 n1, .slice none 0 0] 71 (0, 0)) := by rw [hw7]; exact set_block _ w4.heap.size 1 _ _ _ hm5
        have HB7 : Hid (Below w.heap.size w w7) := by rw [hw7]; exact HB5.out.setCell (p := ⟨w4.heap.size, 1, none⟩) HWE.out _
        have HO7 : Hid (w7.ownsRow w.heap.size 71 3 (.slice ov P.length cv) P.length xs) := by rw [hw7]; exact rowPut HO5.out hgE 1 _
        have HE7 : Hid (ECells w.heap.size w7 P xs) := by rw [hw7]; exact ecT HE5.out hm5 neIntEnt' 1 _
        have HRW7 : Hid (w7.ownsRow w1.heap.size 9 1 (.slice (some ⟨g, 0, none⟩) R.length cp) R.length (R.map strV)) := by rw [hw7]; exact rowT HRW5.out hm5 neStrEnt 1 _
        clear hw7 c1 f1 y2 hm5
        refine (CV.out w7).mono ?_
        rintro e w8 ⟨⟨v8, rfl, hrv⟩, hb⟩
        obtain ⟨ovv, cvv, rfl⟩ := rv_shape hrv
        have hm8 : w8.heap[w4.heap.size]? = some (.cells #[.int .i64 n0, .int .i64 n1, .slice none 0 0] 71 (0, 0)) := by rw [hb.block _ (Array.getElem?_eq_some_iff.1 hm7).1]; exact hm7
        have HB8 := hid (HB7.out.trans (hb.mono HB7.out.size))
        have HO8 := hid (row_below HO7.out hb)
        have HE8 := hid (HE7.out.kept (fun b cur fz hbb hh => kept_below hb b cur fz hbb hh))
        have HRW8 := hid (row_below HRW7.out hb)
        have HNI : Hid (NumsIn w.heap.size w8 ovv A2) := (NumsIn.of_row hrv).base HB7.out.size
        have d0 : w8.cell? ⟨w4.heap.size, 0, none⟩ = some (.int .i64 n0) := by rw [in_block hm8 0]; rfl
        have d1 : w8.cell? ⟨w4.heap.size, 1, none⟩ = some (.int .i64 n1) := by rw [in_block hm8 1]; rfl
        have d2 : w8.cell? ⟨w4.heap.size, 2, none⟩ = some (.slice none 0 0) := by rw [in_block hm8 2]; rfl
        have f2 : w8.frozen? ⟨w4.heap.size, 2, none⟩ = false := free_block hm8 2
        have hpl : P.length ≤ 13 := by have := HP.out; omega
        have hown := rowPut HO8.out hgE 2 (.slice ovv A2.length cvv)
        have hc3 : ∀ j u, [Value.int .i64 n0, .int .i64 n1, .slice ovv A2.length cvv][j]? = some u → ((w8.setCell ⟨w4.heap.size, 2, none⟩ (.slice ovv A2.length cvv)).alloc (.cells #[.int .i64 n0, .int .i64 n1, .slice ovv A2.length cvv] 71)).cell? ((⟨w8.heap.size, 0, none⟩ : Addr).add j) = some u := by
          have := cell_three (w8.setCell ⟨w4.heap.size, 2, none⟩ (.slice ovv A2.length cvv)) (.int .i64 n0) (.int .i64 n1) (.slice ovv A2.length cvv) 71
          rw [show (w8.setCell ⟨w4.heap.size, 2, none⟩ (.slice ovv A2.length cvv)).heap.size = w8.heap.size from by simp] at this
          exact this
        clear hrv hb hm7
        go_wp2_with (at_builtin; refine wpList_append_own _ rfl _ _ 23 rfl w.heap.size 71 i0 (.agg #[.int .i64 0, .int .i64 0, .slice none 0 0]) 3 40 Tryd.underlying23 hi hz0 hz1 hz2 rfl (by decide) _ _ _ rfl (hown.alloc _) ⟨w8.heap.size, 0, none⟩ 1 1 [.int .i64 n0, .int .i64 n1, .slice ovv A2.length cvv] rfl rfl hc3 (by simp [Value.oneCell']) (by unfold maxLen; omega) (by omega) (by have := HB8.out.size; simp; omega) ?_)
        intro v' w9 hown' hgrow _
        obtain ⟨wS, hwS⟩ : ∃ wS, wS = w8.setCell ⟨w4.heap.size, 2, none⟩ (.slice ovv A2.length cvv) := ⟨_, rfl⟩
        rw [← hwS] at hown hgrow hc3
        have HBS : Hid (Below w.heap.size w wS) := by rw [hwS]; exact HB8.out.setCell (p := ⟨w4.heap.size, 2, none⟩) HWE.out _
        have HES : Hid (ECells w.heap.size wS (P ++ [(n0, n1, A2)]) (xs ++ [.int .i64 n0, .int .i64 n1, .slice ovv A2.length cvv])) := by rw [hwS]; exact ecT (ECells.add HE8.out (by omega) HNI.out) hm8 neIntEnt' 2 _
        have HRS2 : Hid (wS.ownsRow w1.heap.size 9 1 (.slice (some ⟨g, 0, none⟩) R.length cp) R.length (R.map strV)) := by rw [hwS]; exact rowT HRW8.out hm8 neStrEnt 2 _
        have hal : Below wS.heap.size wS (wS.alloc (.cells #[.int .i64 n0, .int .i64 n1, .slice ovv A2.length cvv] 71)) := (Below.refl _ _).alloc (Nat.le_refl _) _
        have HB9 : Hid (Below w.heap.size w w9) := (HBS.out.trans (hal.mono HBS.out.size)).trans (below_grown (hown.alloc _) (by have := HBS.out.size; simp; omega) hgrow)
        have HR9 := hid (rg_other (hown.alloc _) hgrow (row_below HRS2.out hal) neEntStr)
        have HE9 : Hid (ECells w.heap.size w9 (P ++ [(n0, n1, A2)]) (xs ++ [.int .i64 n0, .int .i64 n1, .slice ovv A2.length cvv])) :=
          (HES.out.kept (fun b cur fz hbb hh => kept_below hal b cur fz hbb hh)).kept (fun b cur fz hbb hh => kept_grown (hown.alloc _) hgrow b cur fz hbb hh)
        have HO9 : Hid (w9.ownsRow w.heap.size 71 3 v' (P ++ [(n0, n1, A2)]).length (xs ++ [.int .i64 n0, .int .i64 n1, .slice ovv A2.length cvv])) := by
          show w9.ownsRow _ _ _ _ _ _
          rw [List.length_append]
          exact hown'
        have HPL : Hid ((P ++ [(n0, n1, A2)]).length = k + 1) := by show _ = _; rw [List.length_append, HP.out]; rfl
        clear hown hown' hgrow hal hc3 hwS d0 d1 d2 f2 hm8
        go_wp2
        go_roundw
        case rel => exact ⟨HB9.out, k + 1, P ++ [(n0, n1, A2)], _, by omega, by go_num, HPL.out, HO9.out, HE9.out, HR9.out, HNX3.out⟩
        case measure => simp [intOf]; omega
      · have h3I : ¬ (X.length : Int) = 3 := by omega
        have h3b : ((X.length : Int) == 3) = false := by rw [beq_eq_false_iff_ne]; exact h3I
        obtain ⟨n0, hn0⟩ : ∃ n0, n0 = numOf X[0] := ⟨_, rfl⟩
        have HNX3 : Hid (U = (P ++ [(n0, 0, [])]) ++ (R.drop (k + 1)).map mEnt) := by
          have h := HNX.out
          rw [if_neg h3] at h
          show U = _
          rw [h, hn0]
          simp [List.getD_eq_getElem?_getD, List.getElem?_eq_getElem (show 0 < X.length by omega)]
        rw [← hn0]
        have hpl : P.length ≤ 13 := by have := HP.out; omega
        have hal : Below w4.heap.size w4 (w4.alloc (.cells #[.int .i64 n0, .int .i64 0, .slice none 0 0] 71)) := (Below.refl _ _).alloc (Nat.le_refl _) _
        have hown := row_below HO3.out hal
        have hc3 : ∀ j u, [Value.int .i64 n0, .int .i64 0, .slice none 0 0][j]? = some u → ((w4.alloc (.cells #[.int .i64 n0, .int .i64 0, .slice none 0 0] 71)).alloc (.cells #[.int .i64 n0, .int .i64 0, .slice none 0 0] 71)).cell? ((⟨w4.heap.size + 1, 0, none⟩ : Addr).add j) = some u := by
          have := cell_three (w4.alloc (.cells #[.int .i64 n0, .int .i64 0, .slice none 0 0] 71)) (.int .i64 n0) (.int .i64 0) (.slice none 0 0) 71
          rw [show (w4.alloc (.cells #[.int .i64 n0, .int .i64 0, .slice none 0 0] 71)).heap.size = w4.heap.size + 1 from by simp] at this
          exact this
        clear hn0 HNX
        go_wp2_with (at_builtin; refine wpList_append_own _ rfl _ _ 23 rfl w.heap.size 71 i0 (.agg #[.int .i64 0, .int .i64 0, .slice none 0 0]) 3 40 Tryd.underlying23 hi hz0 hz1 hz2 rfl (by decide) _ _ _ rfl (hown.alloc _) ⟨w4.heap.size + 1, 0, none⟩ 1 1 [.int .i64 n0, .int .i64 0, .slice none 0 0] rfl rfl hc3 (by simp [Value.oneCell']) (by unfold maxLen; omega) (by omega) (by have := HB3.out.size; simp; omega) ?_)
        intro v' w7 hown' hgrow _
        have hal2 : Below w4.heap.size w4 ((w4.alloc (.cells #[.int .i64 n0, .int .i64 0, .slice none 0 0] 71)).alloc (.cells #[.int .i64 n0, .int .i64 0, .slice none 0 0] 71)) := hal.trans ((Below.refl _ _).alloc (by simp) _)
        have HB7 : Hid (Below w.heap.size w w7) := (HB3.out.trans (hal2.mono HB3.out.size)).trans (below_grown (hown.alloc _) (by have := HB3.out.size; simp; omega) hgrow)
        have HR7 := hid (rg_other (hown.alloc _) hgrow (row_below HRW3.out hal2) neEntStr)
        have HE7 : Hid (ECells w.heap.size w7 (P ++ [(n0, 0, [])]) (xs ++ [.int .i64 n0, .int .i64 0, .slice none 0 0])) :=
          ((ECells.add (V := []) (ov := none) (cv := 0) HE3.out (by simp) (fun i hi => absurd hi (Nat.not_lt_zero _))).kept (fun b cur fz hbb hh => kept_below hal2 b cur fz hbb hh)).kept (fun b cur fz hbb hh => kept_grown (hown.alloc _) hgrow b cur fz hbb hh)
        have HO7 : Hid (w7.ownsRow w.heap.size 71 3 v' (P ++ [(n0, (0 : Int), ([] : List Int))]).length (xs ++ [.int .i64 n0, .int .i64 0, .slice none 0 0])) := by
          show w7.ownsRow _ _ _ _ _ _
          rw [List.length_append]
          exact hown'
        have HPL : Hid ((P ++ [(n0, (0 : Int), ([] : List Int))]).length = k + 1) := by show _ = _; rw [List.length_append, HP.out]; rfl
        clear hown hown' hgrow hal hal2 hc3
        go_wp2
        go_roundw
        case rel => exact ⟨HB7.out, k + 1, P ++ [(n0, 0, [])], _, by omega, by go_num, HPL.out, HO7.out, HE7.out, HR7.out, HNX3.out⟩
        case measure => simp [intOf]; omega
    · have hltI : ¬ (k : Int) < (R.length : Int) := by omega
      have hkk : k = R.length := by omega
      have HUP : Hid (U = P) := by show U = P; rw [HS.out, hkk, List.drop_length]; simp
      clear hkk
      go_wp2
      go_ret
      exact ⟨⟨.slice ov P.length cv, rfl, xs, by rw [HUP.out]; exact HOWN.out, by rw [HUP.out]; exact HEC.out⟩, HB.out⟩

end Go.Proofs.YtcielnlhopjijabDoor
