/- DERIVED. The model's reader of votes: l9VotesGet. -/
import Derived.Test.YtcielnlhopjijabDoorCutSpec
import Derived.Test.YtcielnlhopjijabDoorNumWalks
import Derived.Test.YtcielnlhopjijabDoorVoteRows
namespace Go.Proofs.YtcielnlhopjijabDoor
open Go.RowKit

/-- A vote as the model reads it. -/
def mNum (l : List UInt8) : Int := if l ≠ [45, 49] ∧ numOf l < 0 then -2 else numOf l

def mVotes (l : List UInt8) : List Int := if l = [45] then [] else (cutL 44 3 [] l).map mNum

theorem cutL_pos (b : UInt8) : ∀ m cur t, 1 ≤ (cutL b m cur t).length := by
  intro m cur t
  induction t generalizing m cur with
  | nil => simp [cutL]
  | cons z t ih =>
    cases m with
    | zero => simp [cutL]
    | succ m =>
      rw [cutL]
      split
      · simp
      · exact ih _ _

theorem cutL_most (b : UInt8) : ∀ m cur t, (cutL b m cur t).length ≤ m + 1 := by
  intro m cur t
  induction t generalizing m cur with
  | nil => simp [cutL]
  | cons z t ih =>
    cases m with
    | zero => simp [cutL]
    | succ m =>
      rw [cutL]
      split
      · have := ih m []; simp; omega
      · exact ih _ _

theorem cutL_small (b : UInt8) : ∀ m cur t, ∀ x ∈ cutL b m cur t, x.length ≤ cur.length + t.length := by
  intro m cur t
  induction t generalizing m cur with
  | nil => intro x hx; simp [cutL] at hx; subst hx; simp
  | cons z t ih =>
    intro x hx
    cases m with
    | zero => simp [cutL] at hx; subst hx; simp
    | succ m =>
      rw [cutL] at hx
      split at hx
      · rcases List.mem_cons.1 hx with rfl | hx
        · simp
        · have := ih m [] x hx; simp at this ⊢; omega
      · have := ih (m + 1) (cur ++ [z]) x hx; simp at this ⊢; omega

/-- Another block than that of a row of another type. -/
theorem gr_other {w w' : World} {bs e' size n g : Nat} {v : Value} {ys : List Value} {cur : Array Value} {t : TypeId} {fz : Nat × Nat} (h : w.ownsRow bs e' size v n ys) (gr : w.grownBy w' v.ownBlock) (hb : w.heap[g]? = some (.cells cur t fz)) (hne : e' ≠ t) : w'.heap[g]? = some (.cells cur t fz) := by
  rw [gr.block g (Array.getElem?_eq_some_iff.1 hb).1 ?_]
  · exact hb
  · intro c
    rcases h.2 with ⟨e1, _⟩ | ⟨g', cap, cur', e1, _, hg', _⟩
    · rw [e1] at c; cases c
    · rw [e1] at c
      injection c with c
      subst c
      rw [hg'] at hb
      injection hb with hb
      injection hb with _ h2 _
      exact hne h2

theorem rg_other {w w' : World} {bs b2 e' e2 size n size2 n2 : Nat} {v v2 : Value} {ys zs : List Value} (h : w.ownsRow bs e' size v n ys) (gr : w.grownBy w' v.ownBlock) (h2 : w.ownsRow b2 e2 size2 v2 n2 zs) (hne : e' ≠ e2) : w'.ownsRow b2 e2 size2 v2 n2 zs := by
  refine ⟨h2.1, ?_⟩
  rcases h2.2 with h0 | ⟨g', cap, cur, e1, e3, hb, e4⟩
  · exact Or.inl h0
  · exact Or.inr ⟨g', cap, cur, e1, e3, gr_other h gr hb hne, e4⟩

theorem rowNil (w : World) (base : Nat) (e : TypeId) (size : Nat) : w.ownsRow base e size (.slice none 0 0) 0 [] := ⟨by simp, Or.inl ⟨rfl, rfl⟩⟩

theorem infoI : (Tryd.prog.info? 3).map (fun i => (i.zero, i.size, i.bytes)) = some (some (.int .i64 0), 1, 8) := by kernel_rfl

theorem rv_shape {base : Nat} {e : TypeId} {size n : Nat} {v : Value} {xs : List Value} {w : World} (h : w.ownsRow base e size v n xs) : ∃ oa cp, v = .slice oa n cp := by
  rcases h.2 with ⟨e1, e2⟩ | ⟨g, cap, cur, e1, _⟩
  · subst e2; exact ⟨_, _, e1⟩
  · exact ⟨_, _, e1⟩

theorem neIntStr : (3 : TypeId) ≠ 9 := by decide

set_option maxRecDepth 100000 in
set_option maxHeartbeats 1600000 in
theorem votesGet_any (s : ByteArray) (w : World) (hs : s.size ≤ 1000) :
    Calls Tryd.prog 22 #[.string s] w fun e w' => (∃ v : Value, e = .returned v ∧ w'.ownsRow w.heap.size 3 1 v (mVotes s.data.toList).length ((mVotes s.data.toList).map (Value.int .i64))) ∧ Below w.heap.size w w' := by
  by_cases hd : s.data.toList = [45]
  · have hdb : (s.toList == [45]) = true := by rw [ByteArray.toList_eq, hd]; rfl
    have hm : mVotes s.data.toList = [] := by unfold mVotes; rw [if_pos hd]
    rw [hm]
    clear hd hm
    go_enter Tryd.func22, Tryd.ntmps22
    go_wp2
    go_ret
    exact ⟨⟨_, rfl, rowNil _ _ _ _⟩, Below.refl _ _⟩
  have hdb : (s.toList == [45]) = false := by
    rw [ByteArray.toList_eq]
    cases hq : (s.data.toList == [45]) with
    | false => rfl
    | true => exact absurd (by simpa using hq) hd
  obtain ⟨i0, hi, hz0, hz1, hz2⟩ := info_parts infoI
  obtain ⟨R, hR⟩ : ∃ R, R = cutL 44 3 [] s.data.toList := ⟨_, rfl⟩
  obtain ⟨U, hU⟩ : ∃ U, U = mVotes s.data.toList := ⟨_, rfl⟩
  rw [← hU]
  have HU : Hid (U = R.map mNum) := by show _ = _; rw [hU, hR]; unfold mVotes; rw [if_neg hd]
  have hR1 : 1 ≤ R.length := by rw [hR]; exact cutL_pos _ _ _ _
  have hR4 : R.length ≤ 4 := by rw [hR]; exact cutL_most _ _ _ _
  have HRS : Hid (∀ x ∈ R, x.length ≤ 1000) := fun x hx => by
    rw [hR] at hx
    have := cutL_small _ _ _ _ x hx
    simp at this
    omega
  have CC : Hid (∀ W, Calls Tryd.prog 20 #[.string s, .int .u8 44, .int .i64 3] W fun e w' => ∃ v, e = .returned v ∧ w'.ownsRow W.heap.size 9 1 v R.length (R.map strV) ∧ Below W.heap.size W w') := fun W => by
    have h := cut_spec s 44 44 3 W (by unfold maxLen; omega) rfl (by decide)
    rw [← hR] at h
    exact h
  clear hR hU hd
  go_enter Tryd.func22, Tryd.ntmps22
  go_wp2_with fail
  obtain ⟨w1, hw1⟩ : ∃ w1, w1 = w.alloc (.cells #[] 3) := ⟨_, rfl⟩
  rw [← hw1]
  have HB1 : Hid (Below w.heap.size w w1) := by rw [hw1]; exact (Below.refl _ _).alloc (Nat.le_refl _) _
  have HO1 : Hid (w1.ownsRow w.heap.size 3 1 (.slice (some ⟨w.heap.size, 0, none⟩) 0 0) 0 []) := by rw [hw1]; exact World.ownsRow_made w #[] 0 (Nat.le_refl _) (by decide) rfl
  clear hw1
  refine (CC.out w1).mono ?_
  rintro e w2 ⟨v2, rfl, hrow, hb⟩
  obtain ⟨g, cp, rfl, hbg, hg, hcp, hcm, _⟩ := srow_cells hrow hR1
  have HB2 := hid (HB1.out.trans (hb.mono HB1.out.size))
  have HO2 := hid (row_below HO1.out hb)
  have HROW := hid hrow
  clear hrow hb HO1
  go_wp2
  go_loopw [3, 5] (fun v i wr => Below w.heap.size w wr ∧ ∃ (k : Nat) (P : List Int), k ≤ R.length ∧ i = .int .i64 k ∧ P.length = k ∧ wr.ownsRow w.heap.size 3 1 v P.length (P.map (Value.int .i64)) ∧ wr.ownsRow w1.heap.size 9 1 (.slice (some ⟨g, 0, none⟩) R.length cp) R.length (R.map strV) ∧ U = P ++ (R.drop k).map mNum) (fun _ i _ => R.length - (intOf i).toNat)
  case atStart => exact ⟨HB2.out, 0, [], Nat.zero_le _, rfl, rfl, HO2.out, HROW.out, by rw [HU.out]; simp⟩
  case round =>
    obtain ⟨hB, k, P, hk, rfl, hP, hown, hrows, hr⟩ := hrel
    have HB := hid hB
    have HS := hid hr
    have HP := hid hP
    have HOWN := hid hown
    have HROWS := hid hrows
    obtain ⟨ov, cv, rfl⟩ := rv_shape hown
    clear hB hr hP hown hrows
    by_cases hlt : k < R.length
    · have hltI : (k : Int) < (R.length : Int) := by omega
      obtain ⟨y, hy⟩ : ∃ y, y = mkB R[k] := ⟨_, rfl⟩
      have cy : wr.cell? ⟨g, k, none⟩ = some (.string y) := by
        have := HROWS.out.cells (g := g) rfl k (.string y) (by rw [List.getElem?_map, List.getElem?_eq_getElem hlt, hy]; rfl)
        rw [Go.WideShapes.add_plain, Nat.zero_add] at this
        exact this
      have hys : y.size ≤ 1000 := by rw [hy, mkB_size]; exact HRS.out _ (List.getElem_mem hlt)
      have CN : Hid (∀ w, Calls Tryd.prog 21 #[.string y] w fun e w' => e = .returned (.int .i64 (numOf R[k])) ∧ w' = w) := fun w => by
        have := l1Num_any y w (by unfold maxLen; omega)
        rw [hy, mkB_list] at this
        rw [hy]
        exact this
      have HNX : Hid (U = (P ++ [mNum R[k]]) ++ (R.drop (k + 1)).map mNum) := by
        show U = _
        rw [HS.out, List.drop_eq_getElem_cons hlt, List.map_cons, List.append_assoc]
        rfl
      have hm : mNum R[k] = if R[k] ≠ [45, 49] ∧ numOf R[k] < 0 then -2 else numOf R[k] := rfl
      have hyb : (y.toList == [45, 49]) = decide (R[k] = [45, 49]) := by
        rw [ByteArray.toList_eq, hy, mkB_list]
        by_cases hq : R[k] = [45, 49]
        · rw [hq]; rfl
        · rw [decide_eq_false hq]
          cases hq2 : (R[k] == [45, 49]) with
          | false => rfl
          | true => exact absurd (by simpa using hq2) hq
      obtain ⟨n, hn⟩ : ∃ n, n = numOf R[k] := ⟨_, rfl⟩
      obtain ⟨x, hx⟩ : ∃ x, x = mNum R[k] := ⟨_, rfl⟩
      obtain ⟨d, hdd⟩ : ∃ d, d = decide (R[k] = [45, 49]) := ⟨_, rfl⟩
      rw [← hdd] at hyb
      rw [← hn] at CN hm
      rw [← hx] at HNX hm
      have hm2 : x = if d = false ∧ n < 0 then -2 else n := by
        rw [hm, hdd]
        by_cases hq : R[k] = [45, 49]
        · simp [hq]
        · simp [hq]
      clear hm hdd hn hx hy
      go_wp2_with fail
      refine (CN.out _).mono ?_
      rintro e w3 ⟨rfl, rfl⟩
      cases d
      · by_cases hn0 : n < 0
        · rw [if_pos ⟨rfl, hn0⟩] at hm2
          subst hm2
          have hpl : P.length ≤ 4 := by have := HP.out; omega
          have hown := HOWN.out
          go_wp2_with (at_builtin; refine wpList_append_own _ rfl _ _ 22 rfl w.heap.size 3 i0 (.int .i64 0) 1 8 Tryd.underlying22 hi hz0 hz1 hz2 rfl (by decide) _ _ _ rfl (hown.alloc _) ⟨w3.heap.size, 0, none⟩ 1 1 [.int .i64 (-2)] rfl rfl (cell_new1 _ _ _) (by simp [Value.oneCell']) (by unfold maxLen; omega) (by omega) (by have := HB.out.size; simp; omega) ?_)
          intro v' w5 hown' hgrow _
          have hal : Below w3.heap.size w3 (w3.alloc (.cells #[.int .i64 (-2)] 3)) := (Below.refl _ _).alloc (Nat.le_refl _) _
          have HB5 : Hid (Below w.heap.size w w5) := (HB.out.alloc HB.out.size _).trans (below_grown (hown.alloc _) (by have := HB.out.size; simp; omega) hgrow)
          have HR5 := hid (rg_other (hown.alloc _) hgrow (row_below HROWS.out hal) neIntStr)
          have HO5 : Hid (w5.ownsRow w.heap.size 3 1 v' (P ++ [-2]).length ((P ++ [-2]).map (Value.int .i64))) := by
            show w5.ownsRow _ _ _ _ _ _
            rw [List.length_append, List.map_append]
            exact hown'
          have HPL : Hid ((P ++ [-2]).length = k + 1) := by show _ = _; rw [List.length_append, HP.out]; rfl
          clear hown hown' hgrow hal
          go_wp2
          go_roundw
          case rel => exact ⟨HB5.out, k + 1, P ++ [-2], by omega, by go_num, HPL.out, HO5.out, HR5.out, HNX.out⟩
          case measure => simp [intOf]; omega
        · rw [if_neg (fun h => hn0 h.2)] at hm2
          subst hm2
          have hpl : P.length ≤ 4 := by have := HP.out; omega
          have hown := HOWN.out
          go_wp2_with (at_builtin; refine wpList_append_own _ rfl _ _ 22 rfl w.heap.size 3 i0 (.int .i64 0) 1 8 Tryd.underlying22 hi hz0 hz1 hz2 rfl (by decide) _ _ _ rfl (hown.alloc _) ⟨w3.heap.size, 0, none⟩ 1 1 [.int .i64 (x)] rfl rfl (cell_new1 _ _ _) (by simp [Value.oneCell']) (by unfold maxLen; omega) (by omega) (by have := HB.out.size; simp; omega) ?_)
          intro v' w5 hown' hgrow _
          have hal : Below w3.heap.size w3 (w3.alloc (.cells #[.int .i64 (x)] 3)) := (Below.refl _ _).alloc (Nat.le_refl _) _
          have HB5 : Hid (Below w.heap.size w w5) := (HB.out.alloc HB.out.size _).trans (below_grown (hown.alloc _) (by have := HB.out.size; simp; omega) hgrow)
          have HR5 := hid (rg_other (hown.alloc _) hgrow (row_below HROWS.out hal) neIntStr)
          have HO5 : Hid (w5.ownsRow w.heap.size 3 1 v' (P ++ [x]).length ((P ++ [x]).map (Value.int .i64))) := by
            show w5.ownsRow _ _ _ _ _ _
            rw [List.length_append, List.map_append]
            exact hown'
          have HPL : Hid ((P ++ [x]).length = k + 1) := by show _ = _; rw [List.length_append, HP.out]; rfl
          clear hown hown' hgrow hal
          go_wp2
          go_roundw
          case rel => exact ⟨HB5.out, k + 1, P ++ [x], by omega, by go_num, HPL.out, HO5.out, HR5.out, HNX.out⟩
          case measure => simp [intOf]; omega
      · rw [if_neg (fun h => by cases h.1)] at hm2
        subst hm2
        have hpl : P.length ≤ 4 := by have := HP.out; omega
        have hown := HOWN.out
        go_wp2_with (at_builtin; refine wpList_append_own _ rfl _ _ 22 rfl w.heap.size 3 i0 (.int .i64 0) 1 8 Tryd.underlying22 hi hz0 hz1 hz2 rfl (by decide) _ _ _ rfl (hown.alloc _) ⟨w3.heap.size, 0, none⟩ 1 1 [.int .i64 (x)] rfl rfl (cell_new1 _ _ _) (by simp [Value.oneCell']) (by unfold maxLen; omega) (by omega) (by have := HB.out.size; simp; omega) ?_)
        intro v' w5 hown' hgrow _
        have hal : Below w3.heap.size w3 (w3.alloc (.cells #[.int .i64 (x)] 3)) := (Below.refl _ _).alloc (Nat.le_refl _) _
        have HB5 : Hid (Below w.heap.size w w5) := (HB.out.alloc HB.out.size _).trans (below_grown (hown.alloc _) (by have := HB.out.size; simp; omega) hgrow)
        have HR5 := hid (rg_other (hown.alloc _) hgrow (row_below HROWS.out hal) neIntStr)
        have HO5 : Hid (w5.ownsRow w.heap.size 3 1 v' (P ++ [x]).length ((P ++ [x]).map (Value.int .i64))) := by
          show w5.ownsRow _ _ _ _ _ _
          rw [List.length_append, List.map_append]
          exact hown'
        have HPL : Hid ((P ++ [x]).length = k + 1) := by show _ = _; rw [List.length_append, HP.out]; rfl
        clear hown hown' hgrow hal
        go_wp2
        go_roundw
        case rel => exact ⟨HB5.out, k + 1, P ++ [x], by omega, by go_num, HPL.out, HO5.out, HR5.out, HNX.out⟩
        case measure => simp [intOf]; omega
    · have hltI : ¬ (k : Int) < (R.length : Int) := by omega
      have hkk : k = R.length := by omega
      have HUP : Hid (U = P) := by show U = P; rw [HS.out, hkk, List.drop_length]; simp
      clear hkk
      go_wp2
      go_ret
      exact ⟨⟨.slice ov P.length cv, rfl, by rw [HUP.out]; exact HOWN.out⟩, HB.out⟩

end Go.Proofs.YtcielnlhopjijabDoor
