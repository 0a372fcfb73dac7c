/- DERIVED. The walk of the law on HostsOpen. -/
import Derived.Test.YtahhjhhnjpbocadDoorOpenImpl
import Derived.Test.YtahhjhhnjpbocadDoorMark
namespace Go.Proofs.YtahhjhhnjpbocadDoor
open Go.RowKit

theorem openS_names (s : ByteArray) (o : Hs) (h : openS s = some o) : o.length ≤ 30 ∧ ∀ x ∈ o, x.1.size ≤ 400 := by
  unfold openS at h
  split at h
  · injection h with h; rw [← h]; simp
  · split at h
    · cases h
    · split at h
      · rename_i h1
        injection h with h
        rw [h] at h1
        obtain ⟨h30, hall⟩ := okH_each o h1.1
        refine ⟨h30, fun x hx => ?_⟩
        obtain ⟨i, hi, e⟩ := List.getElem_of_mem hx
        have := (okB_num (hall i hi)).1
        have e2 : Sof o i = x.1 := by rw [← e]; simp [Sof, List.getD, List.getElem?_eq_getElem hi]
        rw [e2] at this
        omega
      · cases h

theorem own_of_row {w : World} {base g cp n : Nat} {xs : List Value} (h : w.ownsRow base 35 2 (.slice (some ⟨g, 0, none⟩) n cp) n xs) : OwnAt w g n 0 markN markM := by
  have hlt := (h.lt g rfl).2
  rcases h.2 with ⟨e, _⟩ | ⟨g', cap, cur, e, _, hb, hkc, _, hcur, _⟩
  · cases e
  · injection e with e1 e2 e3
    injection e1 with e1
    injection e1 with e1
    subst e1
    constructor
    · exact hlt
    · intro j hj
      have : j < cur.size := by rw [hcur]; omega
      simp [World.cell?, hb, this]
    · intro j hj
      simp [World.frozen?, hb]
    · intro i hi; omega
    · intro i hi; omega

theorem rowAt_grown {w w' : World} {base b : Nat} {v : Value} {n : Nat} {xs : List Value} {g : Nat} (h : w.ownsRow base 35 2 v n xs) (hg : w.grownBy w' (some g)) (hne : ∀ k, v.ownBlock = some k → k < b) (hbg : b ≤ g) : w'.ownsRow base 35 2 v n xs := by
  refine h.kept hg ?_
  cases e : v.ownBlock with
  | none => exact Or.inl rfl
  | some k =>
    right
    intro c
    injection c with c
    have := hne k e
    omega

theorem markL_size (f k : Nat) (s : ByteArray) : (markL f k s).size ≤ s.size + f := by
  induction f generalizing k s with
  | zero => exact Nat.le_refl _
  | succ f ih =>
    rw [markL]
    split
    · omega
    · have h := ih (k / 10) (⟨#[UInt8.ofNat (48 + k % 10)]⟩ ++ s)
      have e : ((⟨#[UInt8.ofNat (48 + k % 10)]⟩ : ByteArray) ++ s).size = 1 + s.size := by rw [ByteArray.size_append]; rfl
      omega

theorem markN_small (n i : Nat) (hn : n ≤ 1000) (hi : i < n) : (markN i).size ≤ maxLen := by
  unfold markN markS
  have h := markL_size (2 * i + 1) (2 * i + 1) ⟨#[]⟩
  have e0 : (⟨#[]⟩ : ByteArray).size = 0 := rfl
  have e1 : (⟨#[109]⟩ : ByteArray).size = 1 := rfl
  rw [ByteArray.size_append, e1]
  unfold maxLen
  omega

set_option maxRecDepth 100000 in
set_option maxHeartbeats 1600000 in
theorem law_any (s : ByteArray) (w : World) (hs : s.size ≤ maxLen) (ht : Tab w) :
    Calls Tryd.prog 3 #[.string s] w fun e w' => e = .returned (.bool true) ∧ Below w.heap.size w w' := by
  have hs' : s.size ≤ 2 ^ 63 - 1 := hs
  by_cases hbig : (1048576 : Int) < (s.size : Int)
  · clear ht
    go_enter Tryd.func3, Tryd.ntmps3
    go_wp2
    go_ret
    exact ⟨rfl, Below.refl _ _⟩
  · obtain ⟨R, hR⟩ : ∃ R, R = openS s := ⟨_, rfl⟩
    have CS : Hid (∀ W, Calls Tryd.prog 4 #[.string s] W fun e w' => OpenOut R W e w') := fun W => by rw [hR]; exact open_spec s W hs
    have CI : Hid (∀ W, Tab W → Calls Tryd.prog 5 #[.string s] W fun e w' => OpenOut R W e w') := fun W h => by rw [hR, ← open_same]; exact open_impl s W hs h
    obtain ⟨o, ho⟩ : ∃ o, o = R.getD [] := ⟨_, rfl⟩
    have hN : o.length ≤ 30 ∧ ∀ x ∈ o, x.1.size ≤ 400 := by
      cases hr : R with
      | none => rw [ho, hr]; simp
      | some o' =>
        rw [ho, hr]
        exact openS_names s o' (by rw [← hR]; exact hr)
    obtain ⟨b, hb⟩ : ∃ b, b = R.isSome := ⟨_, rfl⟩
    have HO := hid ho
    have HBB := hid hb
    have hl30 := hN.1
    have HN := hid hN.2
    have HT := hid ht
    clear hR hN ho hb ht
    go_enter Tryd.func3, Tryd.ntmps3
    go_wp2_with fail
    refine (CS.out _).mono ?_
    rintro e w1 ⟨v0, rfl, hrow0, hb1⟩
    rw [← HO.out] at hrow0
    rw [← HBB.out]
    have HROW0 := hid hrow0
    have HB1 := hid hb1
    have HT1 := hid (HT.out.below hb1)
    clear hrow0 hb1
    go_wp2_with fail
    refine (CI.out _ HT1.out).mono ?_
    rintro e w2 ⟨v1, rfl, hrow1, hb2⟩
    rw [← HO.out] at hrow1
    rw [← HBB.out]
    have HROW1 := hid hrow1
    have HROW02 := hid (row_ownBelow HROW0.out hb2)
    have HB2 : Hid (Below w.heap.size w w2) := HB1.out.trans (hb2.mono HB1.out.size)
    have HS12 := hid hb2.size
    clear hrow1 hb2
    go_wp2_with fail
    refine (eqRow_same v1 v0 o _ _ _ HN.out (by omega) HROW1.out HROW02.out).mono ?_
    rintro e w3 ⟨rfl, hb3⟩
    have HROW03 := hid (row_ownBelow HROW02.out hb3)
    have HROW13 := hid (row_ownBelow HROW1.out hb3)
    have HB3 : Hid (Below w.heap.size w w3) := HB2.out.trans (hb3.mono HB2.out.size)
    have HS13 : Hid (w1.heap.size ≤ w3.heap.size) := Nat.le_trans HS12.out hb3.size
    clear hb3
    by_cases h0 : o.length = 0
    · have ho0 := h0
      obtain ⟨oa, cp, rfl⟩ := row_shape HROW13.out
      rw [h0]
      clear ho0
      cases b
      all_goals
        go_wp2_with fail
        refine (mark_zero oa cp _).mono ?_
        rintro e w4 ⟨rfl, rfl⟩
        go_wp2_with fail
        refine (held_zero oa cp _).mono ?_
        rintro e w4 ⟨rfl, rfl⟩
        go_wp2_with fail
        refine (CI.out _ (HT.out.below HB3.out)).mono ?_
        rintro e w6 ⟨v2, rfl, hrow2, hb6⟩
        rw [← HO.out] at hrow2
        rw [← HBB.out]
        have HROW2 := hid hrow2
        have HROW06 := hid (row_ownBelow HROW03.out hb6)
        have HB6 : Hid (Below w.heap.size w w6) := HB3.out.trans (hb6.mono HB3.out.size)
        clear hrow2 hb6
        go_wp2_with fail
        refine (eqRow_same v2 v0 o _ _ _ HN.out (by omega) HROW2.out HROW06.out).mono ?_
        rintro e w7 ⟨rfl, hb7⟩
        have HB7 : Hid (Below w.heap.size w w7) := HB6.out.trans (hb7.mono HB6.out.size)
        clear hb7
        go_wp2_with fail
        refine (held_zero oa cp _).mono ?_
        rintro e w8 ⟨rfl, rfl⟩
        go_wp2
        go_ret
        exact ⟨rfl, HB7.out⟩
    · obtain ⟨g, cp, rfl, hbg, hg, hcp, hcm, _⟩ := srow_cells HROW13.out (by omega)
      have hg3 : g < w3.heap.size := (HROW13.out.lt g rfl).2
      have HO3 := hid (own_of_row HROW13.out)
      have HNE : Hid (∀ k, v0.ownBlock = some k → k < w1.heap.size) := fun k hk => (HROW0.out.lt k hk).2
      obtain ⟨m, hm⟩ : ∃ m, m = 2 * o.length + 1 := ⟨_, rfl⟩
      have CMK : Hid (∀ W, OwnAt W g o.length 0 markN markM → Calls Tryd.prog 7 #[.slice (some ⟨g, 0, none⟩) o.length cp, .int .i64 1] W fun e w' => e = .returned (.int .i64 (m : Int)) ∧ OwnAt w' g o.length o.length markN markM ∧ W.grownBy w' (some g)) := fun W h => by rw [hm]; exact mark_any g o.length cp W (by omega) h
      have CHD : Hid (∀ W, RowAt W g 0 o.length markN markM → Calls Tryd.prog 8 #[.slice (some ⟨g, 0, none⟩) o.length cp, .int .i64 1] W fun e w' => e = .returned (.int .i64 (m : Int)) ∧ Below W.heap.size W w') := fun W h => by rw [hm]; exact held_any g o.length cp W (by omega) h
      have hm0 : ¬ (m : Int) < 0 := by omega
      clear hm
      cases b
      all_goals
        go_wp2_with fail
        refine (CMK.out _ HO3.out).mono ?_
        rintro e w4 ⟨rfl, hown4, hgr4⟩
        have HB4 : Hid (Below w.heap.size w w4) := HB3.out.grown hgr4 HB3.out.size (fun k hk => by injection hk with hk; rw [← hk]; exact Nat.le_trans HB1.out.size hbg)
        have HROW04 := hid (rowAt_grown HROW03.out hgr4 HNE.out hbg)
        have HR4 := hid (hown4.row (fun i hi => markN_small o.length i (by omega) hi))
        clear hown4 hgr4
        go_wp2_with fail
        refine (CHD.out _ HR4.out).mono ?_
        rintro e w5 ⟨rfl, hb5⟩
        have HB5 : Hid (Below w.heap.size w w5) := HB4.out.trans (hb5.mono HB4.out.size)
        have HROW05 := hid (row_ownBelow HROW04.out hb5)
        have HR5 := hid (HR4.out.below hb5)
        clear hb5
        go_wp2_with fail
        refine (CI.out _ (HT.out.below HB5.out)).mono ?_
        rintro e w6 ⟨v2, rfl, hrow2, hb6⟩
        rw [← HO.out] at hrow2
        rw [← HBB.out]
        have HROW2 := hid hrow2
        have HROW06 := hid (row_ownBelow HROW05.out hb6)
        have HR6 := hid (HR5.out.below hb6)
        have HB6 : Hid (Below w.heap.size w w6) := HB5.out.trans (hb6.mono HB5.out.size)
        clear hrow2 hb6
        go_wp2_with fail
        refine (eqRow_same v2 v0 o _ _ _ HN.out (by omega) HROW2.out HROW06.out).mono ?_
        rintro e w7 ⟨rfl, hb7⟩
        have HB7 : Hid (Below w.heap.size w w7) := HB6.out.trans (hb7.mono HB6.out.size)
        have HR7 := hid (HR6.out.below hb7)
        clear hb7
        go_wp2_with fail
        refine (CHD.out _ HR7.out).mono ?_
        rintro e w8 ⟨rfl, hb8⟩
        have HB8 : Hid (Below w.heap.size w w8) := HB7.out.trans (hb8.mono HB7.out.size)
        clear hb8
        go_wp2
        go_ret
        exact ⟨rfl, HB8.out⟩

end Go.Proofs.YtahhjhhnjpbocadDoor
