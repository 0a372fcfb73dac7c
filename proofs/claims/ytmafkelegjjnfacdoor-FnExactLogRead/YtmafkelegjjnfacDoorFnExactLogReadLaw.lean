/- DERIVED. The law FnExactLogRead at every text. -/
import Derived.Test.YtmafkelegjjnfacDoorLogRead
import Derived.Test.YtmafkelegjjnfacDoorLogReadSpec
import Derived.Test.YtmafkelegjjnfacDoorMarkStr
namespace Go.Proofs.YtmafkelegjjnfacDoor
open Go.RowKit

theorem row_grown {w w' : World} {base b : Nat} {v : Value} {n : Nat} {xs : List Value} {g : Nat} (h : w.ownsRow base 9 1 v n xs) (hg : w.grownBy w' (some g)) (hne : ∀ k, v.ownBlock = some k → k < b) (hbg : b ≤ g) : w'.ownsRow base 9 1 v n xs := by
  refine h.kept hg ?_
  cases e : v.ownBlock with
  | none => exact Or.inl rfl
  | some k =>
    right
    intro c
    injection c with c
    have := hne k e
    omega

theorem eqRow_same (v1 v2 : Value) (P : List ByteArray) (b1 b2 : Nat) (w : World) (hl : P.length ≤ 100000) (h1 : w.ownsRow b1 9 1 v1 P.length (P.map Value.string)) (h2 : w.ownsRow b2 9 1 v2 P.length (P.map Value.string)) :
    Calls Tryd.prog 6 #[v1, v2] w fun e w' => e = .returned (.bool true) ∧ Below w.heap.size w w' := by
  obtain ⟨oa, p1, rfl, _, _, t1⟩ := texts_of h1
  obtain ⟨ob, p2, rfl, _, _, t2⟩ := texts_of h2
  exact eqStr_same oa ob p1 p2 P w hl t1 t2

theorem logS_len (s : ByteArray) : (logS s).length ≤ 6000 := by
  unfold logS
  split
  · have := readS_size s
    omega
  · simp

theorem markedAt {w : World} {base g n cap : Nat} (h : w.ownsRow base 9 1 (.slice (some ⟨g, 0, none⟩) n cap) n ((List.range n).map markV)) : ∀ i, i < n → w.cell? ⟨g, i, none⟩ = some (markV i) := by
  intro i hi
  obtain ⟨g', cp, e, _, _, _, _, hc⟩ := srow_cells h (by omega)
  injection e with e1 e2 e3
  injection e1 with e1
  injection e1 with e1
  subst e1
  refine hc i _ ?_
  rw [List.getElem?_map, List.getElem?_range hi]
  rfl

set_option maxRecDepth 100000 in
set_option maxHeartbeats 3200000 in
theorem law_any (s : ByteArray) (w : World) (hs : s.size ≤ maxLen) (ht : Tab w) :
    Calls Tryd.prog 3 #[.string s] w fun e w' => e = .returned (.bool true) ∧ Below w.heap.size w w' := by
  have HT := hid ht
  clear ht
  have hs' : s.size ≤ 2 ^ 63 - 1 := hs
  by_cases h1 : (s.size : Int) > 1048576
  · go_enter Tryd.func3, Tryd.ntmps3
    go_wp2
    go_ret
    exact ⟨rfl, Below.refl _ _⟩
  have hP := logS_len s
  obtain ⟨P, hPe⟩ : ∃ P, P = logS s := ⟨_, rfl⟩
  have CS : Hid (∀ w, Calls Tryd.prog 4 #[.string s] w fun e w' => ∃ v, e = .returned (.tuple #[v, .int .i64 (sizeR P : Nat)]) ∧ w'.ownsRow w.heap.size 9 1 v P.length (P.map Value.string) ∧ Below w.heap.size w w') := fun w => by rw [hPe]; exact specRead_any s w hs
  have CI : Hid (∀ w, Tab w → Calls Tryd.prog 5 #[.string s] w fun e w' => ∃ v, e = .returned (.tuple #[v, .int .i64 (sizeR P : Nat)]) ∧ w'.ownsRow w.heap.size 9 1 v P.length (P.map Value.string) ∧ Below w.heap.size w w') := fun w ht => by rw [hPe]; exact implRead_any s w hs ht
  rw [← hPe] at hP
  obtain ⟨z, hz⟩ : ∃ z, z = sizeR P := ⟨_, rfl⟩
  rw [← hz] at CS CI
  clear hPe hz
  go_enter Tryd.func3, Tryd.ntmps3
  go_wp2_with fail
  refine (CS.out _).mono ?_
  rintro e w1 ⟨v0, rfl, hrow0, hb1⟩
  have HROW0 := hid hrow0
  have HB1 := hid hb1
  have HT1 := hid (HT.out.below hb1)
  clear hrow0 hb1
  go_wp2_with fail
  refine (CI.out _ HT1.out).mono ?_
  rintro e w2 ⟨v1, rfl, hrow1, hb2⟩
  have HROW1 := hid hrow1
  have HROW02 := hid (row_ownBelow HROW0.out hb2)
  have HB2 : Hid (Below w.heap.size w w2) := HB1.out.trans (hb2.mono HB1.out.size)
  have HS12 := hid hb2.size
  clear hrow1 hb2
  go_wp2_with fail
  refine (eqRow_same v1 v0 P _ _ _ (by omega) HROW1.out HROW02.out).mono ?_
  rintro e w3 ⟨rfl, hb3⟩
  have HROW03 := hid (row_ownBelow HROW02.out hb3)
  have HROW13 := hid (row_ownBelow HROW1.out hb3)
  have HB3 : Hid (Below w.heap.size w w3) := HB2.out.trans (hb3.mono HB2.out.size)
  have HS13 : Hid (w1.heap.size ≤ w3.heap.size) := Nat.le_trans HS12.out hb3.size
  clear hb3
  by_cases h0 : P.length = 0
  · have ho0 := h0
    obtain ⟨oa, cp, rfl⟩ := row_shape HROW13.out
    rw [h0]
    clear ho0
    go_wp2_with fail
    refine (mark_zero oa cp _).mono ?_
    rintro e w4 ⟨rfl, rfl⟩
    go_wp2_with fail
    refine (held_zero oa cp _).mono ?_
    rintro e w4 ⟨rfl, rfl⟩
    go_wp2_with fail
    refine (CI.out _ (HT.out.below HB3.out)).mono ?_
    rintro e w6 ⟨v2, rfl, hrow2, hb6⟩
    have HROW2 := hid hrow2
    have HROW06 := hid (row_ownBelow HROW03.out hb6)
    have HB6 : Hid (Below w.heap.size w w6) := HB3.out.trans (hb6.mono HB3.out.size)
    clear hrow2 hb6
    go_wp2_with fail
    refine (eqRow_same v2 v0 P _ _ _ (by omega) HROW2.out HROW06.out).mono ?_
    rintro e w7 ⟨rfl, hb7⟩
    have HB7 : Hid (Below w.heap.size w w7) := HB6.out.trans (hb7.mono HB6.out.size)
    clear hb7
    go_wp2_with fail
    refine (held_zero oa cp _).mono ?_
    rintro e w8 ⟨rfl, rfl⟩
    go_wp2
    go_ret
    exact ⟨rfl, HB7.out⟩
  · obtain ⟨g, cp, rfl, hbg, hg, hcp, hcm, _⟩ := srow_cells HROW13.out (by omega)
    have HNE : Hid (∀ k, v0.ownBlock = some k → k < w1.heap.size) := fun k hk => (HROW0.out.lt k hk).2
    obtain ⟨m, hm⟩ : ∃ m, m = P.length + 1 := ⟨_, rfl⟩
    have CMK : Hid (∀ W, W.ownsRow w1.heap.size 9 1 (.slice (some ⟨g, 0, none⟩) P.length cp) P.length (P.map Value.string) → Calls Tryd.prog 7 #[.slice (some ⟨g, 0, none⟩) P.length cp, .int .i64 1] W fun e w' => e = .returned (.int .i64 (m : Int)) ∧ w'.ownsRow w1.heap.size 9 1 (.slice (some ⟨g, 0, none⟩) P.length cp) P.length ((List.range P.length).map markV) ∧ W.grownBy w' (some g)) := fun W h => by rw [hm]; exact mark_any g P.length cp _ _ W (by omega) (by simp) h
    have CHD : Hid (∀ W : World, (∀ i, i < P.length → W.cell? ⟨g, i, none⟩ = some (markV i)) → Calls Tryd.prog 8 #[.slice (some ⟨g, 0, none⟩) P.length cp, .int .i64 1] W fun e w' => e = .returned (.int .i64 (m : Int)) ∧ Below W.heap.size W w') := fun W h => by rw [hm]; exact held_any g P.length cp W (by omega) h
    have hm0 : ¬ (m : Int) < 0 := by omega
    clear hm
    go_wp2_with fail
    refine (CMK.out _ HROW13.out).mono ?_
    rintro e w4 ⟨rfl, hown4, hgr4⟩
    have HB4 : Hid (Below w.heap.size w w4) := HB3.out.grown hgr4 HB3.out.size (fun k hk => by injection hk with hk; rw [← hk]; exact Nat.le_trans HB1.out.size hbg)
    have HROW04 := hid (row_grown HROW03.out hgr4 HNE.out hbg)
    have HR4 := hid hown4
    clear hown4 hgr4
    go_wp2_with fail
    refine (CHD.out _ (markedAt HR4.out)).mono ?_
    rintro e w5 ⟨rfl, hb5⟩
    have HB5 : Hid (Below w.heap.size w w5) := HB4.out.trans (hb5.mono HB4.out.size)
    have HROW05 := hid (row_ownBelow HROW04.out hb5)
    have HR5 := hid (row_ownBelow HR4.out hb5)
    clear hb5
    go_wp2_with fail
    refine (CI.out _ (HT.out.below HB5.out)).mono ?_
    rintro e w6 ⟨v2, rfl, hrow2, hb6⟩
    have HROW2 := hid hrow2
    have HROW06 := hid (row_ownBelow HROW05.out hb6)
    have HR6 := hid (row_ownBelow HR5.out hb6)
    have HB6 : Hid (Below w.heap.size w w6) := HB5.out.trans (hb6.mono HB5.out.size)
    clear hrow2 hb6
    go_wp2_with fail
    refine (eqRow_same v2 v0 P _ _ _ (by omega) HROW2.out HROW06.out).mono ?_
    rintro e w7 ⟨rfl, hb7⟩
    have HB7 : Hid (Below w.heap.size w w7) := HB6.out.trans (hb7.mono HB6.out.size)
    have HR7 := hid (row_ownBelow HR6.out hb7)
    clear hb7
    go_wp2_with fail
    refine (CHD.out _ (markedAt HR7.out)).mono ?_
    rintro e w8 ⟨rfl, hb8⟩
    have HB8 : Hid (Below w.heap.size w w8) := HB7.out.trans (hb8.mono HB7.out.size)
    clear hb8
    go_wp2
    go_ret
    exact ⟨rfl, HB8.out⟩

end Go.Proofs.YtmafkelegjjnfacDoor
