/- DERIVED. The walk of the law on HostsJoin. -/
import Derived.Test.YtahhjhhnjpbocaeJoinImpl
import Derived.Test.YtahhjhhnjpbocaeMarkFrom
namespace Go.Proofs.Ytahhjhhnjpbocae
open Go.RowKit

theorem below_row {W a b : World} {row : Option Nat} {B : Nat} (h : Below B W a) (hg : a.grownBy b row) (hr : ∀ k, row = some k → B ≤ k) (hs : B ≤ a.heap.size) : Below B W b := h.grown hg hs hr

set_option maxRecDepth 100000 in
set_option maxHeartbeats 3200000 in
theorem law_any (va vb : Value) (A B : Hs) (w : World) (h1 : InRow w va A) (h2 : InRow w vb B) :
    Calls Try.prog 3 #[va, vb] w fun e w' => e = .returned (.bool true) ∧ Below w.heap.size w w' := by
  have H1 := hid h1
  have H2 := hid h2
  clear h1 h2
  obtain ⟨J, hJ⟩ : ∃ J, J = joinH A B := ⟨_, rfl⟩
  obtain ⟨hJl, hJn⟩ := joinH_names A B
  rw [← hJ] at hJl hJn
  have HJN := hid hJn
  have CS : Hid (∀ W v1 v2, InRow W v1 A → InRow W v2 B → Calls Try.prog 5 #[v1, v2] W fun e w' => ∃ v, e = .returned v ∧ w'.ownsRow W.heap.size 35 2 v J.length (hcells J) ∧ Below W.heap.size W w') := fun W v1 v2 a b => by rw [hJ]; exact join_spec v1 v2 A B W a b
  have CI : Hid (∀ W v1 v2, InRow W v1 A → InRow W v2 B → Calls Try.prog 7 #[v1, v2] W fun e w' => ∃ v, e = .returned v ∧ w'.ownsRow W.heap.size 35 2 v J.length (hcells J) ∧ Below W.heap.size W w') := fun W v1 v2 a b => by rw [hJ]; exact join_impl v1 v2 A B W a b
  clear hJ hJn
  go_enter Try.func3, Try.ntmps3
  go_wp2_with fail
  refine (sz_in va A 1048576 _ (by omega) (by omega) H1.out).mono ?_
  rintro e w1 ⟨⟨r1, rfl, hr1, hr1m⟩, hb1⟩
  have HB1 := hid hb1
  have HR1 := hid hr1
  clear hb1 hr1
  by_cases hneg1 : r1 < 0
  · go_wp2
    go_ret
    exact ⟨rfl, HB1.out⟩
  have HAn : Hid (A.length ≤ 1048576) := HR1.out (by omega)
  go_wp2_with fail
  refine (sz_in vb B r1 _ (by omega) hr1m (H2.out.below HB1.out)).mono ?_
  rintro e w2 ⟨⟨r2, rfl, hr2, hr2m⟩, hb2⟩
  have HB2 : Hid (Below w.heap.size w w2) := HB1.out.trans (hb2.mono HB1.out.size)
  have HR2 := hid hr2
  clear hb2 hr2 hr1m hr2m
  by_cases hneg2 : r2 < 0
  · go_wp2
    go_ret
    exact ⟨rfl, HB2.out⟩
  have HBn : Hid (B.length ≤ 1048576) := HR2.out (by omega)
  go_wp2_with fail
  refine (to_in va A _ HAn.out (H1.out.below HB2.out)).mono ?_
  rintro e w3 ⟨⟨Ba, rfl, hBa, hBa2, hC3⟩, hb3⟩
  have HB3 : Hid (Below w.heap.size w w3) := HB2.out.trans (hb3.mono HB2.out.size)
  have HC3 := hid hC3
  clear hb3 hC3 hBa hBa2
  go_wp2_with fail
  refine (to_in vb B _ HBn.out (H2.out.below HB3.out)).mono ?_
  rintro e w4 ⟨⟨Bb, rfl, hBb, hBb2, hC4⟩, hb4⟩
  have HB4 : Hid (Below w.heap.size w w4) := HB3.out.trans (hb4.mono HB3.out.size)
  have HC34 := hid (HC3.out.below hb4)
  have HC4 := hid hC4
  clear hb4 hC4 hBb hBb2
  go_wp2_with fail
  refine (CS.out _ _ _ (HC34.out.inRow HAn.out) (HC4.out.inRow HBn.out)).mono ?_
  rintro e w5 ⟨v0, rfl, hrow0, hb5⟩
  have HB5 : Hid (Below w.heap.size w w5) := HB4.out.trans (hb5.mono HB4.out.size)
  have R05 := hid hrow0
  have HNE : Hid (∀ k, v0.ownBlock = some k → k < w5.heap.size) := fun k hk => (R05.out.lt k hk).2
  clear hrow0 hb5 HC34 HC4 HC3
  go_wp2_with fail
  refine (to_in va A _ HAn.out (H1.out.below HB5.out)).mono ?_
  rintro e w6 ⟨⟨Xa, rfl, hXa, hXa2, hC6⟩, hb6⟩
  have HB6 : Hid (Below w.heap.size w w6) := HB5.out.trans (hb6.mono HB5.out.size)
  have R06 := hid (row_ownBelow R05.out hb6)
  have CA6 := hid hC6
  have HXa := hid (And.intro hXa hXa2)
  clear hb6 hC6 hXa hXa2
  go_wp2_with fail
  refine (to_in vb B _ HBn.out (H2.out.below HB6.out)).mono ?_
  rintro e w7 ⟨⟨Xb, rfl, hXb, hXb2, hC7⟩, hb7⟩
  have HB7 : Hid (Below w.heap.size w w7) := HB6.out.trans (hb7.mono HB6.out.size)
  have R07 := hid (row_ownBelow R06.out hb7)
  have CA7 := hid (CA6.out.below hb7)
  have CB7 := hid hC7
  have HXb := hid (And.intro hXb hXb2)
  clear hb7 hC7 hXb hXb2
  go_wp2_with fail
  refine (CI.out _ _ _ (CA7.out.inRow HAn.out) (CB7.out.inRow HBn.out)).mono ?_
  rintro e w8 ⟨v1, rfl, hrow1, hb8⟩
  have HB8 : Hid (Below w.heap.size w w8) := HB7.out.trans (hb8.mono HB7.out.size)
  have R08 := hid (row_ownBelow R07.out hb8)
  have CA8 := hid (CA7.out.below hb8)
  have CB8 := hid (CB7.out.below hb8)
  have R18 := hid hrow1
  have HNE1 : Hid (∀ k, v1.ownBlock = some k → w7.heap.size ≤ k) := fun k hk => (R18.out.lt k hk).1
  clear hrow1 hb8
  go_wp2_with fail
  refine (eqRow_same v1 v0 J _ _ _ HJN.out (by omega) R18.out R08.out).mono ?_
  rintro e w9 ⟨rfl, hb9⟩
  have HB9 : Hid (Below w.heap.size w w9) := HB8.out.trans (hb9.mono HB8.out.size)
  have R09 := hid (row_ownBelow R08.out hb9)
  have R19 := hid (row_ownBelow R18.out hb9)
  have CA9 := hid (CA8.out.below hb9)
  have CB9 := hid (CB8.out.below hb9)
  clear hb9
  go_wp2_with fail
  refine (to_in va A _ HAn.out (H1.out.below HB9.out)).mono ?_
  rintro e w10 ⟨⟨Ya, rfl, hYa, hYa2, hC10⟩, hb10⟩
  have HB10 : Hid (Below w.heap.size w w10) := HB9.out.trans (hb10.mono HB9.out.size)
  have R010 := hid (row_ownBelow R09.out hb10)
  have R110 := hid (row_ownBelow R19.out hb10)
  have CA10 := hid (CA9.out.below hb10)
  have CB10 := hid (CB9.out.below hb10)
  have CY10 := hid hC10
  clear hb10 hC10 hYa hYa2
  go_wp2_with fail
  refine (eqS_same _ _ _ _ _ _ HAn.out CA10.out.row CY10.out.row).mono ?_
  rintro e w11 ⟨rfl, hb11⟩
  have HB11 : Hid (Below w.heap.size w w11) := HB10.out.trans (hb11.mono HB10.out.size)
  have R011 := hid (row_ownBelow R010.out hb11)
  have R111 := hid (row_ownBelow R110.out hb11)
  have CA11 := hid (CA10.out.below hb11)
  have CB11 := hid (CB10.out.below hb11)
  clear hb11 CY10
  go_wp2_with fail
  refine (to_in vb B _ HBn.out (H2.out.below HB11.out)).mono ?_
  rintro e w12 ⟨⟨Yb, rfl, hYb, hYb2, hC12⟩, hb12⟩
  have HB12 : Hid (Below w.heap.size w w12) := HB11.out.trans (hb12.mono HB11.out.size)
  have R012 := hid (row_ownBelow R011.out hb12)
  have R112 := hid (row_ownBelow R111.out hb12)
  have CA12 := hid (CA11.out.below hb12)
  have CB12 := hid (CB11.out.below hb12)
  have CY12 := hid hC12
  clear hb12 hC12 hYb hYb2
  go_wp2_with fail
  refine (eqS_same _ _ _ _ _ _ HBn.out CB12.out.row CY12.out.row).mono ?_
  rintro e w13 ⟨rfl, hb13⟩
  have HB13 : Hid (Below w.heap.size w w13) := HB12.out.trans (hb13.mono HB12.out.size)
  have R013 := hid (row_ownBelow R012.out hb13)
  have R113 := hid (row_ownBelow R112.out hb13)
  have CA13 := hid (CA12.out.below hb13)
  have CB13 := hid (CB12.out.below hb13)
  clear hb13 CY12
  obtain ⟨m1, hm1⟩ : ∃ m1, m1 = 2 * A.length + 1 := ⟨_, rfl⟩
  have HM1 := hid hm1
  have CM1 : Hid (Calls Try.prog 9 #[.slice (some ⟨Xa, 0, none⟩) A.length A.length, .int .i64 1] w13 fun e w' => e = .returned (.int .i64 (m1 : Int)) ∧ w13.grownBy w' (some Xa)) := by
    rw [hm1]
    refine (mark_from 1 Xa A.length A.length w13 (by omega) (by have := HAn.out; omega) (CA13.out.free _ _)).mono ?_
    rintro e w' ⟨rfl, _, hg⟩
    exact ⟨rfl, hg⟩
  clear hm1
  go_wp2_with fail
  refine CM1.out.mono ?_
  rintro e w14 ⟨rfl, hg14⟩
  have hXl : Hid (w.heap.size ≤ Xa ∧ w.heap.size ≤ Xb ∧ Xa < Xb ∧ Xb < w7.heap.size ∧ w5.heap.size ≤ Xa) := by
    have a := HXa.out
    have b := HXb.out
    have c := HB5.out.size
    exact ⟨by omega, by omega, by omega, by omega, by omega⟩
  have HB14 : Hid (Below w.heap.size w w14) := HB13.out.grown hg14 HB13.out.size (fun k hk => by injection hk with hk; have := hXl.out; omega)
  have R014 := hid (row_kept R013.out hg14 (fun k hk c => by injection c with c; have := HNE.out k hk; have := hXl.out; omega))
  have R114 := hid (row_kept R113.out hg14 (fun k hk c => by injection c with c; have := HNE1.out k hk; have := hXl.out; omega))
  have CB14 := hid (CB13.out.kept hg14 (fun c => by injection c with c; have := hXl.out; omega))
  clear hg14 CM1
  obtain ⟨m2, hm2⟩ : ∃ m2, m2 = 2 * B.length + m1 := ⟨_, rfl⟩
  have CM2 : Hid (Calls Try.prog 9 #[.slice (some ⟨Xb, 0, none⟩) B.length B.length, .int .i64 (m1 : Int)] w14 fun e w' => e = .returned (.int .i64 (m2 : Int)) ∧ w14.grownBy w' (some Xb)) := by
    rw [hm2]
    refine (mark_from m1 Xb B.length B.length w14 (by have := HM1.out; omega) (by have := HAn.out; have := HBn.out; have := HM1.out; omega) (CB14.out.free _ _)).mono ?_
    rintro e w' ⟨rfl, _, hg⟩
    exact ⟨rfl, hg⟩
  clear hm2
  go_wp2_with fail
  refine CM2.out.mono ?_
  rintro e w15 ⟨rfl, hg15⟩
  have HB15 : Hid (Below w.heap.size w w15) := HB14.out.grown hg15 HB14.out.size (fun k hk => by injection hk with hk; have := hXl.out; omega)
  have R015 := hid (row_kept R014.out hg15 (fun k hk c => by injection c with c; have := HNE.out k hk; have := hXl.out; omega))
  have R115 := hid (row_kept R114.out hg15 (fun k hk c => by injection c with c; have := HNE1.out k hk; have := hXl.out; omega))
  clear hg15 CM2
  have hm20 : ¬ (m2 : Int) < 0 := by omega
  go_wp2_with fail
  refine (eqRow_same v1 v0 J _ _ _ HJN.out (by omega) R115.out R015.out).mono ?_
  rintro e w16 ⟨rfl, hb16⟩
  have HB16 : Hid (Below w.heap.size w w16) := HB15.out.trans (hb16.mono HB15.out.size)
  have R016 := hid (row_ownBelow R015.out hb16)
  have R116 := hid (row_ownBelow R115.out hb16)
  clear hb16
  obtain ⟨m3, hm3⟩ : ∃ m3, m3 = 2 * J.length + 1 := ⟨_, rfl⟩
  have hm30 : ¬ (m3 : Int) < 0 := by omega
  have CMK : Hid (Calls Try.prog 9 #[v1, .int .i64 1] w16 fun e w' => e = .returned (.int .i64 (m3 : Int)) ∧ HeldAt w' v1 J.length ∧ w16.grownBy w' v1.ownBlock) := by
    rw [hm3]; exact mark_row v1 _ J.length _ w16 (by omega) R116.out
  have CHD : Hid (∀ W, HeldAt W v1 J.length → Calls Try.prog 10 #[v1, .int .i64 1] W fun e w' => e = .returned (.int .i64 (m3 : Int)) ∧ Below W.heap.size W w') := fun W h => by
    rw [hm3]; exact held_row v1 J.length W (by omega) h
  clear hm3
  go_wp2_with fail
  refine CMK.out.mono ?_
  rintro e w17 ⟨rfl, hh17, hg17⟩
  have HB17 : Hid (Below w.heap.size w w17) := HB16.out.grown hg17 HB16.out.size (fun k hk => Nat.le_trans HB7.out.size (HNE1.out k hk))
  have R017 := hid (row_kept R016.out hg17 (fun k hk c => by have a := HNE.out k hk; have b := HNE1.out k c; have d := hXl.out; omega))
  have HH17 := hid hh17
  clear hg17 hh17 CMK
  go_wp2_with fail
  refine (CHD.out _ HH17.out).mono ?_
  rintro e w18 ⟨rfl, hb18⟩
  have HB18 : Hid (Below w.heap.size w w18) := HB17.out.trans (hb18.mono HB17.out.size)
  have R018 := hid (row_ownBelow R017.out hb18)
  have HH18 := hid (HH17.out.below hb18)
  clear hb18
  go_wp2_with fail
  refine (to_in va A _ HAn.out (H1.out.below HB18.out)).mono ?_
  rintro e w19 ⟨⟨Za, rfl, hZa, hZa2, hC19⟩, hb19⟩
  have HB19 : Hid (Below w.heap.size w w19) := HB18.out.trans (hb19.mono HB18.out.size)
  have R019 := hid (row_ownBelow R018.out hb19)
  have HH19 := hid (HH18.out.below hb19)
  have CZ19 := hid hC19
  clear hb19 hC19 hZa hZa2
  go_wp2_with fail
  refine (to_in vb B _ HBn.out (H2.out.below HB19.out)).mono ?_
  rintro e w20 ⟨⟨Zb, rfl, hZb, hZb2, hC20⟩, hb20⟩
  have HB20 : Hid (Below w.heap.size w w20) := HB19.out.trans (hb20.mono HB19.out.size)
  have R020 := hid (row_ownBelow R019.out hb20)
  have HH20 := hid (HH19.out.below hb20)
  have CZ20 := hid (CZ19.out.below hb20)
  have CW20 := hid hC20
  clear hb20 hC20 hZb hZb2
  go_wp2_with fail
  refine (CI.out _ _ _ (CZ20.out.inRow HAn.out) (CW20.out.inRow HBn.out)).mono ?_
  rintro e w21 ⟨v2, rfl, hrow2, hb21⟩
  have HB21 : Hid (Below w.heap.size w w21) := HB20.out.trans (hb21.mono HB20.out.size)
  have R021 := hid (row_ownBelow R020.out hb21)
  have HH21 := hid (HH20.out.below hb21)
  have R221 := hid hrow2
  clear hrow2 hb21
  go_wp2_with fail
  refine (eqRow_same v2 v0 J _ _ _ HJN.out (by omega) R221.out R021.out).mono ?_
  rintro e w22 ⟨rfl, hb22⟩
  have HB22 : Hid (Below w.heap.size w w22) := HB21.out.trans (hb22.mono HB21.out.size)
  have HH22 := hid (HH21.out.below hb22)
  clear hb22
  go_wp2_with fail
  refine (CHD.out _ HH22.out).mono ?_
  rintro e w23 ⟨rfl, hb23⟩
  have HB23 : Hid (Below w.heap.size w w23) := HB22.out.trans (hb23.mono HB22.out.size)
  clear hb23
  go_wp2
  go_ret
  exact ⟨rfl, HB23.out⟩

end Go.Proofs.Ytahhjhhnjpbocae
