/- DERIVED. The walk of the law FnHostsFold. -/
import Derived.Test.YtahhjhhnjpbocaaDoorFm
import Derived.Test.YtahhjhhnjpbocaaDoorAnyHosts
import Derived.Test.YtahhjhhnjpbocaaDoorFoldWeight
namespace Go.Proofs.YtahhjhhnjpbocaaDoor
open Go.RowKit

set_option maxHeartbeats 600000 in
theorem specFold_in (v : Value) (o : Hs) (w : World) (h : InRow w v o) :
    Calls Tryd.prog 6 #[v] w fun e w' => e = .returned (.string (mkB (foldO o))) ∧ Below w.heap.size w w' := by
  obtain ⟨z, hz⟩ : ∃ z, z = mkB (foldO o) := ⟨_, rfl⟩
  rw [← hz]
  have HI := hid h
  obtain ⟨oa, cp, rfl, _⟩ := h
  cases hok : okH o
  · have HZ : Hid (z = ⟨#[]⟩) := by show z = _; rw [hz]; unfold foldO; rw [if_neg (by rw [hok]; decide)]; rfl
    have CO : Hid (Calls Tryd.prog 18 #[.slice oa o.length cp] w fun e w' => e = .returned (.bool false) ∧ Below w.heap.size w w') := by rw [← hok]; exact listOk_in _ o w HI.out
    clear hok hz
    go_enter Tryd.func6, Tryd.ntmps6
    go_wp2_with fail
    refine CO.out.mono ?_
    rintro e w1 ⟨rfl, hb1⟩
    have HB1 := hid hb1
    clear hb1
    go_wp2
    go_ret
    exact ⟨by rw [HZ.out]; rfl, HB1.out⟩
  · have CO : Hid (Calls Tryd.prog 18 #[.slice oa o.length cp] w fun e w' => e = .returned (.bool true) ∧ Below w.heap.size w w') := by rw [← hok]; exact listOk_in _ o w HI.out
    have hoo : okO o := by
      obtain ⟨h30, hall⟩ := okH_each o hok
      refine ⟨h30, fun x hx => ?_⟩
      obtain ⟨i, hi, e⟩ := List.getElem_of_mem hx
      rw [← e, sof_at o i hi]; exact hall i hi
    have CF : Hid (∀ W, InRow W (.slice oa o.length cp) o → Calls Tryd.prog 19 #[.slice oa o.length cp] W fun e w' => e = .returned (.string z) ∧ Below W.heap.size W w') := fun W h => by
      have := foldIn_any _ o W h hoo
      rw [hz]
      unfold foldO
      rw [if_pos hok]
      exact this
    clear hok hz hoo
    go_enter Tryd.func6, Tryd.ntmps6
    go_wp2_with fail
    refine CO.out.mono ?_
    rintro e w1 ⟨rfl, hb1⟩
    have HB1 := hid hb1
    have HI1 := hid (HI.out.below hb1)
    clear hb1
    go_wp2_with fail
    refine (CF.out _ HI1.out).mono ?_
    rintro e w2 ⟨rfl, hb2⟩
    have HB2 : Hid (Below w.heap.size w w2) := HB1.out.trans (hb2.mono HB1.out.size)
    clear hb2
    go_wp2
    go_ret
    exact ⟨rfl, HB2.out⟩

set_option maxHeartbeats 400000 in
theorem specHostsOk_in (v : Value) (o : Hs) (w : World) (h : InRow w v o) :
    Calls Tryd.prog 8 #[v] w fun e w' => e = .returned (.bool (okH o)) ∧ Below w.heap.size w w' := by
  have HI := hid (listOk_in v o w h)
  obtain ⟨b, hb⟩ : ∃ b, b = okH o := ⟨_, rfl⟩
  rw [← hb] at HI ⊢
  obtain ⟨oa, cp, rfl, _⟩ := h
  clear hb
  go_enter Tryd.func8, Tryd.ntmps8
  go_wp2_with fail
  refine HI.out.mono ?_
  rintro e w1 ⟨rfl, hb1⟩
  have HB1 := hid hb1
  clear hb1
  go_wp2
  go_ret
  exact ⟨rfl, HB1.out⟩

theorem put_len (s : ByteArray) (n : Int) (h : okB s n = true) : (putS s n).size = s.size + (decL n).length := by
  have : putS s n = s ++ decS n.toNat := if_pos h
  rw [this, ByteArray.size_append]
  congr 1

set_option maxRecDepth 100000 in
set_option maxHeartbeats 3200000 in
theorem law_any (oa : Option Addr) (len cap : Nat) (w : World) (C : CodeAt w oa len) (hc : len ≤ cap) (hm : cap ≤ maxLen) (ht : Tab w) :
    Calls Tryd.prog 3 #[.slice oa len cap] w fun e w' => e = .returned (.bool true) ∧ Below w.heap.size w w' := by
  have HC := hid C
  have HT := hid ht
  clear C ht
  by_cases hbig : (1048576 : Int) < (len : Int)
  · go_enter Tryd.func3, Tryd.ntmps3
    go_wp2
    go_ret
    exact ⟨rfl, Below.refl _ _⟩
  · go_enter Tryd.func3, Tryd.ntmps3
    go_wp2_with fail
    refine (drawFold_any oa len cap _ HC.out hc hm).mono ?_
    rintro e w1 ⟨⟨v, o, rfl, hin, hl70, hnam⟩, hb1⟩
    have HB1 := hid hb1
    have HT1 := hid (HT.out.below hb1)
    have HIN1 := hid hin
    have HNAM := hid hnam
    obtain ⟨ov, cv, rfl, _⟩ := hin
    clear hb1 hnam
    obtain ⟨z, hz⟩ : ∃ z, z = mkB (foldO o) := ⟨_, rfl⟩
    have HZ := hid hz
    have CI : Hid (∀ W, InRow W (.slice ov o.length cv) o → Tab W → Calls Tryd.prog 5 #[.slice ov o.length cv] W fun e w' => e = .returned (.string z) ∧ Below W.heap.size W w') := fun W h h2 => by rw [hz]; exact fold_in _ o W h h2
    have CS : Hid (∀ W, InRow W (.slice ov o.length cv) o → Calls Tryd.prog 6 #[.slice ov o.length cv] W fun e w' => e = .returned (.string z) ∧ Below W.heap.size W w') := fun W h => by rw [hz]; exact specFold_in _ o W h
    have hzz : (z.toList == z.toList) = true := by simp
    clear hz
    cases hok : okH o
    · have CO : Hid (∀ W, InRow W (.slice ov o.length cv) o → Calls Tryd.prog 7 #[.slice ov o.length cv] W fun e w' => e = .returned (.bool false) ∧ Below W.heap.size W w') := fun W h => by rw [← hok]; exact hostsOk_in _ o W h
      have CP : Hid (∀ W, InRow W (.slice ov o.length cv) o → Calls Tryd.prog 8 #[.slice ov o.length cv] W fun e w' => e = .returned (.bool false) ∧ Below W.heap.size W w') := fun W h => by rw [← hok]; exact specHostsOk_in _ o W h
      clear hok
      go_wp2_with fail
      refine (CI.out _ HIN1.out HT1.out).mono ?_
      rintro e w2 ⟨rfl, hb2⟩
      have HB2 : Hid (Below w.heap.size w w2) := HB1.out.trans (hb2.mono HB1.out.size)
      have HIN2 := hid (HIN1.out.below hb2)
      clear hb2
      go_wp2_with fail
      refine (CS.out _ HIN2.out).mono ?_
      rintro e w3 ⟨rfl, hb3⟩
      have HB3 : Hid (Below w.heap.size w w3) := HB2.out.trans (hb3.mono HB2.out.size)
      have HIN3 := hid (HIN2.out.below hb3)
      clear hb3
      go_wp2_with fail
      refine (CO.out _ HIN3.out).mono ?_
      rintro e w4 ⟨rfl, hb4⟩
      have HB4 : Hid (Below w.heap.size w w4) := HB3.out.trans (hb4.mono HB3.out.size)
      have HIN4 := hid (HIN3.out.below hb4)
      clear hb4
      go_wp2_with fail
      refine (CP.out _ HIN4.out).mono ?_
      rintro e w5 ⟨rfl, hb5⟩
      have HB5 : Hid (Below w.heap.size w w5) := HB4.out.trans (hb5.mono HB4.out.size)
      have HIN5 := hid (HIN4.out.below hb5)
      clear hb5
      go_wp2_with fail
      refine (CP.out _ HIN5.out).mono ?_
      rintro e w6 ⟨rfl, hb6⟩
      have HB6 : Hid (Below w.heap.size w w6) := HB5.out.trans (hb6.mono HB5.out.size)
      have HIN6 := hid (HIN5.out.below hb6)
      clear hb6
      go_wp2_with fail
      refine (CS.out _ HIN6.out).mono ?_
      rintro e w7 ⟨rfl, hb7⟩
      have HB7 : Hid (Below w.heap.size w w7) := HB6.out.trans (hb7.mono HB6.out.size)
      have HIN7 := hid (HIN6.out.below hb7)
      clear hb7
      go_wp2_with fail
      refine (CO.out _ HIN7.out).mono ?_
      rintro e w8 ⟨rfl, hb8⟩
      have HB8 : Hid (Below w.heap.size w w8) := HB7.out.trans (hb8.mono HB7.out.size)
      have HIN8 := hid (HIN7.out.below hb8)
      clear hb8
      go_wp2_with fail
      refine (CP.out _ HIN8.out).mono ?_
      rintro e w9 ⟨rfl, hb9⟩
      have HB9 : Hid (Below w.heap.size w w9) := HB8.out.trans (hb9.mono HB8.out.size)
      clear hb9
      go_wp2
      go_ret
      exact ⟨rfl, HB9.out⟩
    · have CO : Hid (∀ W, InRow W (.slice ov o.length cv) o → Calls Tryd.prog 7 #[.slice ov o.length cv] W fun e w' => e = .returned (.bool true) ∧ Below W.heap.size W w') := fun W h => by rw [← hok]; exact hostsOk_in _ o W h
      have CP : Hid (∀ W, InRow W (.slice ov o.length cv) o → Calls Tryd.prog 8 #[.slice ov o.length cv] W fun e w' => e = .returned (.bool true) ∧ Below W.heap.size W w') := fun W h => by rw [← hok]; exact specHostsOk_in _ o W h
      obtain ⟨hof, h400, hwt⟩ := open_fold o hok
      obtain ⟨h30, hall⟩ := okH_each o hok
      have hzf : z = mkB (foldH o) := by rw [HZ.out]; unfold foldO; rw [if_pos hok]
      have hzs : z.size = (foldH o).length := by rw [hzf, mkB_size]
      have CPN : Hid (∀ W, Tab W → Calls Tryd.prog 9 #[.string z] W fun e w' => OpenOut (some o) W e w') := fun W h => by
        have := open_impl z W (by rw [hzs]; unfold maxLen; omega) h
        rw [open_same, hzf, hof] at this
        rw [hzf]; exact this
      have CPUT : Hid (∀ k, k < o.length → ∀ W, Tab W → ∃ t : ByteArray, t.size = (Sof o k).size + (decL (Mof o k)).length ∧ Calls Tryd.prog 10 #[.agg #[.string (Sof o k), .int .i64 (Mof o k)]] W fun e w' => e = .returned (.string t) ∧ Below W.heap.size W w') := fun k hk W h => ⟨_, put_len _ _ (hall k hk), implPut_any (Sof o k) (Mof o k) W (by have := (okB_num (hall k hk)).1; unfold maxLen; omega) h⟩
      have HSM : Hid (∀ k, k < o.length → (Sof o k).size ≤ 6 ∧ (decL (Mof o k)).length ≤ 3) := fun k hk => ⟨(okB_num (hall k hk)).1, dec_len_le _ 2 (by have := okB_num (hall k hk); omega)⟩
      have HWL : Hid (∀ k, k ≤ o.length → wR (Sof o) (Mof o) 0 k ≤ 11 * k) := fun k hk => wR_le _ _ k (fun j hj => hall j (by omega))
      have HWT : Hid (0 < o.length → z.size < wR (Sof o) (Mof o) 0 o.length) := fun h => by rw [hzs]; exact hwt h
      have HZE : Hid (o.length = 0 → z = ⟨#[]⟩) := fun h => by rw [hzf, List.eq_nil_of_length_eq_zero h, foldH_nil]; rfl
      have hz400 : z.size ≤ 400 := by omega
      clear hok hof hwt hall hzf hzs h400
      go_wp2_with fail
      refine (CI.out _ HIN1.out HT1.out).mono ?_
      rintro e w2 ⟨rfl, hb2⟩
      have HB2 : Hid (Below w.heap.size w w2) := HB1.out.trans (hb2.mono HB1.out.size)
      have HIN2 := hid (HIN1.out.below hb2)
      clear hb2
      go_wp2_with fail
      refine (CS.out _ HIN2.out).mono ?_
      rintro e w3 ⟨rfl, hb3⟩
      have HB3 : Hid (Below w.heap.size w w3) := HB2.out.trans (hb3.mono HB2.out.size)
      have HIN3 := hid (HIN2.out.below hb3)
      clear hb3
      go_wp2_with fail
      refine (CO.out _ HIN3.out).mono ?_
      rintro e w4 ⟨rfl, hb4⟩
      have HB4 : Hid (Below w.heap.size w w4) := HB3.out.trans (hb4.mono HB3.out.size)
      have HIN4 := hid (HIN3.out.below hb4)
      clear hb4
      go_wp2_with fail
      refine (CP.out _ HIN4.out).mono ?_
      rintro e w5 ⟨rfl, hb5⟩
      have HB5 : Hid (Below w.heap.size w w5) := HB4.out.trans (hb5.mono HB4.out.size)
      have HIN5 := hid (HIN4.out.below hb5)
      clear hb5
      go_wp2_with fail
      refine (CP.out _ HIN5.out).mono ?_
      rintro e w6 ⟨rfl, hb6⟩
      have HB6 : Hid (Below w.heap.size w w6) := HB5.out.trans (hb6.mono HB5.out.size)
      have HIN6 := hid (HIN5.out.below hb6)
      clear hb6
      go_wp2_with fail
      refine (CPN.out _ (HT.out.below HB6.out)).mono ?_
      rintro e w7 ⟨v1, rfl, hrow1, hb7⟩
      have HB7 : Hid (Below w.heap.size w w7) := HB6.out.trans (hb7.mono HB6.out.size)
      have HIN7 := hid (HIN6.out.below hb7)
      have HX7 : Hid (InRow w7 v1 o) := InRow.own (o := o) hrow1 HNAM.out
      obtain ⟨ov1, cv1, rfl⟩ := row_shape hrow1
      clear hb7 hrow1 CI CS CO CP CPN
      go_wp2
      go_loopw [7, 8] (fun nv iv wr => Below w.heap.size w wr ∧ Below w7.heap.size w7 wr ∧ ∃ k : Nat, k ≤ o.length ∧ iv = .int .i64 (k : Int) ∧ nv = .int .i64 ((wR (Sof o) (Mof o) 0 k : Nat) : Int)) (fun _ iv _ => o.length - (intOf iv).toNat)
      case atStart => exact ⟨HB7.out, Below.refl _ _, 0, Nat.zero_le _, rfl, rfl⟩
      case round =>
        obtain ⟨hB, hB7, k, hk, rfl, rfl⟩ := hrel
        have HB := hid hB
        have HB7' := hid hB7
        have hwk := HWL.out k hk
        obtain ⟨a, ha⟩ : ∃ a, a = wR (Sof o) (Mof o) 0 k := ⟨_, rfl⟩
        rw [← ha] at hwk ⊢
        have HA := hid ha
        clear hB hB7 ha
        by_cases hlt : k < o.length
        · obtain ⟨ov', cv', e', _, _, h3⟩ := HIN7.out.below HB7'.out
          injection e' with e1 e2 e3
          subst e1 e3
          clear e2
          rcases h3 with h3 | ⟨g, off, rfl, Rw⟩
          · omega
          · have c0 := Rw.name k hlt
            have c1 := Rw.num k hlt
            have hgw := Rw.old
            have HRw := hid Rw
            obtain ⟨t, htl, hct⟩ := CPUT.out k hlt wr (HT.out.below HB.out)
            have CT := hid hct
            have hsm := HSM.out k hlt
            have ht9 : t.size ≤ 9 := by omega
            have HTL := hid htl
            have hk0 : (0 : Int) ≤ (k : Int) := by omega
            have hkI : (k : Int) < (o.length : Int) := by omega
            have ha330 : a ≤ 330 := by omega
            clear hct Rw htl hsm hwk
            go_wp2_with fail
            refine CT.out.mono ?_
            rintro e w8 ⟨rfl, hb8⟩
            have HB8 := hid hb8
            have HBw : Hid (Below w.heap.size w w8) := HB.out.trans (hb8.mono HB.out.size)
            have HBw7 : Hid (Below w7.heap.size w7 w8) := HB7'.out.trans (hb8.mono HB7'.out.size)
            have HR8 := hid (HRw.out.below hb8)
            have d0 := HR8.out.name k hlt
            clear hb8 c0 c1
            have hw1 : IntKind.i64.wrap ((a : Int) + (t.size : Int)) = (a : Int) + (t.size : Int) := by rw [IntKind.wrap_i64]; omega
            by_cases hkz : k = 0
            · have hkb : ((k : Int) == 0) = true := by rw [beq_iff_eq]; omega
              have HW : Hid (wR (Sof o) (Mof o) 0 (k + 1) = a + t.size + 1 + 1) := by
                show wR (Sof o) (Mof o) 0 k + wOf (Sof o) (Mof o) (0 + k) = _
                rw [← HA.out, Nat.zero_add, wOf, if_pos (Or.inl hkz), HTL.out]; omega
              clear hkz
              go_wp2
              go_quiet (fail)
              go_wp2
              go_roundw
              case rel => exact ⟨below_drewN HBw.out _, below_drewN HBw7.out _, k + 1, by omega, by go_num, by rw [HW.out]; congr 1⟩
              case measure => simp [intOf]; omega
            · have hkb : ((k : Int) == 0) = false := by rw [beq_eq_false_iff_ne]; omega
              obtain ⟨j, hj⟩ : ∃ j, j = k - 1 := ⟨_, rfl⟩
              have hsub : (k : Int) - 1 = (j : Int) := by omega
              have hwj : IntKind.i64.wrap (j : Int) = (j : Int) := by rw [IntKind.wrap_i64]; omega
              have hjl : j < o.length := by omega
              have hjI : (j : Int) < (o.length : Int) := by omega
              have hj0 : (0 : Int) ≤ (j : Int) := by omega
              have d1 := HR8.out.name j hjl
              have hsp : sameP (Sof o) k = ((Sof o k).toList == (Sof o j).toList) := by unfold sameP; rw [hj]
              have HWW : Hid (wR (Sof o) (Mof o) 0 (k + 1) = a + wOf (Sof o) (Mof o) k) := by
                show wR (Sof o) (Mof o) 0 k + wOf (Sof o) (Mof o) (0 + k) = _
                rw [← HA.out, Nat.zero_add]
              cases hs : ((Sof o k).toList == (Sof o j).toList)
              · have HW : Hid (wR (Sof o) (Mof o) 0 (k + 1) = a + t.size + 1 + 1) := by
                  show _ = _
                  rw [HWW.out, wOf, if_pos (Or.inr (by rw [hsp]; exact hs)), HTL.out]; omega
                clear hkz hj hsp
                go_wp2
                go_quiet (fail)
                go_wp2
                go_roundw
                case rel => exact ⟨below_drewN HBw.out _, below_drewN HBw7.out _, k + 1, by omega, by go_num, by rw [HW.out]; congr 1⟩
                case measure => simp [intOf]; omega
              · have HW : Hid (wR (Sof o) (Mof o) 0 (k + 1) = a + t.size + 1) := by
                  show _ = _
                  rw [HWW.out, wOf, if_neg (fun c => by
                    rcases c with c | c
                    · exact hkz c
                    · rw [hsp, hs] at c; cases c), HTL.out]; omega
                clear hkz hj hsp
                go_wp2
                go_quiet (fail)
                go_wp2
                go_roundw
                case rel => exact ⟨below_drewN HBw.out _, below_drewN HBw7.out _, k + 1, by omega, by go_num, by rw [HW.out]; congr 1⟩
                case measure => simp [intOf]; omega
        · have hke : k = o.length := by omega
          have CFM := hid (fmRow_same (.slice ov1 o.length cv1) (.slice ov o.length cv) o _ (by omega) (HX7.out.below HB7'.out) (HIN7.out.below HB7'.out))
          by_cases hl0 : o.length = 0
          · have hzE := HZE.out hl0
            have hze : z.toList.isEmpty = true := by rw [hzE, List.isEmpty_iff, ← List.length_eq_zero_iff, len_toList]; rfl
            have ha0 : ¬ (z.size : Int) < (a : Int) := by
              have e : a = 0 := by rw [HA.out, hke, hl0]; rfl
              omega
            have hlb : ((o.length : Int) == 0) = true := by rw [beq_iff_eq]; omega
            have hkI : ¬ (k : Int) < (o.length : Int) := by omega
            clear hl0 hzE hke
            go_wp2_with fail
            refine CFM.out.mono ?_
            rintro e w8 ⟨rfl, hb8⟩
            have HB8 : Hid (Below w.heap.size w w8) := HB.out.trans (hb8.mono HB.out.size)
            clear hb8
            go_wp2
            go_ret
            exact ⟨rfl, HB8.out⟩
          · have ha1 : (z.size : Int) < (a : Int) := by
              have := HWT.out (by omega)
              rw [← hke, ← HA.out] at this
              omega
            have hkI : ¬ (k : Int) < (o.length : Int) := by omega
            clear hl0 hke
            go_wp2_with fail
            refine CFM.out.mono ?_
            rintro e w8 ⟨rfl, hb8⟩
            have HB8 : Hid (Below w.heap.size w w8) := HB.out.trans (hb8.mono HB.out.size)
            clear hb8
            go_wp2
            go_ret
            exact ⟨rfl, HB8.out⟩

end Go.Proofs.YtahhjhhnjpbocaaDoor
