/- DERIVED. The walk of the law FnHostsJoin. -/
import Derived.Test.YtahhjhhnjpbocacFmCore
import Derived.Test.YtahhjhhnjpbocacAnyHosts
import Derived.Test.YtahhjhhnjpbocacJoinImpl
import Derived.Test.YtahhjhhnjpbocacJoinFacts
namespace Go.Proofs.Ytahhjhhnjpbocac
open Go.RowKit

/-- What a list that came in holds at a place. -/
theorem InRow.at {w : World} {oa : Option Addr} {n cp : Nat} {o : Hs} (h : InRow w (.slice oa n cp) o) (i : Nat) (hi : i < o.length) :
    ∃ g off, oa = some ⟨g, off, none⟩ ∧ w.cell? ⟨g, off + i * 2, none⟩ = some (.string o[i].1) ∧ w.cell? ⟨g, off + i * 2 + 1, none⟩ = some (.int .i64 o[i].2) := by
  obtain ⟨oa', cp', e, _, _, h3⟩ := h
  injection e with e1 e2 e3
  rcases h3 with h3 | ⟨g, off, rfl, R⟩
  · omega
  · refine ⟨g, off, e1, ?_, ?_⟩
    · rw [sof_at o i hi]; exact R.name i hi
    · rw [sof_at o i hi]; exact R.num i hi

set_option maxRecDepth 100000 in
set_option maxHeartbeats 8000000 in
theorem law_any (oa : Option Addr) (len cap : Nat) (w : World) (C : CodeAt w oa len) (hc : len ≤ cap) (hm : cap ≤ maxLen) :
    Calls Try.prog 3 #[.slice oa len cap] w fun e w' => e = .returned (.bool true) ∧ Below w.heap.size w w' := by
  have HC := hid C
  clear C
  by_cases hbig : (1048576 : Int) < (len : Int)
  · go_enter Try.func3, Try.ntmps3
    go_wp2
    go_ret
    exact ⟨rfl, Below.refl _ _⟩
  · go_enter Try.func3, Try.ntmps3
    go_wp2_with fail
    refine (drawJoin_any oa len cap _ HC.out hc hm).mono ?_
    rintro e w1 ⟨⟨v1, A, v2, B, rfl, hin1, hlA, hin2, hlB⟩, hb1⟩
    have HB1 := hid hb1
    have HA1 := hid hin1
    have HBB1 := hid hin2
    obtain ⟨ova, cva, rfl, _⟩ := hin1
    obtain ⟨ovb, cvb, rfl, _⟩ := hin2
    clear hb1
    obtain ⟨X, hX⟩ : ∃ X, X = joinH A B := ⟨_, rfl⟩
    have hokX : okO X := by rw [hX]; exact okO_join A B
    have hlX : X.length ≤ 30 := hokX.1
    have HNX := hid (okO_names hokX)
    have CI : Hid (∀ W, InRow W (.slice ova A.length cva) A → InRow W (.slice ovb B.length cvb) B → Calls Try.prog 5 #[.slice ova A.length cva, .slice ovb B.length cvb] W fun e w' => ∃ v, e = .returned v ∧ w'.ownsRow W.heap.size 29 2 v X.length (hcells X) ∧ Below W.heap.size W w') := fun W h k => by rw [hX]; exact join_impl _ _ A B W h k
    have CS : Hid (∀ W, InRow W (.slice ova A.length cva) A → InRow W (.slice ovb B.length cvb) B → Calls Try.prog 7 #[.slice ova A.length cva, .slice ovb B.length cvb] W fun e w' => ∃ v, e = .returned v ∧ w'.ownsRow W.heap.size 29 2 v X.length (hcells X) ∧ Below W.heap.size W w') := fun W h k => by rw [hX]; exact join_spec _ _ A B W h k
    have HX := hid hX
    clear hX hokX
    go_wp2_with fail
    refine (CI.out _ HA1.out HBB1.out).mono ?_
    rintro e w2 ⟨v3, rfl, hrow, hb2⟩
    have HB2 : Hid (Below w.heap.size w w2) := HB1.out.trans (hb2.mono HB1.out.size)
    have HA2 := hid (HA1.out.below hb2)
    have HBB2 := hid (HBB1.out.below hb2)
    have HX2 : Hid (InRow w2 v3 X) := InRow.own (o := X) hrow HNX.out
    obtain ⟨ovx, cvx, rfl⟩ := row_shape hrow
    clear hrow hb2
    go_wp2_with fail
    refine (CS.out _ HA2.out HBB2.out).mono ?_
    rintro e w3 ⟨v4, rfl, hrow, hb3⟩
    have HB3 : Hid (Below w.heap.size w w3) := HB2.out.trans (hb3.mono HB2.out.size)
    have HA3 := hid (HA2.out.below hb3)
    have HBB3 := hid (HBB2.out.below hb3)
    have HX3 := hid (HX2.out.below hb3)
    have HY3 : Hid (InRow w3 v4 X) := InRow.own (o := X) hrow HNX.out
    obtain ⟨ovy, cvy, rfl⟩ := row_shape hrow
    clear hrow hb3
    go_wp2_with fail
    refine (fmRow_same _ _ X _ (by omega) HX3.out HY3.out).mono ?_
    rintro e w4 ⟨rfl, hb4⟩
    have HB4 : Hid (Below w.heap.size w w4) := HB3.out.trans (hb4.mono HB3.out.size)
    have HA4 := hid (HA3.out.below hb4)
    have HBB4 := hid (HBB3.out.below hb4)
    have HX4 := hid (HX3.out.below hb4)
    clear hb4
    by_cases hX0 : X.length = 0
    · obtain rfl : X = [] := List.eq_nil_of_length_eq_zero hX0
      have CS0 : Hid (∀ W, InRow W (.slice ova A.length cva) A → InRow W (.slice ovb B.length cvb) B → Calls Try.prog 7 #[.slice ova A.length cva, .slice ovb B.length cvb] W fun e w' => ∃ v, e = .returned v ∧ w'.ownsRow W.heap.size 29 2 v 0 (hcells []) ∧ Below W.heap.size W w') := fun W h k => CS.out W h k
      clear hX0 CS CI HX
      simp only [List.length_nil]
      go_wp2_with fail
      refine (CS0.out _ HA4.out HBB4.out).mono ?_
      rintro e w5 ⟨v5, rfl, hrow, hb5⟩
      have HB5 : Hid (Below w.heap.size w w5) := HB4.out.trans (hb5.mono HB4.out.size)
      obtain ⟨ovy2, cvy2, rfl⟩ := row_shape hrow
      clear hrow hb5
      go_wp2_with fail
      refine (fm_zero ovx ovy2 cvx cvy2 _).mono ?_
      rintro e w6 ⟨rfl, hb6⟩
      have HB6 : Hid (Below w.heap.size w w6) := HB5.out.trans (hb6.mono HB5.out.size)
      clear hb6
      go_wp2
      go_ret
      exact ⟨rfl, HB6.out⟩
    · have hX0' : ((X.length : Int) == 0) = false := by rw [beq_eq_false_iff_ne]; omega
      obtain ⟨hokx, hba, hxa, hbx, hle, hge, _, _, _, hmem⟩ := join_facts A B (fun e => hX0 (by rw [HX.out, e]; rfl))
      rw [← HX.out] at hokx hba hxa hbx hle hge hmem
      have HMEM := hid hmem
      have COK : Hid (∀ W, InRow W (.slice ovx X.length cvx) X → Calls Try.prog 8 #[.slice ovx X.length cvx] W fun e w' => e = .returned (.bool true) ∧ Below W.heap.size W w') := fun W h => by rw [← hokx]; exact hostsOk_in _ X W h
      have CBA : Hid (∀ W, InRow W (.slice ovb B.length cvb) B → InRow W (.slice ova A.length cva) A → Calls Try.prog 5 #[.slice ovb B.length cvb, .slice ova A.length cva] W fun e w' => ∃ v, e = .returned v ∧ w'.ownsRow W.heap.size 29 2 v X.length (hcells X) ∧ Below W.heap.size W w') := fun W h k => by have := join_impl _ _ B A W h k; rw [hba] at this; exact this
      have CXA : Hid (∀ W, InRow W (.slice ovx X.length cvx) X → InRow W (.slice ova A.length cva) A → Calls Try.prog 5 #[.slice ovx X.length cvx, .slice ova A.length cva] W fun e w' => ∃ v, e = .returned v ∧ w'.ownsRow W.heap.size 29 2 v X.length (hcells X) ∧ Below W.heap.size W w') := fun W h k => by have := join_impl _ _ X A W h k; rw [hxa] at this; exact this
      have CBX : Hid (∀ W, InRow W (.slice ovb B.length cvb) B → InRow W (.slice ovx X.length cvx) X → Calls Try.prog 5 #[.slice ovb B.length cvb, .slice ovx X.length cvx] W fun e w' => ∃ v, e = .returned v ∧ w'.ownsRow W.heap.size 29 2 v X.length (hcells X) ∧ Below W.heap.size W w') := fun W h k => by have := join_impl _ _ B X W h k; rw [hbx] at this; exact this
      clear hokx hba hxa hbx hmem hX0 HX CI CS
      go_wp2
      go_loopw [6] (fun iv wr => Below w.heap.size w wr ∧ Below w4.heap.size w4 wr ∧ ∃ i : Nat, i ≤ X.length ∧ iv = .int .i64 (i : Int)) (fun iv _ => X.length - (intOf iv).toNat)
      case atStart => exact ⟨HB4.out, Below.refl _ _, 0, Nat.zero_le _, rfl⟩
      case round =>
        obtain ⟨hB, hB4, i, hi, rfl⟩ := hrel
        have HB := hid hB
        have HB4' := hid hB4
        clear hB hB4
        obtain ⟨wo, rfl⟩ : ∃ wo : World, wo = wr := ⟨_, rfl⟩
        by_cases hlt : i < X.length
        · have hiI : (i : Int) < (X.length : Int) := by omega
          have hi0 : (0 : Int) ≤ (i : Int) := by omega
          obtain ⟨x, hx⟩ : ∃ x, x = X[i] := ⟨_, rfl⟩
          have HXI := hid hx
          have HXM : Hid (x ∈ A ∨ x ∈ B) := HMEM.out x (by rw [hx]; exact List.getElem_mem hlt)
          clear hx
          go_wp2
          go_loopw [7, 8] (fun cv kv wr => Below w.heap.size w wr ∧ Below w4.heap.size w4 wr ∧ ∃ (k : Nat) (c : Bool), k ≤ A.length ∧ kv = .int .i64 (k : Int) ∧ cv = .bool c ∧ ∀ j (hj : j < A.length), j < k → A[j] = x → c = true) (fun _ kv _ => A.length - (intOf kv).toNat)
          case atStart => exact ⟨HB.out, HB4'.out, 0, false, Nat.zero_le _, rfl, rfl, fun j _ h => absurd h (Nat.not_lt_zero _)⟩
          case round =>
            obtain ⟨hB, hB4, k, c, hk, rfl, rfl, hin⟩ := hrel
            have HIN := hid hin
            have HBk := hid hB
            have HB4k := hid hB4
            clear hB hB4 hin
            by_cases hlk : k < A.length
            · have hkI : (k : Int) < (A.length : Int) := by omega
              have hk0 : (0 : Int) ≤ (k : Int) := by omega
              cases c
              · obtain ⟨gx, ox, rfl, x0, x1⟩ := (HX4.out.below HB4k.out).at i hlt
                obtain ⟨ga, oa2, rfl, a0, a1⟩ := (HA4.out.below HB4k.out).at k hlk
                rw [← HXI.out] at x0 x1
                obtain ⟨y, hy⟩ : ∃ y, y = A[k] := ⟨_, rfl⟩
                rw [← hy] at a0 a1
                have HY := hid hy
                clear hy
                have heq := fun W => eqlHost y x W
                go_wp2
                go_quiet (fail)
                go_wp2
                go_roundw
                case rel =>
                  refine ⟨below_drewN HBk.out _, below_drewN HB4k.out _, k + 1, decide (y = x), by omega, by go_num, rfl, fun j hj hjk e => ?_⟩
                  by_cases hjk2 : j = k
                  · subst hjk2; rw [HY.out, decide_eq_true_eq]; exact e
                  · exact absurd (HIN.out j hj (by omega) e) (by decide)
                case measure => simp [intOf]; omega
              · go_wp2
                go_quiet (fail)
                go_wp2
                go_roundw
                case rel => exact ⟨below_drewN HBk.out _, below_drewN HB4k.out _, k + 1, true, by omega, by go_num, rfl, fun _ _ _ _ => rfl⟩
                case measure => simp [intOf]; omega
            · have HC1 : Hid (x ∈ A → c = true) := fun h => by
                obtain ⟨j, hj, e⟩ := List.getElem_of_mem h
                exact HIN.out j hj (by omega) e
              clear HIN
              go_wp2
              go_loopw [7, 9] (fun cv kv wr => Below w.heap.size w wr ∧ Below w4.heap.size w4 wr ∧ ∃ (k : Nat) (d : Bool), k ≤ B.length ∧ kv = .int .i64 (k : Int) ∧ cv = .bool d ∧ (c = true → d = true) ∧ ∀ j (hj : j < B.length), j < k → B[j] = x → d = true) (fun _ kv _ => B.length - (intOf kv).toNat)
              case atStart => exact ⟨HBk.out, HB4k.out, 0, c, Nat.zero_le _, rfl, rfl, id, fun j _ h => absurd h (Nat.not_lt_zero _)⟩
              case round =>
                obtain ⟨hB, hB4, m, d, hm2, rfl, rfl, hcd, hin⟩ := hrel
                have HIN := hid hin
                have HBm := hid hB
                have HB4m := hid hB4
                have HCD := hid hcd
                clear hB hB4 hin hcd
                by_cases hlm : m < B.length
                · have hmI : (m : Int) < (B.length : Int) := by omega
                  have hm0 : (0 : Int) ≤ (m : Int) := by omega
                  cases d
                  · obtain ⟨gx, ox, rfl, x0, x1⟩ := (HX4.out.below HB4m.out).at i hlt
                    obtain ⟨gb, ob2, rfl, b0, b1⟩ := (HBB4.out.below HB4m.out).at m hlm
                    rw [← HXI.out] at x0 x1
                    obtain ⟨y, hy⟩ : ∃ y, y = B[m] := ⟨_, rfl⟩
                    rw [← hy] at b0 b1
                    have HY := hid hy
                    clear hy
                    have heq := fun W => eqlHost y x W
                    go_wp2
                    go_quiet (fail)
                    go_wp2
                    go_roundw
                    case rel =>
                      refine ⟨below_drewN HBm.out _, below_drewN HB4m.out _, m + 1, decide (y = x), by omega, by go_num, rfl, fun e => absurd (HCD.out e) (by decide), fun j hj hjk e => ?_⟩
                      by_cases hjk2 : j = m
                      · subst hjk2; rw [HY.out, decide_eq_true_eq]; exact e
                      · exact absurd (HIN.out j hj (by omega) e) (by decide)
                    case measure => simp [intOf]; omega
                  · go_wp2
                    go_quiet (fail)
                    go_wp2
                    go_roundw
                    case rel => exact ⟨below_drewN HBm.out _, below_drewN HB4m.out _, m + 1, true, by omega, by go_num, rfl, fun _ => rfl, fun _ _ _ _ => rfl⟩
                    case measure => simp [intOf]; omega
                · have hd : d = true := by
                    rcases HXM.out with h | h
                    · exact HCD.out (HC1.out h)
                    · obtain ⟨j, hj, e⟩ := List.getElem_of_mem h
                      exact HIN.out j hj (by omega) e
                  subst hd
                  clear HIN HCD
                  go_wp2
                  go_roundw
                  case rel => exact ⟨HBm.out, HB4m.out, i + 1, by omega, by go_num⟩
                  case measure => simp [intOf]; omega
        · have HA5 := hid (HA4.out.below HB4'.out)
          have HBB5 := hid (HBB4.out.below HB4'.out)
          have HX5 := hid (HX4.out.below HB4'.out)
          have hw1 : IntKind.i64.wrap ((A.length : Int) + (B.length : Int)) = (A.length : Int) + (B.length : Int) := by rw [IntKind.wrap_i64]; omega
          have hleI : (X.length : Int) ≤ (A.length : Int) + (B.length : Int) := by omega
          have hgeI : (A.length : Int) ≤ (X.length : Int) := by omega
          go_wp2_with fail
          refine (COK.out _ HX5.out).mono ?_
          rintro e w6 ⟨rfl, hb6⟩
          have HB6 : Hid (Below w.heap.size w w6) := HB.out.trans (hb6.mono HB.out.size)
          have HA6 := hid (HA5.out.below hb6)
          have HBB6 := hid (HBB5.out.below hb6)
          have HX6 := hid (HX5.out.below hb6)
          clear hb6
          go_wp2_with fail
          refine (CBA.out _ HBB6.out HA6.out).mono ?_
          rintro e w7 ⟨v7, rfl, hrow, hb7⟩
          have HB7 : Hid (Below w.heap.size w w7) := HB6.out.trans (hb7.mono HB6.out.size)
          have HA7 := hid (HA6.out.below hb7)
          have HBB7 := hid (HBB6.out.below hb7)
          have HX7 := hid (HX6.out.below hb7)
          have HY7 : Hid (InRow w7 v7 X) := InRow.own (o := X) hrow HNX.out
          obtain ⟨oy7, cy7, rfl⟩ := row_shape hrow
          clear hrow hb7
          go_wp2_with fail
          refine (fmRow_same _ _ X _ (by omega) HY7.out HX7.out).mono ?_
          rintro e w8 ⟨rfl, hb8⟩
          have HB8 : Hid (Below w.heap.size w w8) := HB7.out.trans (hb8.mono HB7.out.size)
          have HA8 := hid (HA7.out.below hb8)
          have HBB8 := hid (HBB7.out.below hb8)
          have HX8 := hid (HX7.out.below hb8)
          clear hb8
          go_wp2_with fail
          refine (CXA.out _ HX8.out HA8.out).mono ?_
          rintro e w9 ⟨v9, rfl, hrow, hb9⟩
          have HB9 : Hid (Below w.heap.size w w9) := HB8.out.trans (hb9.mono HB8.out.size)
          have HBB9 := hid (HBB8.out.below hb9)
          have HX9 := hid (HX8.out.below hb9)
          have HY9 : Hid (InRow w9 v9 X) := InRow.own (o := X) hrow HNX.out
          obtain ⟨oy9, cy9, rfl⟩ := row_shape hrow
          clear hrow hb9
          go_wp2_with fail
          refine (fmRow_same _ _ X _ (by omega) HY9.out HX9.out).mono ?_
          rintro e w10 ⟨rfl, hb10⟩
          have HB10 : Hid (Below w.heap.size w w10) := HB9.out.trans (hb10.mono HB9.out.size)
          have HBB10 := hid (HBB9.out.below hb10)
          have HX10 := hid (HX9.out.below hb10)
          clear hb10
          go_wp2_with fail
          refine (CBX.out _ HBB10.out HX10.out).mono ?_
          rintro e w11 ⟨v11, rfl, hrow, hb11⟩
          have HB11 : Hid (Below w.heap.size w w11) := HB10.out.trans (hb11.mono HB10.out.size)
          have HX11 := hid (HX10.out.below hb11)
          have HY11 : Hid (InRow w11 v11 X) := InRow.own (o := X) hrow HNX.out
          obtain ⟨oy11, cy11, rfl⟩ := row_shape hrow
          clear hrow hb11
          go_wp2_with fail
          refine (fmRow_same _ _ X _ (by omega) HY11.out HX11.out).mono ?_
          rintro e w12 ⟨rfl, hb12⟩
          have HB12 : Hid (Below w.heap.size w w12) := HB11.out.trans (hb12.mono HB11.out.size)
          clear hb12
          go_wp2
          go_ret
          exact ⟨rfl, HB12.out⟩

end Go.Proofs.Ytahhjhhnjpbocac
