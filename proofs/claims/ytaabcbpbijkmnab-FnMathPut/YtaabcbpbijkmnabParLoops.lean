/- DERIVED. The model's reader of sums: unary, by what is read within it. -/
import Derived.Test.YtaabcbpbijkmnabParSt
namespace Go.Proofs.Ytaabcbpbijkmnab
open Go.RowKit

theorem look_is {s : ByteArray} {p : Nat} (x : UInt8) (hx : x ≠ 0) : (lookV s p == (x.toNat : Int)) = decide (atP s (skipP s p) = some x) := by
  unfold lookV
  cases h : atP s (skipP s p) with
  | none =>
    simp only [reduceCtorEq, decide_false]
    rw [beq_eq_false_iff_ne]
    intro e
    exact hx (UInt8.toNat_inj.mp (by show x.toNat = 0; omega))
  | some c =>
    dsimp only
    by_cases hc : c = x
    · subst hc; simp
    · rw [beq_eq_false_iff_ne.2 (fun e => hc (UInt8.toNat_inj.mp (by omega)))]
      symm
      rw [decide_eq_false_iff_not]
      intro e
      injection e with e
      exact hc e

theorem mst_go {w : World} {R base : Nat} {s : ByteArray} {d k : Nat} {ops : List Op3} {p : Nat} (h : MSt w R base s d k ops p) (hp : p < s.size) : MSt (w.setCell ⟨R, 1, none⟩ (.int .i64 ((p + 1 : Nat) : Int))) R base s d (k + 1) ops (p + 1) := by
  obtain ⟨ov, h1, h2, h3, h4, h5⟩ := h
  exact ⟨ov, h1.go (p + 1), row_put3 h2 h3 _ _, h3, by omega, by omega⟩

theorem at_lt {s : ByteArray} {p : Nat} {c : UInt8} (h : atP s p = some c) : p < s.size := by
  rcases Nat.lt_or_ge p s.size with hh | hh
  · exact hh
  · rw [atP_none s p hh] at h; cases h

theorem minus_yes {s : ByteArray} {g n q : Nat} (h : atP s (skipP s q) = some 45) : minusM s (g + 1) n q = minusM s g (n + 1) (skipP s q + 1) := by
  rw [minusM, takeP, if_pos h, if_pos rfl]

theorem minus_no {s : ByteArray} {g n q : Nat} (h : ¬ atP s (skipP s q) = some 45) : minusM s (g + 1) n q = (n, skipP s q) := by
  rw [minusM, takeP, if_neg h, if_neg (by simp)]

theorem unary_is {s : ByteArray} {mi : Nat → MRes} {p n q : Nat} (h : minusM s (s.size + 1) 0 p = (n, q)) : unaryM s mi p = match primM s mi q with
    | some (o, q2) => some (o ++ List.replicate n (126, 0, ⟨#[]⟩), q2)
    | none => none := by
  unfold unaryM; rw [h]; rfl

set_option maxRecDepth 100000 in
set_option maxHeartbeats 3200000 in
theorem unary_part (s : ByteArray) (hs : s.size ≤ 60) (mi : Nat → MRes) (d e : Nat) (hpr : PartM 35 s (primM s mi) d e) : PartM 31 s (unaryM s mi) d e := by
  intro R base k ops p w hb h
  obtain ⟨i0, hi, hz0, hz1, hz2⟩ := info_parts infoOp
  have HP := hid hpr
  have H := hid h
  clear h hpr
  have hsm : s.size ≤ maxLen := by unfold maxLen; omega
  go_enter Try.func31, Try.ntmps31
  go_wp2
  go_loopg [2] (s.size + 1) (fun gh v wr => ∃ (n q : Nat), v = .int .i64 (n : Int) ∧ n ≤ q ∧ q ≤ s.size ∧ s.size + 1 - q ≤ gh ∧ minusM s gh n q = minusM s (s.size + 1) 0 p ∧ MSt wr R base s d (k + n) ops q ∧ Below base w wr)
  case atStart =>
    obtain ⟨_, _, _, _, _, h5⟩ := H.out
    exact ⟨0, p, rfl, Nat.zero_le _, h5, by omega, rfl, H.out, Below.refl _ _⟩
  case round =>
    obtain ⟨n, q, rfl, hn, hq, hgh, hmin, hst, hbw⟩ := hrel
    have HM := hid hmin
    have HB := hid hbw
    have CL := hid (look_st R base s d (k + n) ops q _ hsm hb hst)
    obtain ⟨gh', hgh'⟩ : ∃ g', gk = g' + 1 := ⟨gk - 1, by omega⟩
    have hsk := skipP_le s q hq
    clear hmin hbw hst
    go_wp2_with fail
    refine CL.out.mono ?_
    rintro x w1 ⟨rfl, hst1, hb1⟩
    have HS1 := hid hst1
    have HB1 : Hid (Below base w w1) := HB.out.trans hb1
    have hlk := look_is (s := s) (p := q) 45 (by decide)
    clear hb1 CL hst1 HB
    obtain ⟨lv, hlv⟩ : ∃ lv, lv = lookV s q := ⟨_, rfl⟩
    rw [← hlv] at hlk ⊢
    clear hlv
    by_cases hm : atP s (skipP s q) = some 45
    · have h45 : (lv == 45) = true := by rw [decide_eq_true hm] at hlk; exact hlk
      have hlt := at_lt hm
      have HM2 : Hid (minusM s gh' (n + 1) (skipP s q + 1) = minusM s (s.size + 1) 0 p) := by show _ = _; rw [← minus_yes hm, ← hgh']; exact HM.out
      clear hlk hm HM
      obtain ⟨q1, hq1⟩ : ∃ q1, q1 = skipP s q := ⟨_, rfl⟩
      rw [← hq1] at hlt HM2 HS1 hsk
      clear hq1
      obtain ⟨ov, hP, hrow, hne, hl, hps⟩ := HS1.out
      have c1 := hP.place
      have f1 := hP.free 1
      clear hP hrow hne
      go_wp2
      go_roundg gh'
      case measure => omega
      case rel =>
        exact ⟨n + 1, q1 + 1, rfl, by omega, by omega, by omega, HM2.out, by rw [← Nat.add_assoc]; exact mst_go HS1.out hlt, HB1.out.setCell hb _⟩
    · have h45 : (lv == 45) = false := by rw [decide_eq_false hm] at hlk; exact hlk
      have HU := hid (unary_is (mi := mi) (p := p) (n := n) (q := skipP s q) (by rw [← HM.out, hgh']; exact minus_no hm))
      have CP := hid (HP.out R base (k + n) ops (skipP s q) _ hb HS1.out)
      clear hlk hm HM HS1
      go_wp2_with fail
      refine CP.out.mono ?_
      rintro x w2 ⟨rfl, hb2, hres⟩
      have HB2 : Hid (Below base w w2) := HB1.out.trans hb2
      clear hb2 HB1 CP
      cases hpm : primM s mi (skipP s q) with
      | none =>
        rw [hpm] at hres
        have HRES := hid hres
        have HU2 : Hid (unaryM s mi p = none) := by show _ = _; rw [HU.out, hpm]
        clear hres hpm HU
        obtain ⟨q2, d', ov, ops2, hP, hrow, hne, hl, hq2, h6, h7⟩ := HRES.out
        have c3 := hP.bad
        clear hP hrow hne hl hq2 h6 h7
        go_wp2
        go_loopg [2] 0 (fun _ v wr => v = .int .i64 (n : Int) ∧ wr = w2)
        case atStart => exact ⟨rfl, rfl⟩
        case round =>
          obtain ⟨rfl, rfl⟩ := hrel
          by_cases hn0 : (n : Int) > 0
          · have hn0' : (0 : Int) < (n : Int) := hn0
            go_wp2
            first | go_end0 | refine bodyPost_ret (results_none rfl _ _ _) rfl ?_
            rw [HU2.out]
            exact ⟨rfl, HB2.out, HRES.out⟩
          · have hn0' : ¬ (0 : Int) < (n : Int) := hn0
            go_wp2
            first | go_end0 | refine bodyPost_ret (results_none rfl _ _ _) rfl ?_
            rw [HU2.out]
            exact ⟨rfl, HB2.out, HRES.out⟩
      | some y =>
        obtain ⟨o, q2⟩ := y
        rw [hpm] at hres
        have HRES := hid hres
        have HU2 : Hid (unaryM s mi p = some (o ++ List.replicate n (126, 0, ⟨#[]⟩), q2)) := by show _ = _; rw [HU.out, hpm]
        clear hres hpm HU
        go_wp2
        go_loopg [2] n (fun gh v wr => ∃ m : Nat, v = .int .i64 (m : Int) ∧ m ≤ gh ∧ m ≤ n ∧ MSt wr R base s d (k + m) (ops ++ (o ++ List.replicate (n - m) (126, 0, ⟨#[]⟩))) q2 ∧ Below base w wr)
        case atStart => exact ⟨n, rfl, Nat.le_refl _, Nat.le_refl _, (by have h : MSt w2 R base s d (k + n) (ops ++ o) q2 := HRES.out; simpa using h), HB2.out⟩
        case round =>
          obtain ⟨m, rfl, hmg, hmn, hst, hbw⟩ := hrel
          have HST := hid hst
          have HBW := hid hbw
          clear hst hbw HRES HB2
          obtain ⟨ov, hP, hrow, hne, hl, hps⟩ := HST.out
          obtain ⟨ops3, hops⟩ : ∃ l, l = ops ++ (o ++ List.replicate (n - m) ((126, 0, ⟨#[]⟩) : Op3)) := ⟨_, rfl⟩
          have HOPS := hid hops
          rw [← hops] at hrow hl HST
          clear hops
          have c3 := hP.bad
          have c4 := hP.out
          have f4 := hP.free 4
          have HOLD := hP.old
          have HPA := hid hP
          have HNE := hid hne
          clear hP hne
          by_cases hm0 : m = 0
          · subst hm0
            clear hrow
            go_wp2
            first | go_end0 | refine bodyPost_ret (results_none rfl _ _ _) rfl ?_
            rw [HU2.out]
            refine ⟨rfl, HBW.out, ?_⟩
            have := HST.out
            rw [HOPS.out, Nat.sub_zero, Nat.add_zero] at this
            exact this
          · have hm0' : (0 : Int) < (m : Int) := by omega
            obtain ⟨oa, cp, rfl⟩ := row_shape3 hrow
            have HROW := hid hrow
            go_wp2_with (at_builtin; refine wpList_append_own _ rfl _ _ 38 rfl base 61 i0 (.agg #[.int .u8 0, .int .i64 0, .string ⟨#[]⟩]) 3 32 Try.underlying38 hi hz0 hz1 hz2 rfl (by decide) _ _ _ rfl (hrow.alloc _) ⟨wr.heap.size, 0, none⟩ 1 1 [.int .u8 126, .int .i64 0, .string ⟨#[]⟩] rfl rfl (cell_new3 _ _ _ _ _) (by simp [Value.oneCell']) (by unfold maxLen; omega) (by omega) (by have := HOLD; simp; omega) ?_)
            intro v' w4 hown' hgrow _
            obtain ⟨oa', cp', rfl⟩ := row_shape3 hown'
            have HG := hid (mst_push (k := k + (m - 1)) (126, 0, ⟨#[]⟩) hb HPA.out HNE.out HROW.out hl hps (by omega) HBW.out hgrow hown')
            have c4' := HG.out.2.2.1
            have f4' := HG.out.2.2.2
            clear hown' hgrow hrow
            go_wp2
            go_roundg (m - 1)
            case measure => omega
            case rel =>
              refine ⟨m - 1, by go_num, Nat.le_refl _, by omega, ?_, HG.out.2.1⟩
              have key : ops ++ (o ++ List.replicate (n - (m - 1)) ((126, 0, ⟨#[]⟩) : Op3)) = ops3 ++ [(126, 0, ⟨#[]⟩)] := by
                rw [HOPS.out, show n - (m - 1) = (n - m) + 1 by omega, List.replicate_succ', ← List.append_assoc o, ← List.append_assoc ops]
              rw [key]
              exact HG.out.1

end Go.Proofs.Ytaabcbpbijkmnab
