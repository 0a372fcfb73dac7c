/- DERIVED. The model's reader of sums: inner, by the sum that is read within it. -/
import Derived.Test.YtaabcbpbijkmnabParRow0
namespace Go.Proofs.Ytaabcbpbijkmnab
open Go.RowKit

theorem inner_none {s : ByteArray} {n p : Nat} (h : sumM s (innerM s n) p = none) : innerM s (n + 1) p = none := by
  rw [innerM, h]

theorem inner_yes {s : ByteArray} {n p q : Nat} {o : List Op3} (h : sumM s (innerM s n) p = some (o, q)) (h2 : atP s (skipP s q) = some 41) : innerM s (n + 1) p = some (o, skipP s q + 1) := by
  rw [innerM, h]
  dsimp only
  rw [takeP, if_pos h2, if_pos rfl]

theorem inner_no {s : ByteArray} {n p q : Nat} {o : List Op3} (h : sumM s (innerM s n) p = some (o, q)) (h2 : ¬ atP s (skipP s q) = some 41) : innerM s (n + 1) p = none := by
  rw [innerM, h]
  dsimp only
  rw [takeP, if_neg h2, if_neg (by simp)]

theorem MSt.dive {w : World} {R base : Nat} {s : ByteArray} {d k : Nat} {ops : List Op3} {p : Nat} (h : MSt w R base s d k ops p) (x : Nat) : MSt (w.setCell ⟨R, 2, none⟩ (.int .i64 (x : Int))) R base s x k ops p := by
  obtain ⟨ov, h1, h2, h3, h4, h5⟩ := h
  exact ⟨ov, h1.dive x, row_put3 h2 h3 _ _, h3, h4, h5⟩

theorem MSt.spoil {w : World} {R base : Nat} {s : ByteArray} {d k : Nat} {ops : List Op3} {p : Nat} (h : MSt w R base s d k ops p) (hd : d ≤ 7) (e : Nat) : MBad (w.setCell ⟨R, 3, none⟩ (.bool true)) R base s d e := by
  obtain ⟨ov, h1, h2, h3, h4, h5⟩ := h
  exact ⟨p, d, ov, ops, h1.mark true, row_put3 h2 h3 _ _, h3, by omega, by omega, Nat.le_refl _, hd⟩

theorem MBad.again {w : World} {R base : Nat} {s : ByteArray} {d e : Nat} (h : MBad w R base s d e) : MBad (w.setCell ⟨R, 3, none⟩ (.bool true)) R base s d e := by
  obtain ⟨q, d', ov, ops, h1, h2, h3, h4, h5, h6, h7⟩ := h
  exact ⟨q, d', ov, ops, h1.mark true, row_put3 h2 h3 _ _, h3, h4, h5, h6, h7⟩

/-- The last two rows of inner, where something was wrong. -/
theorem MBad.leave {w : World} {R base : Nat} {s : ByteArray} {d e : Nat} (h : MBad w R base s (d + 1) e) : ∃ (q d' d2 : Nat), (d' : Int) - 1 = (d2 : Int) ∧ d' ≤ 7 ∧ q ≤ s.size + 2 + e ∧ w.cell? ⟨R, 1, none⟩ = some (.int .i64 (q : Int)) ∧ w.cell? ⟨R, 2, none⟩ = some (.int .i64 (d' : Int)) ∧ w.frozen? ⟨R, 1, none⟩ = false ∧ w.frozen? ⟨R, 2, none⟩ = false ∧
    MBad ((w.setCell ⟨R, 1, none⟩ (.int .i64 ((q + 1 : Nat) : Int))).setCell ⟨R, 2, none⟩ (.int .i64 (d2 : Int))) R base s d (e + 1) ∧
    MBad (((w.setCell ⟨R, 3, none⟩ (.bool true)).setCell ⟨R, 1, none⟩ (.int .i64 ((q + 1 : Nat) : Int))).setCell ⟨R, 2, none⟩ (.int .i64 (d2 : Int))) R base s d (e + 1) := by
  obtain ⟨q, d', ov, ops, h1, h2, h3, h4, h5, h6, h7⟩ := h
  refine ⟨q, d', d' - 1, by omega, h7, h5, h1.place, h1.deep, h1.free 1, h1.free 2, ⟨q + 1, d' - 1, ov, ops, (h1.go (q + 1)).dive (d' - 1), row_put3 (row_put3 h2 h3 _ _) h3 _ _, h3, by omega, by omega, by omega, by omega⟩, ⟨q + 1, d' - 1, ov, ops, ((h1.mark true).go (q + 1)).dive (d' - 1), row_put3 (row_put3 (row_put3 h2 h3 _ _) h3 _ _) h3 _ _, h3, by omega, by omega, by omega, by omega⟩⟩

theorem MSt.less {w : World} {R base : Nat} {s : ByteArray} {d k k' : Nat} {ops : List Op3} {p : Nat} (h : MSt w R base s d k ops p) (hk : k' ≤ k) : MSt w R base s d k' ops p := by
  obtain ⟨ov, h1, h2, h3, h4, h5⟩ := h
  exact ⟨ov, h1, h2, h3, by omega, h5⟩

set_option maxRecDepth 100000 in
set_option maxHeartbeats 6400000 in
theorem inner_part (s : ByteArray) (hs : s.size ≤ 60) (n d e : Nat) (hd : d + n = 6) (he : e ≤ 100) (hsum : ∀ m, n = m + 1 → PartM 20 s (sumM s (innerM s m)) (d + 1) e) (R base k : Nat) (ops : List Op3) (p : Nat) (w : World) (hb : base ≤ R) (h : MSt w R base s d k ops p) (hp : p < s.size) :
    Calls Try.prog 39 #[.pointer (some ⟨R, 0, none⟩)] w fun x w' => x = .returned (.tuple #[]) ∧ Below base w w' ∧ AfterM w' R base s d (k + 1) (e + 1) ops (innerM s n (p + 1)) := by
  have H := hid h
  have HS := hid hsum
  obtain ⟨ov, hP, _, _, _, _⟩ := h
  have c1 := hP.place
  have f1 := hP.free 1
  have c2 := hP.deep
  have f2 := hP.free 2
  have f3 := hP.free 3
  have c3 := hP.bad
  clear hP hsum
  cases n with
  | zero =>
    have hd6 : d = 6 := by omega
    subst hd6
    go_enter Try.func39, Try.ntmps39
    go_wp2
    first | go_end0 | refine bodyPost_ret (results_none rfl _ _ _) rfl ?_
    refine ⟨rfl, (((Below.refl _ _).setCell hb _).setCell hb _).setCell hb _, ?_⟩
    obtain ⟨q, d', ov, ops, g1, g2, g3, g4, g5, g6, g7⟩ := ((mst_go H.out hp).dive 7).spoil (by omega) (e + 1)
    exact ⟨q, d', ov, ops, g1, g2, g3, g4, g5, by omega, g7⟩
  | succ m =>
    have CS := hid (HS.out m rfl R base (k + 1) ops (p + 1) _ hb ((mst_go H.out hp).dive (d + 1)))
    have hlt : ¬ (6 : Int) < (d : Int) + 1 := by omega
    have hlt2 : ¬ (6 : Int) < ((d + 1 : Nat) : Int) := by omega
    clear HS
    go_enter Try.func39, Try.ntmps39
    go_wp2_with fail
    refine CS.out.mono ?_
    rintro x w3 ⟨rfl, hb3, hres⟩
    have HB3 : Hid (Below base w w3) := (((Below.refl _ _).setCell hb _).setCell hb _).trans hb3
    clear hb3 CS c1 c2 c3 f1 f2 f3 hlt hlt2
    cases hsm : sumM s (innerM s m) (p + 1) with
    | none =>
      rw [hsm] at hres
      have CL := hid (look_bad R base s (d + 1) e w3 (by omega) hb hres)
      have HN := hid (inner_none hsm)
      clear hres hsm
      go_wp2_with fail
      refine CL.out.mono ?_
      rintro x w4 ⟨⟨c, rfl⟩, hbad, hb4⟩
      have HB4 : Hid (Below base w w4) := HB3.out.trans hb4
      have HBAD := hid hbad
      clear hb4 CL HB3 hbad
      cases h41 : (c == 41) with
      | true =>
        obtain ⟨q, d', d2, hd2, hd7, hq, c1, c2, f1, f2, hfin⟩ := HBAD.out.leave
        have HF := hid hfin
        clear hfin
        go_wp2
        first | go_end0 | refine bodyPost_ret (results_none rfl _ _ _) rfl ?_
        rw [HN.out]
        exact ⟨rfl, (HB4.out.setCell hb _).setCell hb _, HF.out.1⟩
      | false =>
        obtain ⟨_, _, _, _, hP, _⟩ := HBAD.out
        have c3 := hP.bad
        have f3 := hP.free 3
        clear hP
        obtain ⟨q, d', d2, hd2, hd7, hq, c1, c2, f1, f2, hfin⟩ := HBAD.out.leave
        have HF := hid hfin
        clear hfin
        go_wp2
        first | go_end0 | refine bodyPost_ret (results_none rfl _ _ _) rfl ?_
        rw [HN.out]
        exact ⟨rfl, ((HB4.out.setCell hb _).setCell hb _).setCell hb _, HF.out.2⟩
    | some y =>
      obtain ⟨o, q⟩ := y
      rw [hsm] at hres
      have CL := hid (look_st R base s (d + 1) (k + 1) (ops ++ o) q w3 (by unfold maxLen; omega) hb hres)
      have HSM := hid hsm
      have hq := MSt.le hres
      have hsk := skipP_le s q hq
      clear hres hsm
      go_wp2_with fail
      refine CL.out.mono ?_
      rintro x w4 ⟨rfl, hst, hb4⟩
      have HB4 : Hid (Below base w w4) := HB3.out.trans hb4
      have HST := hid hst
      have hlk := look_is (s := s) (p := q) 41 (by decide)
      obtain ⟨ov4, hP, hrow, hne, hl, hps⟩ := hst
      have c1 := hP.place
      have f1 := hP.free 1
      have c2 := hP.deep
      have f2 := hP.free 2
      have f3 := hP.free 3
      have c3 := hP.bad
      have HPA := hid hP
      have HROW := hid hrow
      have HNE := hid hne
      clear hb4 CL HB3 hP hrow hne
      obtain ⟨lv, hlv⟩ : ∃ lv, lv = lookV s q := ⟨_, rfl⟩
      rw [← hlv] at hlk ⊢
      clear hlv
      by_cases hm : atP s (skipP s q) = some 41
      · have h41 : (lv == 41) = true := by rw [decide_eq_true hm] at hlk; exact hlk
        have HN := hid (inner_yes HSM.out hm)
        have hlt := at_lt hm
        have HFIN := hid (((mst_go HST.out hlt).dive d).less (k' := k + 1) (by omega))
        clear hlk hm
        obtain ⟨q1, hq1⟩ : ∃ q1, q1 = skipP s q := ⟨_, rfl⟩
        rw [← hq1] at c1 HN HFIN hlt hsk
        clear hq1
        go_wp2
        first | go_end0 | refine bodyPost_ret (results_none rfl _ _ _) rfl ?_
        rw [HN.out]
        exact ⟨rfl, (HB4.out.setCell hb _).setCell hb _, HFIN.out⟩
      · have h41 : (lv == 41) = false := by rw [decide_eq_false hm] at hlk; exact hlk
        have HN := hid (inner_no HSM.out hm)
        have HFIN : Hid (MBad (((w4.setCell ⟨R, 3, none⟩ (.bool true)).setCell ⟨R, 1, none⟩ (.int .i64 ((skipP s q + 1 : Nat) : Int))).setCell ⟨R, 2, none⟩ (.int .i64 (d : Int))) R base s d (e + 1)) :=
          ⟨skipP s q + 1, d, ov4, ops ++ o, ((HPA.out.mark true).go (skipP s q + 1)).dive d, row_put3 (row_put3 (row_put3 HROW.out HNE.out _ _) HNE.out _ _) HNE.out _ _, HNE.out, by omega, by omega, Nat.le_refl _, by omega⟩
        clear hlk hm
        obtain ⟨q1, hq1⟩ : ∃ q1, q1 = skipP s q := ⟨_, rfl⟩
        rw [← hq1] at c1 HFIN hsk
        clear hq1
        go_wp2
        first | go_end0 | refine bodyPost_ret (results_none rfl _ _ _) rfl ?_
        rw [HN.out]
        exact ⟨rfl, ((HB4.out.setCell hb _).setCell hb _).setCell hb _, HFIN.out⟩

end Go.Proofs.Ytaabcbpbijkmnab
