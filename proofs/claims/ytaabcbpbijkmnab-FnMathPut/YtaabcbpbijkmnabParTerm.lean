/- DERIVED. The model's reader of sums: term. -/
import Derived.Test.YtaabcbpbijkmnabParRow0
namespace Go.Proofs.Ytaabcbpbijkmnab
open Go.RowKit

set_option maxRecDepth 100000 in
set_option maxHeartbeats 12800000 in
theorem term_part (s : ByteArray) (hs : s.size ≤ 60) (mp : Nat → MRes) (d e : Nat) (he : e ≤ 100) (hmo : Onward s mp) (hpr : PartM 31 s mp d e) : PartM 26 s (rowM s true mp) d (e + 1) := by
  intro R base k ops p w hb h
  obtain ⟨i0, hi, hz0, hz1, hz2⟩ := info_parts infoOp
  have CP := hid (hpr R base k ops p w hb h)
  have HP := hid hpr
  clear h hpr
  go_enter Try.func26, Try.ntmps26
  go_wp2_with fail
  refine CP.out.mono ?_
  rintro x w1 ⟨rfl, hb1, hres⟩
  have HRES : Hid (RowRel s true mp p R base d k e ops w w1 (s.size + 1)) := row_start hb1 hres
  clear hb1 hres CP
  go_wp2
  go_loopg [2] (s.size + 1) (fun gh _ wr => RowRel s true mp p R base d k e ops w wr gh)
  case atStart => exact HRES.out
  case round =>
    obtain ⟨hbw, hcase⟩ := hrel
    have HB := hid hbw
    clear hbw HRES
    rcases hcase with ⟨ol, q, hst, hg, hlp⟩ | ⟨hbad, hnone⟩
    · have hq := hst.le
      have HST := hid hst
      have HLP := hid hlp
      obtain ⟨g', hg'⟩ : ∃ g', gk = g' + 1 := ⟨gk - 1, by omega⟩
      subst hg'
      obtain ⟨ov, hP, _, _, _, _⟩ := hst
      have c3 := hP.bad
      clear hP hlp
      have hsk := skipP_le s q hq
      have hid1 := skipP_idem s q s.size (by omega)
      have HLK := hid (fun lv (hlv : lv = lookV s q) => look_same R base s hs hb d k (ops ++ ol) q (skipP s q) lv rfl hlv)
      have HQ := hid hq
      have HG := hid hg
      clear hq hg
      cases hsg : (signP s true q).1 with
      | none =>
        obtain ⟨_, hne⟩ := sign_none hsg
        have HR : Hid (rowM s true mp p = some (ol, skipP s q)) := by show _ = _; rw [← HLP.out, loop_end hsg]
        obtain ⟨lv, hlv⟩ : ∃ lv, lv = lookV s q := ⟨_, rfl⟩
        have h42 : (lv == 42) = false := by rw [hlv]; exact hne 42 (by decide) (by decide)
        have h47 : (lv == 47) = false := by rw [hlv]; exact hne 47 (by decide) (by decide)
        have h37 : (lv == 37) = false := by rw [hlv]; exact hne 37 (by decide) (by decide)
        have CL := hid (HLK.out lv hlv)
        clear hlv hne hsg HLP HLK
        obtain ⟨q1, hq1⟩ : ∃ q1, q1 = skipP s q := ⟨_, rfl⟩
        have HQ1 := hid hq1
        rw [← hq1] at CL HR hid1 hsk
        clear hq1
        go_wp2_with fail
        refine (CL.out _ q HQ1.out.symm HST.out).mono ?_
        rintro x w2 ⟨rfl, hst2, hb2⟩
        have HST2 := hid hst2
        have HB2 : Hid (Below base w w2) := HB.out.trans hb2
        clear hst2 hb2
        go_wp2_with fail
        refine (CL.out _ q1 hid1 HST2.out).mono ?_
        rintro x w3 ⟨rfl, hst2, hb2⟩
        have HST3 := hid hst2
        have HB3 : Hid (Below base w w3) := HB2.out.trans hb2
        clear hst2 hb2
        go_wp2_with fail
        refine (CL.out _ q1 hid1 HST3.out).mono ?_
        rintro x w4 ⟨rfl, hst2, hb2⟩
        have HST4 := hid hst2
        have HB4 : Hid (Below base w w4) := HB3.out.trans hb2
        clear hst2 hb2
        go_wp2
        first | go_end0 | refine bodyPost_ret (results_none rfl _ _ _) rfl ?_
        rw [HR.out]
        exact ⟨rfl, HB4.out, HST4.out⟩
      | some c =>
        have hsb := sign_is hsg
        obtain ⟨_, hlv, hlt⟩ := sign_some hsg
        have HLP2 : Hid (rowM s true mp p = match mp (skipP s q + 1) with
            | none => none
            | some (o, q2) => loopM s true mp g' (ol ++ (o ++ [(c, 0, ⟨#[]⟩)])) q2) := HLP.out.symm.trans (loop_next hsg)
        clear hsg HLP
        obtain ⟨q1, hq1⟩ : ∃ q1, q1 = skipP s q := ⟨_, rfl⟩
        have HQ1 := hid hq1
        rw [← hq1] at HLK HLP2 hlt hid1 hsk
        clear hq1
        rcases tight_signs hsb with rfl | rfl | rfl
        · have CL := hid (HLK.out 42 hlv)
          clear hlv HLK hsb
          go_wp2_with fail
          refine (CL.out _ q HQ1.out.symm HST.out).mono ?_
          rintro x w2 ⟨rfl, hst2, hb2⟩
          have HST2 := hid hst2
          have HB2 : Hid (Below base w w2) := HB.out.trans hb2
          clear hst2 hb2 HST HB
          go_wp2_with fail
          refine (CL.out _ q1 hid1 HST2.out).mono ?_
          rintro x w3 ⟨rfl, hst2, hb2⟩
          have HST3 := hid hst2
          have HB3 : Hid (Below base w w3) := HB2.out.trans hb2
          clear hst2 hb2 HST2 HB2
          obtain ⟨ov1, hP, _, _, _, _⟩ := HST3.out
          have c1 := hP.place
          have f1 := hP.free 1
          clear hP
          go_wp2_with fail
          refine (HP.out R base (k + 1) (ops ++ ol) (q1 + 1) _ hb (mst_go HST3.out hlt)).mono ?_
          rintro x w7 ⟨rfl, hb7, hres⟩
          have HB7 : Hid (Below base w w7) := (HB3.out.setCell hb _).trans hb7
          clear hb7 c1 f1 HST3 HB3 CL
          cases hm : mp (q1 + 1) with
          | none =>
            rw [hm] at hres
            have HN : Hid (rowM s true mp p = none) := by show _ = _; rw [HLP2.out, hm]
            clear hm HLP2
            obtain ⟨q2, d', ov, ops2, hP, hrow, hne, hl, hq2, h6, h7⟩ := hres
            have HPA := hid hP
            have HNE := hid hne
            have HOLD := hP.old
            have c4 := hP.out
            have f4 := hP.free 4
            clear hP hne
            obtain ⟨oa, cp, rfl⟩ := row_shape3 hrow
            have HROW := hid hrow
            go_wp2_with (at_builtin; refine wpList_append_own _ rfl _ _ 38 rfl base 61 i0 (.agg #[.int .u8 0, .int .i64 0, .string ⟨#[]⟩]) 3 32 Try.underlying38 hi hz0 hz1 hz2 rfl (by decide) _ _ _ rfl (hrow.alloc _) ⟨w7.heap.size, 0, none⟩ 1 1 [.int .u8 42, .int .i64 0, .string ⟨#[]⟩] rfl rfl (cell_new3 _ _ _ _ _) (by simp [Value.oneCell']) (by unfold maxLen; omega) (by omega) (by have := HOLD; simp; omega) ?_)
            intro v' w8 hown' hgrow _
            obtain ⟨oa', cp', rfl⟩ := row_shape3 hown'
            have HG8 := hid (mbad_push (42, 0, ⟨#[]⟩) hb HPA.out HNE.out HROW.out hl hq2 h6 h7 HB7.out hgrow hown')
            have c4' := HG8.out.2.2.1
            have f4' := HG8.out.2.2.2
            clear hown' hgrow hrow
            go_wp2
            go_roundg g'
            case measure => omega
            case rel => exact ⟨HG8.out.2.1, Or.inr ⟨HG8.out.1, HN.out⟩⟩
          | some y =>
            obtain ⟨o, q2⟩ := y
            rw [hm] at hres
            have hon := hmo (q1 + 1) o q2 (by omega) hm
            have HN : Hid (loopM s true mp g' (ol ++ (o ++ [(42, 0, ⟨#[]⟩)])) q2 = rowM s true mp p) := by show _ = _; rw [HLP2.out, hm]
            clear hm HLP2
            obtain ⟨ov, hP, hrow, hne, hl, hps⟩ := hres
            obtain ⟨ops3, hops⟩ : ∃ l, l = ops ++ ol ++ o := ⟨_, rfl⟩
            have HOPS := hid hops
            rw [← hops] at hrow hl
            clear hops
            have HPA := hid hP
            have HNE := hid hne
            have HOLD := hP.old
            have c4 := hP.out
            have f4 := hP.free 4
            clear hP hne
            obtain ⟨oa, cp, rfl⟩ := row_shape3 hrow
            have HROW := hid hrow
            go_wp2_with (at_builtin; refine wpList_append_own _ rfl _ _ 38 rfl base 61 i0 (.agg #[.int .u8 0, .int .i64 0, .string ⟨#[]⟩]) 3 32 Try.underlying38 hi hz0 hz1 hz2 rfl (by decide) _ _ _ rfl (hrow.alloc _) ⟨w7.heap.size, 0, none⟩ 1 1 [.int .u8 42, .int .i64 0, .string ⟨#[]⟩] rfl rfl (cell_new3 _ _ _ _ _) (by simp [Value.oneCell']) (by unfold maxLen; omega) (by omega) (by have := HOLD; simp; omega) ?_)
            intro v' w8 hown' hgrow _
            obtain ⟨oa', cp', rfl⟩ := row_shape3 hown'
            have HG8 := hid (mst_push (k := k) (42, 0, ⟨#[]⟩) hb HPA.out HNE.out HROW.out hl hps rfl HB7.out hgrow hown')
            have c4' := HG8.out.2.2.1
            have f4' := HG8.out.2.2.2
            clear hown' hgrow hrow
            go_wp2
            go_roundg g'
            case measure => omega
            case rel =>
              refine ⟨HG8.out.2.1, Or.inl ⟨ol ++ (o ++ [(42, 0, ⟨#[]⟩)]), q2, ?_, (by have := HG.out; have := HQ.out; have := HQ1.out; omega), HN.out⟩⟩
              have key : ops ++ (ol ++ (o ++ [((42, 0, ⟨#[]⟩) : Op3)])) = ops3 ++ [(42, 0, ⟨#[]⟩)] := by
                rw [HOPS.out]; simp only [List.append_assoc]
              rw [key]
              exact HG8.out.1
        · have CL := hid (HLK.out 47 hlv)
          clear hlv HLK hsb
          go_wp2_with fail
          refine (CL.out _ q HQ1.out.symm HST.out).mono ?_
          rintro x w2 ⟨rfl, hst2, hb2⟩
          have HST2 := hid hst2
          have HB2 : Hid (Below base w w2) := HB.out.trans hb2
          clear hst2 hb2 HST HB
          go_wp2_with fail
          refine (CL.out _ q1 hid1 HST2.out).mono ?_
          rintro x w3 ⟨rfl, hst2, hb2⟩
          have HST3 := hid hst2
          have HB3 : Hid (Below base w w3) := HB2.out.trans hb2
          clear hst2 hb2 HST2 HB2
          go_wp2_with fail
          refine (CL.out _ q1 hid1 HST3.out).mono ?_
          rintro x w4 ⟨rfl, hst2, hb2⟩
          have HST4 := hid hst2
          have HB4 : Hid (Below base w w4) := HB3.out.trans hb2
          clear hst2 hb2 HST3 HB3
          obtain ⟨ov1, hP, _, _, _, _⟩ := HST4.out
          have c1 := hP.place
          have f1 := hP.free 1
          clear hP
          go_wp2_with fail
          refine (HP.out R base (k + 1) (ops ++ ol) (q1 + 1) _ hb (mst_go HST4.out hlt)).mono ?_
          rintro x w7 ⟨rfl, hb7, hres⟩
          have HB7 : Hid (Below base w w7) := (HB4.out.setCell hb _).trans hb7
          clear hb7 c1 f1 HST4 HB4 CL
          cases hm : mp (q1 + 1) with
          | none =>
            rw [hm] at hres
            have HN : Hid (rowM s true mp p = none) := by show _ = _; rw [HLP2.out, hm]
            clear hm HLP2
            obtain ⟨q2, d', ov, ops2, hP, hrow, hne, hl, hq2, h6, h7⟩ := hres
            have HPA := hid hP
            have HNE := hid hne
            have HOLD := hP.old
            have c4 := hP.out
            have f4 := hP.free 4
            clear hP hne
            obtain ⟨oa, cp, rfl⟩ := row_shape3 hrow
            have HROW := hid hrow
            go_wp2_with (at_builtin; refine wpList_append_own _ rfl _ _ 38 rfl base 61 i0 (.agg #[.int .u8 0, .int .i64 0, .string ⟨#[]⟩]) 3 32 Try.underlying38 hi hz0 hz1 hz2 rfl (by decide) _ _ _ rfl (hrow.alloc _) ⟨w7.heap.size, 0, none⟩ 1 1 [.int .u8 47, .int .i64 0, .string ⟨#[]⟩] rfl rfl (cell_new3 _ _ _ _ _) (by simp [Value.oneCell']) (by unfold maxLen; omega) (by omega) (by have := HOLD; simp; omega) ?_)
            intro v' w8 hown' hgrow _
            obtain ⟨oa', cp', rfl⟩ := row_shape3 hown'
            have HG8 := hid (mbad_push (47, 0, ⟨#[]⟩) hb HPA.out HNE.out HROW.out hl hq2 h6 h7 HB7.out hgrow hown')
            have c4' := HG8.out.2.2.1
            have f4' := HG8.out.2.2.2
            clear hown' hgrow hrow
            go_wp2
            go_roundg g'
            case measure => omega
            case rel => exact ⟨HG8.out.2.1, Or.inr ⟨HG8.out.1, HN.out⟩⟩
          | some y =>
            obtain ⟨o, q2⟩ := y
            rw [hm] at hres
            have hon := hmo (q1 + 1) o q2 (by omega) hm
            have HN : Hid (loopM s true mp g' (ol ++ (o ++ [(47, 0, ⟨#[]⟩)])) q2 = rowM s true mp p) := by show _ = _; rw [HLP2.out, hm]
            clear hm HLP2
            obtain ⟨ov, hP, hrow, hne, hl, hps⟩ := hres
            obtain ⟨ops3, hops⟩ : ∃ l, l = ops ++ ol ++ o := ⟨_, rfl⟩
            have HOPS := hid hops
            rw [← hops] at hrow hl
            clear hops
            have HPA := hid hP
            have HNE := hid hne
            have HOLD := hP.old
            have c4 := hP.out
            have f4 := hP.free 4
            clear hP hne
            obtain ⟨oa, cp, rfl⟩ := row_shape3 hrow
            have HROW := hid hrow
            go_wp2_with (at_builtin; refine wpList_append_own _ rfl _ _ 38 rfl base 61 i0 (.agg #[.int .u8 0, .int .i64 0, .string ⟨#[]⟩]) 3 32 Try.underlying38 hi hz0 hz1 hz2 rfl (by decide) _ _ _ rfl (hrow.alloc _) ⟨w7.heap.size, 0, none⟩ 1 1 [.int .u8 47, .int .i64 0, .string ⟨#[]⟩] rfl rfl (cell_new3 _ _ _ _ _) (by simp [Value.oneCell']) (by unfold maxLen; omega) (by omega) (by have := HOLD; simp; omega) ?_)
            intro v' w8 hown' hgrow _
            obtain ⟨oa', cp', rfl⟩ := row_shape3 hown'
            have HG8 := hid (mst_push (k := k) (47, 0, ⟨#[]⟩) hb HPA.out HNE.out HROW.out hl hps rfl HB7.out hgrow hown')
            have c4' := HG8.out.2.2.1
            have f4' := HG8.out.2.2.2
            clear hown' hgrow hrow
            go_wp2
            go_roundg g'
            case measure => omega
            case rel =>
              refine ⟨HG8.out.2.1, Or.inl ⟨ol ++ (o ++ [(47, 0, ⟨#[]⟩)]), q2, ?_, (by have := HG.out; have := HQ.out; have := HQ1.out; omega), HN.out⟩⟩
              have key : ops ++ (ol ++ (o ++ [((47, 0, ⟨#[]⟩) : Op3)])) = ops3 ++ [(47, 0, ⟨#[]⟩)] := by
                rw [HOPS.out]; simp only [List.append_assoc]
              rw [key]
              exact HG8.out.1
        · have CL := hid (HLK.out 37 hlv)
          clear hlv HLK hsb
          go_wp2_with fail
          refine (CL.out _ q HQ1.out.symm HST.out).mono ?_
          rintro x w2 ⟨rfl, hst2, hb2⟩
          have HST2 := hid hst2
          have HB2 : Hid (Below base w w2) := HB.out.trans hb2
          clear hst2 hb2 HST HB
          go_wp2_with fail
          refine (CL.out _ q1 hid1 HST2.out).mono ?_
          rintro x w3 ⟨rfl, hst2, hb2⟩
          have HST3 := hid hst2
          have HB3 : Hid (Below base w w3) := HB2.out.trans hb2
          clear hst2 hb2 HST2 HB2
          go_wp2_with fail
          refine (CL.out _ q1 hid1 HST3.out).mono ?_
          rintro x w4 ⟨rfl, hst2, hb2⟩
          have HST4 := hid hst2
          have HB4 : Hid (Below base w w4) := HB3.out.trans hb2
          clear hst2 hb2 HST3 HB3
          go_wp2_with fail
          refine (CL.out _ q1 hid1 HST4.out).mono ?_
          rintro x w5 ⟨rfl, hst2, hb2⟩
          have HST5 := hid hst2
          have HB5 : Hid (Below base w w5) := HB4.out.trans hb2
          clear hst2 hb2 HST4 HB4
          obtain ⟨ov1, hP, _, _, _, _⟩ := HST5.out
          have c1 := hP.place
          have f1 := hP.free 1
          clear hP
          go_wp2_with fail
          refine (HP.out R base (k + 1) (ops ++ ol) (q1 + 1) _ hb (mst_go HST5.out hlt)).mono ?_
          rintro x w7 ⟨rfl, hb7, hres⟩
          have HB7 : Hid (Below base w w7) := (HB5.out.setCell hb _).trans hb7
          clear hb7 c1 f1 HST5 HB5 CL
          cases hm : mp (q1 + 1) with
          | none =>
            rw [hm] at hres
            have HN : Hid (rowM s true mp p = none) := by show _ = _; rw [HLP2.out, hm]
            clear hm HLP2
            obtain ⟨q2, d', ov, ops2, hP, hrow, hne, hl, hq2, h6, h7⟩ := hres
            have HPA := hid hP
            have HNE := hid hne
            have HOLD := hP.old
            have c4 := hP.out
            have f4 := hP.free 4
            clear hP hne
            obtain ⟨oa, cp, rfl⟩ := row_shape3 hrow
            have HROW := hid hrow
            go_wp2_with (at_builtin; refine wpList_append_own _ rfl _ _ 38 rfl base 61 i0 (.agg #[.int .u8 0, .int .i64 0, .string ⟨#[]⟩]) 3 32 Try.underlying38 hi hz0 hz1 hz2 rfl (by decide) _ _ _ rfl (hrow.alloc _) ⟨w7.heap.size, 0, none⟩ 1 1 [.int .u8 37, .int .i64 0, .string ⟨#[]⟩] rfl rfl (cell_new3 _ _ _ _ _) (by simp [Value.oneCell']) (by unfold maxLen; omega) (by omega) (by have := HOLD; simp; omega) ?_)
            intro v' w8 hown' hgrow _
            obtain ⟨oa', cp', rfl⟩ := row_shape3 hown'
            have HG8 := hid (mbad_push (37, 0, ⟨#[]⟩) hb HPA.out HNE.out HROW.out hl hq2 h6 h7 HB7.out hgrow hown')
            have c4' := HG8.out.2.2.1
            have f4' := HG8.out.2.2.2
            clear hown' hgrow hrow
            go_wp2
            go_roundg g'
            case measure => omega
            case rel => exact ⟨HG8.out.2.1, Or.inr ⟨HG8.out.1, HN.out⟩⟩
          | some y =>
            obtain ⟨o, q2⟩ := y
            rw [hm] at hres
            have hon := hmo (q1 + 1) o q2 (by omega) hm
            have HN : Hid (loopM s true mp g' (ol ++ (o ++ [(37, 0, ⟨#[]⟩)])) q2 = rowM s true mp p) := by show _ = _; rw [HLP2.out, hm]
            clear hm HLP2
            obtain ⟨ov, hP, hrow, hne, hl, hps⟩ := hres
            obtain ⟨ops3, hops⟩ : ∃ l, l = ops ++ ol ++ o := ⟨_, rfl⟩
            have HOPS := hid hops
            rw [← hops] at hrow hl
            clear hops
            have HPA := hid hP
            have HNE := hid hne
            have HOLD := hP.old
            have c4 := hP.out
            have f4 := hP.free 4
            clear hP hne
            obtain ⟨oa, cp, rfl⟩ := row_shape3 hrow
            have HROW := hid hrow
            go_wp2_with (at_builtin; refine wpList_append_own _ rfl _ _ 38 rfl base 61 i0 (.agg #[.int .u8 0, .int .i64 0, .string ⟨#[]⟩]) 3 32 Try.underlying38 hi hz0 hz1 hz2 rfl (by decide) _ _ _ rfl (hrow.alloc _) ⟨w7.heap.size, 0, none⟩ 1 1 [.int .u8 37, .int .i64 0, .string ⟨#[]⟩] rfl rfl (cell_new3 _ _ _ _ _) (by simp [Value.oneCell']) (by unfold maxLen; omega) (by omega) (by have := HOLD; simp; omega) ?_)
            intro v' w8 hown' hgrow _
            obtain ⟨oa', cp', rfl⟩ := row_shape3 hown'
            have HG8 := hid (mst_push (k := k) (37, 0, ⟨#[]⟩) hb HPA.out HNE.out HROW.out hl hps rfl HB7.out hgrow hown')
            have c4' := HG8.out.2.2.1
            have f4' := HG8.out.2.2.2
            clear hown' hgrow hrow
            go_wp2
            go_roundg g'
            case measure => omega
            case rel =>
              refine ⟨HG8.out.2.1, Or.inl ⟨ol ++ (o ++ [(37, 0, ⟨#[]⟩)]), q2, ?_, (by have := HG.out; have := HQ.out; have := HQ1.out; omega), HN.out⟩⟩
              have key : ops ++ (ol ++ (o ++ [((37, 0, ⟨#[]⟩) : Op3)])) = ops3 ++ [(37, 0, ⟨#[]⟩)] := by
                rw [HOPS.out]; simp only [List.append_assoc]
              rw [key]
              exact HG8.out.1
    · have HBAD := hid hbad
      have HN := hid hnone
      obtain ⟨q2, d', ov, ops2, hP, _⟩ := hbad
      have c3 := hP.bad
      clear hP hnone
      go_wp2
      first | go_end0 | refine bodyPost_ret (results_none rfl _ _ _) rfl ?_
      rw [HN.out]
      exact ⟨rfl, HB.out, HBAD.out⟩

end Go.Proofs.Ytaabcbpbijkmnab
