/- DERIVED. The model's reader of sums: numbers, and names. -/
import Derived.Test.YtaabcbpbijkmnabParRow0
import Derived.Test.YtaabcbpbijkmnabParInner
import Derived.Test.YtaabcbpbijkmnabNumWalks
namespace Go.Proofs.Ytaabcbpbijkmnab
open Go.RowKit

set_option maxHeartbeats 400000 in
theorem figS_any (c : Int) (w : World) :
    Calls Try.prog 40 #[.int .u8 c] w fun e w' => e = .returned (.bool (figB c)) ∧ w' = w := by
  unfold figB
  by_cases h1 : (48 : Int) ≤ c
  · go_enter Try.func40, Try.ntmps40
    go_wp2
    go_ret
    exact ⟨by simp [h1], rfl⟩
  · go_enter Try.func40, Try.ntmps40
    go_wp2
    go_ret
    exact ⟨by simp; omega, rfl⟩

set_option maxHeartbeats 400000 in
theorem firstS_any (c : Int) (w : World) :
    Calls Try.prog 56 #[.int .u8 c] w fun e w' => e = .returned (.bool (firstB c)) ∧ w' = w := by
  unfold firstB
  have CL := hid (fun W => letter_any c W)
  cases hl : lowB c with
  | true =>
    rw [hl] at CL
    clear hl
    go_enter Try.func56, Try.ntmps56
    go_wp2_with fail
    refine (CL.out _).mono ?_
    rintro e w1 ⟨rfl, rfl⟩
    go_wp2
    go_ret
    exact ⟨rfl, rfl⟩
  | false =>
    rw [hl] at CL
    clear hl
    go_enter Try.func56, Try.ntmps56
    go_wp2_with fail
    refine (CL.out _).mono ?_
    rintro e w1 ⟨rfl, rfl⟩
    go_wp2
    go_ret
    refine ⟨?_, rfl⟩
    first | rfl | (congr 2; by_cases h95 : c = 95 <;> simp [h95])

theorem MSt.drewN {w : World} {R base : Nat} {s : ByteArray} {d k : Nat} {ops : List Op3} {p : Nat} (h : MSt w R base s d k ops p) (n : Nat) : MSt (w.drewN n) R base s d k ops p := by
  obtain ⟨ov, h1, h2, h3, h4, h5⟩ := h
  exact ⟨ov, h1.drewN n, row_drew3 h2 n, h3, h4, h5⟩

theorem below_drewN (base : Nat) (w : World) (n : Nat) : Below base w (w.drewN n) := (Keeps.drewN (R := base) n).below _ _ (Nat.le_refl _) (Below.refl _ _)

theorem figN_yes {s : ByteArray} {q : Nat} (h : q < s.size) (hf : figB (s[q].toNat : Int) = true) : q + figN (restL s q) = q + 1 + figN (restL s (q + 1)) := by
  rw [restL_cons s q h, figN, if_pos hf]; omega

theorem figN_no {s : ByteArray} {q : Nat} (h : q < s.size) (hf : ¬ figB (s[q].toNat : Int) = true) : figN (restL s q) = 0 := by
  rw [restL_cons s q h, figN, if_neg hf]

theorem figN_end {s : ByteArray} {q : Nat} (h : ¬ q < s.size) : figN (restL s q) = 0 := by
  have : restL s q = [] := List.eq_nil_of_length_eq_zero (by rw [restL_len]; omega)
  rw [this]; rfl

theorem num_is {s : ByteArray} {p q : Nat} (h : q = p + figN (restL s p)) : (numOf (s.extract p q).data.toList < 0 → numM s p = none) ∧ (¬ numOf (s.extract p q).data.toList < 0 → numM s p = some ([(0, numOf (s.extract p q).data.toList, ⟨#[]⟩)], q) ∧ p < q) := by
  subst h
  rw [extract_rest]
  unfold numM numOf
  constructor
  · intro hz
    by_cases hn : isNum ((restL s p).take (figN (restL s p))) = true
    · have := (numOf_yes _ hn).1
      unfold numOf at this
      rw [if_pos hn] at hz this
      omega
    · rw [if_neg hn]
  · intro hz
    by_cases hn : isNum ((restL s p).take (figN (restL s p))) = true
    · rw [if_pos hn, if_pos hn]
      refine ⟨rfl, ?_⟩
      obtain ⟨c, t, e, _⟩ := num_first hn
      have : ((restL s p).take (figN (restL s p))).length ≤ figN (restL s p) := by rw [List.length_take]; exact Nat.min_le_left _ _
      rw [e] at this
      simp at this
      omega
    · rw [if_neg hn] at hz
      omega

set_option maxRecDepth 100000 in
set_option maxHeartbeats 6400000 in
theorem num_part (s : ByteArray) (hs : s.size ≤ 60) (d e : Nat) (hd : d ≤ 7) : PartM 41 s (numM s) d (e + 1) := by
  intro R base k ops p w hb h
  obtain ⟨i0, hi, hz0, hz1, hz2⟩ := info_parts infoOp
  have H := hid h
  have hp := h.le
  obtain ⟨ov0, hP, _, _, hl0, _⟩ := h
  have c1 := hP.place
  clear hP
  go_enter Try.func41, Try.ntmps41
  go_wp2
  clear c1
  go_loopg [8] (s.size - p) (fun gh _ wr => ∃ q : Nat, p ≤ q ∧ q ≤ s.size ∧ s.size - q ≤ gh ∧ q + figN (restL s q) = p + figN (restL s p) ∧ MSt wr R base s d (k + (q - p)) ops q ∧ Below base w wr)
  case atStart => exact ⟨p, Nat.le_refl _, hp, Nat.le_refl _, rfl, H.out.less (by omega), Below.refl _ _⟩
  case round =>
    obtain ⟨q, hpq, hq, hgq, hfg, hst, hbw⟩ := hrel
    have HST := hid hst
    have HB := hid hbw
    have HFG := hid hfg
    obtain ⟨ov, hP, _, _, _, _⟩ := hst
    have c0 := hP.text
    have c1 := hP.place
    have f1 := hP.free 1
    clear hP hbw hfg
    by_cases hlt : q < s.size
    · have hqI : (q : Int) < (s.size : Int) := by omega
      have hq0 : (0 : Int) ≤ (q : Int) := by omega
      by_cases hf : figB (s[q].toNat : Int) = true
      · have CF : Hid (∀ W, Calls Try.prog 40 #[.int .u8 (s[q].toNat : Int)] W fun e w' => e = .returned (.bool true) ∧ w' = W) := fun W => by have := figS_any (s[q].toNat : Int) W; rw [hf] at this; exact this
        have HF := hid hf
        clear hf
        go_wp2
        go_quiet ((go_at_call 40; exact Calls.quiet_of_same (CF.out _)))
        go_wp2
        go_roundg (s.size - (q + 1))
        case measure => omega
        case rel =>
          refine ⟨q + 1, by omega, by omega, Nat.le_refl _, by rw [← figN_yes hlt HF.out]; exact HFG.out, (mst_go (HST.out.drewN _) hlt).less (by omega), ?_⟩
          exact (HB.out.trans (below_drewN _ _ _)).setCell hb _
      · have hfF : figB (s[q].toNat : Int) = false := by simpa using hf
        have CF : Hid (∀ W, Calls Try.prog 40 #[.int .u8 (s[q].toNat : Int)] W fun e w' => e = .returned (.bool false) ∧ w' = W) := fun W => by have := figS_any (s[q].toNat : Int) W; rw [hfF] at this; exact this
        have HQE : Hid (q = p + figN (restL s p)) := by show _ = _; rw [← HFG.out, figN_no hlt hf]; rfl
        clear hf hfF
        go_wp2
        go_quiet ((go_at_call 40; exact Calls.quiet_of_same (CF.out _)))
        go_wp2_with fail
        obtain ⟨w2, hw2⟩ : ∃ w2, w2 = wr.drewN nq := ⟨_, rfl⟩
        have HST2 : Hid (MSt w2 R base s d (k + (q - p)) ops q) := by rw [hw2]; exact HST.out.drewN nq
        have HB2 : Hid (Below base w w2) := by rw [hw2]; exact HB.out.trans (below_drewN _ _ _)
        rw [← hw2]
        clear hw2 HST HB c0 c1 f1 HFG
        try clear CF
        obtain ⟨ov2, hP2, _, _, _, _⟩ := HST2.out
        have c0 := hP2.text
        have c1 := hP2.place
        clear hP2
        obtain ⟨z, hz⟩ : ∃ z, z = numOf (s.extract p q).data.toList := ⟨_, rfl⟩
        have CN : Hid (∀ W, Calls Try.prog 27 #[.string (s.extract p q)] W fun e w' => e = .returned (.int .i64 z) ∧ w' = W) := fun W => by rw [hz]; exact l1Num_any _ W (by rw [ByteArray.size_extract]; unfold maxLen; omega)
        have HNI := hid (num_is HQE.out)
        rw [← hz] at HNI
        clear hz HQE
        have hpqI : (p : Int) ≤ (q : Int) := by omega
        have hqsI : (q : Int) ≤ (s.size : Int) := by omega
        go_quiet ((go_at_call 27; exact Calls.quiet_of_same (CN.out _)))
        obtain ⟨w3, hw3⟩ : ∃ w3, w3 = w2.drewN nq := ⟨_, rfl⟩
        have HST3 : Hid (MSt w3 R base s d (k + (q - p)) ops q) := by rw [hw3]; exact HST2.out.drewN nq
        have HB3 : Hid (Below base w w3) := by rw [hw3]; exact HB2.out.trans (below_drewN _ _ _)
        rw [← hw3]
        clear hw3 HST2 HB2 c0 c1 CN
        obtain ⟨ov, hP, hrow, hne, hl, hps⟩ := HST3.out
        have HPA := hid hP
        have HNE := hid hne
        have HOLD := hP.old
        have c3 := hP.bad
        have f3 := hP.free 3
        have c4 := hP.out
        have f4 := hP.free 4
        clear hP hne
        obtain ⟨oa, cp, rfl⟩ := row_shape3 hrow
        have HROW := hid hrow
        by_cases hzn : z < 0
        · have hrow' := row_put3 hrow HNE.out 3 (.bool true)
          have HROW' := hid hrow'
          have HCN : Hid (∀ (j : Nat) x, [Value.int .u8 0, .int .i64 z, .string ⟨#[]⟩][j]? = some x → ((w3.setCell ⟨R, 3, none⟩ (.bool true)).alloc (.cells #[.int .u8 0, .int .i64 z, .string ⟨#[]⟩] 61)).cell? ((⟨w3.heap.size, 0, none⟩ : Addr).add j) = some x) := by
            have h := cell_new3 (w3.setCell ⟨R, 3, none⟩ (.bool true)) (.int .u8 0) (.int .i64 z) (.string ⟨#[]⟩) 61
            rw [show (w3.setCell ⟨R, 3, none⟩ (.bool true)).heap.size = w3.heap.size by simp] at h
            exact h
          have HPA' := hid (HPA.out.mark true)
          have HB3' : Hid (Below base w (w3.setCell ⟨R, 3, none⟩ (.bool true))) := HB3.out.setCell hb _
          clear hrow
          go_wp2_with (at_builtin; refine wpList_append_own _ rfl _ _ 38 rfl base 61 i0 (.agg #[.int .u8 0, .int .i64 0, .string ⟨#[]⟩]) 3 32 Try.underlying38 hi hz0 hz1 hz2 rfl (by decide) _ _ _ rfl (hrow'.alloc _) ⟨w3.heap.size, 0, none⟩ 1 1 [.int .u8 0, .int .i64 z, .string ⟨#[]⟩] rfl rfl (HCN.out) (by simp [Value.oneCell']) (by unfold maxLen; omega) (by omega) (by have := HOLD; simp; omega) ?_)
          intro v' w8 hown' hgrow _
          obtain ⟨oa', cp', rfl⟩ := row_shape3 hown'
          have HG8 := hid (mbad_push (e := e) (d := d) (0, z, ⟨#[]⟩) hb HPA'.out HNE.out HROW'.out (by omega) (by omega) (Nat.le_refl _) hd HB3'.out hgrow hown')
          have c4' := HG8.out.2.2.1
          have f4' := HG8.out.2.2.2
          clear hown' hgrow hrow'
          go_wp2
          first | go_end0 | refine bodyPost_ret (results_none rfl _ _ _) rfl ?_
          rw [HNI.out.1 hzn]
          exact ⟨rfl, HG8.out.2.1, HG8.out.1⟩
        · go_wp2_with (at_builtin; refine wpList_append_own _ rfl _ _ 38 rfl base 61 i0 (.agg #[.int .u8 0, .int .i64 0, .string ⟨#[]⟩]) 3 32 Try.underlying38 hi hz0 hz1 hz2 rfl (by decide) _ _ _ rfl (hrow.alloc _) ⟨w3.heap.size, 0, none⟩ 1 1 [.int .u8 0, .int .i64 z, .string ⟨#[]⟩] rfl rfl (cell_new3 _ _ _ _ _) (by simp [Value.oneCell']) (by unfold maxLen; omega) (by omega) (by have := HOLD; simp; omega) ?_)
          intro v' w8 hown' hgrow _
          obtain ⟨oa', cp', rfl⟩ := row_shape3 hown'
          have hpl := (HNI.out.2 hzn).2
          have HG8 := hid (mst_push (k := k + (q - p) - 1) (0, z, ⟨#[]⟩) hb HPA.out HNE.out HROW.out hl hps (by omega) HB3.out hgrow hown')
          have c4' := HG8.out.2.2.1
          have f4' := HG8.out.2.2.2
          clear hown' hgrow hrow
          go_wp2
          first | go_end0 | refine bodyPost_ret (results_none rfl _ _ _) rfl ?_
          rw [(HNI.out.2 hzn).1]
          exact ⟨rfl, HG8.out.2.1, HG8.out.1.less (by omega)⟩
    · have hqI : ¬ (q : Int) < (s.size : Int) := by omega
      have HQE : Hid (q = p + figN (restL s p)) := by show _ = _; rw [← HFG.out, figN_end hlt]; rfl
      go_wp2
      go_quiet (fail)
      go_wp2_with fail
      obtain ⟨w2, hw2⟩ : ∃ w2, w2 = wr.drewN nq := ⟨_, rfl⟩
      have HST2 : Hid (MSt w2 R base s d (k + (q - p)) ops q) := by rw [hw2]; exact HST.out.drewN nq
      have HB2 : Hid (Below base w w2) := by rw [hw2]; exact HB.out.trans (below_drewN _ _ _)
      rw [← hw2]
      clear hw2 HST HB c0 c1 f1 HFG
      try clear CF
      obtain ⟨ov2, hP2, _, _, _, _⟩ := HST2.out
      have c0 := hP2.text
      have c1 := hP2.place
      clear hP2
      obtain ⟨z, hz⟩ : ∃ z, z = numOf (s.extract p q).data.toList := ⟨_, rfl⟩
      have CN : Hid (∀ W, Calls Try.prog 27 #[.string (s.extract p q)] W fun e w' => e = .returned (.int .i64 z) ∧ w' = W) := fun W => by rw [hz]; exact l1Num_any _ W (by rw [ByteArray.size_extract]; unfold maxLen; omega)
      have HNI := hid (num_is HQE.out)
      rw [← hz] at HNI
      clear hz HQE
      have hpqI : (p : Int) ≤ (q : Int) := by omega
      have hqsI : (q : Int) ≤ (s.size : Int) := by omega
      go_quiet ((go_at_call 27; exact Calls.quiet_of_same (CN.out _)))
      obtain ⟨w3, hw3⟩ : ∃ w3, w3 = w2.drewN nq := ⟨_, rfl⟩
      have HST3 : Hid (MSt w3 R base s d (k + (q - p)) ops q) := by rw [hw3]; exact HST2.out.drewN nq
      have HB3 : Hid (Below base w w3) := by rw [hw3]; exact HB2.out.trans (below_drewN _ _ _)
      rw [← hw3]
      clear hw3 HST2 HB2 c0 c1 CN
      obtain ⟨ov, hP, hrow, hne, hl, hps⟩ := HST3.out
      have HPA := hid hP
      have HNE := hid hne
      have HOLD := hP.old
      have c3 := hP.bad
      have f3 := hP.free 3
      have c4 := hP.out
      have f4 := hP.free 4
      clear hP hne
      obtain ⟨oa, cp, rfl⟩ := row_shape3 hrow
      have HROW := hid hrow
      by_cases hzn : z < 0
      · have hrow' := row_put3 hrow HNE.out 3 (.bool true)
        have HROW' := hid hrow'
        have HCN : Hid (∀ (j : Nat) x, [Value.int .u8 0, .int .i64 z, .string ⟨#[]⟩][j]? = some x → ((w3.setCell ⟨R, 3, none⟩ (.bool true)).alloc (.cells #[.int .u8 0, .int .i64 z, .string ⟨#[]⟩] 61)).cell? ((⟨w3.heap.size, 0, none⟩ : Addr).add j) = some x) := by
          have h := cell_new3 (w3.setCell ⟨R, 3, none⟩ (.bool true)) (.int .u8 0) (.int .i64 z) (.string ⟨#[]⟩) 61
          rw [show (w3.setCell ⟨R, 3, none⟩ (.bool true)).heap.size = w3.heap.size by simp] at h
          exact h
        have HPA' := hid (HPA.out.mark true)
        have HB3' : Hid (Below base w (w3.setCell ⟨R, 3, none⟩ (.bool true))) := HB3.out.setCell hb _
        clear hrow
        go_wp2_with (at_builtin; refine wpList_append_own _ rfl _ _ 38 rfl base 61 i0 (.agg #[.int .u8 0, .int .i64 0, .string ⟨#[]⟩]) 3 32 Try.underlying38 hi hz0 hz1 hz2 rfl (by decide) _ _ _ rfl (hrow'.alloc _) ⟨w3.heap.size, 0, none⟩ 1 1 [.int .u8 0, .int .i64 z, .string ⟨#[]⟩] rfl rfl (HCN.out) (by simp [Value.oneCell']) (by unfold maxLen; omega) (by omega) (by have := HOLD; simp; omega) ?_)
        intro v' w8 hown' hgrow _
        obtain ⟨oa', cp', rfl⟩ := row_shape3 hown'
        have HG8 := hid (mbad_push (e := e) (d := d) (0, z, ⟨#[]⟩) hb HPA'.out HNE.out HROW'.out (by omega) (by omega) (Nat.le_refl _) hd HB3'.out hgrow hown')
        have c4' := HG8.out.2.2.1
        have f4' := HG8.out.2.2.2
        clear hown' hgrow hrow'
        go_wp2
        first | go_end0 | refine bodyPost_ret (results_none rfl _ _ _) rfl ?_
        rw [HNI.out.1 hzn]
        exact ⟨rfl, HG8.out.2.1, HG8.out.1⟩
      · go_wp2_with (at_builtin; refine wpList_append_own _ rfl _ _ 38 rfl base 61 i0 (.agg #[.int .u8 0, .int .i64 0, .string ⟨#[]⟩]) 3 32 Try.underlying38 hi hz0 hz1 hz2 rfl (by decide) _ _ _ rfl (hrow.alloc _) ⟨w3.heap.size, 0, none⟩ 1 1 [.int .u8 0, .int .i64 z, .string ⟨#[]⟩] rfl rfl (cell_new3 _ _ _ _ _) (by simp [Value.oneCell']) (by unfold maxLen; omega) (by omega) (by have := HOLD; simp; omega) ?_)
        intro v' w8 hown' hgrow _
        obtain ⟨oa', cp', rfl⟩ := row_shape3 hown'
        have hpl := (HNI.out.2 hzn).2
        have HG8 := hid (mst_push (k := k + (q - p) - 1) (0, z, ⟨#[]⟩) hb HPA.out HNE.out HROW.out hl hps (by omega) HB3.out hgrow hown')
        have c4' := HG8.out.2.2.1
        have f4' := HG8.out.2.2.2
        clear hown' hgrow hrow
        go_wp2
        first | go_end0 | refine bodyPost_ret (results_none rfl _ _ _) rfl ?_
        rw [(HNI.out.2 hzn).1]
        exact ⟨rfl, HG8.out.2.1, HG8.out.1.less (by omega)⟩

/-- How far a name goes. -/
def nameEnd (s : ByteArray) (q : Nat) : Nat := match atP s q with
  | some c => if firstB (c.toNat : Int) = true then q + leadN (restL s q) else q
  | none => q

theorem nocap_name {s : ByteArray} (h : NoCap s) {i : Nat} (hi : i < s.size) : nameB (s[i].toNat : Int) = (firstB (s[i].toNat : Int) || figB (s[i].toNat : Int)) := by
  have := h i s[i] (atP_some s i hi)
  unfold nameB firstB
  have e : (decide (65 ≤ (s[i].toNat : Int)) && decide ((s[i].toNat : Int) ≤ 90)) = false := by
    rw [Bool.and_eq_false_iff]
    by_cases h1 : 65 ≤ (s[i].toNat : Int)
    · right; simp; omega
    · left; simp; omega
  rw [e]
  cases lowB (s[i].toNat : Int) <;> cases figB (s[i].toNat : Int) <;> simp

theorem leadN_yes {s : ByteArray} {q : Nat} (h : q < s.size) (hf : nameB (s[q].toNat : Int) = true) : q + leadN (restL s q) = q + 1 + leadN (restL s (q + 1)) := by
  rw [restL_cons s q h, leadN, if_pos hf]; omega

theorem leadN_no {s : ByteArray} {q : Nat} (h : q < s.size) (hf : nameB (s[q].toNat : Int) = false) : leadN (restL s q) = 0 := by
  rw [restL_cons s q h, leadN, if_neg (by rw [hf]; decide)]

theorem leadN_end {s : ByteArray} {q : Nat} (h : ¬ q < s.size) : leadN (restL s q) = 0 := by
  have : restL s q = [] := List.eq_nil_of_length_eq_zero (by rw [restL_len]; omega)
  rw [this]; rfl

set_option maxRecDepth 100000 in
set_option maxHeartbeats 3200000 in
theorem name_any (s : ByteArray) (hs : s.size ≤ 60) (hcap : NoCap s) (q : Nat) (hq : q ≤ s.size) (w : World) :
    Calls Try.prog 42 #[.string s, .int .i64 (q : Int)] w fun e w' => e = .returned (.int .i64 (nameEnd s q : Int)) ∧ w' = w := by
  have HC := hid hcap
  clear hcap
  by_cases hlt : q < s.size
  · have hqI : ¬ (s.size : Int) ≤ (q : Int) := by omega
    have hq0 : (0 : Int) ≤ (q : Int) := by omega
    have hqJ : (q : Int) < (s.size : Int) := by omega
    have CF := hid (fun W => firstS_any (s[q].toNat : Int) W)
    have HNE : Hid (nameEnd s q = if firstB (s[q].toNat : Int) = true then q + leadN (restL s q) else q) := by show _ = _; unfold nameEnd; rw [atP_some s q hlt]
    cases hf : firstB (s[q].toNat : Int) with
    | false =>
      rw [hf] at CF HNE
      clear hf
      go_enter Try.func42, Try.ntmps42
      go_wp2_with fail
      refine (CF.out _).mono ?_
      rintro e w1 ⟨rfl, rfl⟩
      go_wp2
      go_ret
      rw [HNE.out]
      exact ⟨rfl, rfl⟩
    | true =>
      rw [hf] at CF HNE
      have HN1 := hid (leadN_yes hlt (by rw [nocap_name HC.out hlt, hf]; rfl))
      clear hf
      go_enter Try.func42, Try.ntmps42
      go_wp2_with fail
      refine (CF.out _).mono ?_
      rintro e w1 ⟨rfl, rfl⟩
      clear CF
      go_wp2
      go_loopg [5] (s.size - q) (fun gh v wr => ∃ i : Nat, v = .int .i64 (i : Int) ∧ q < i ∧ i ≤ s.size ∧ s.size - i ≤ gh ∧ i + leadN (restL s i) = q + leadN (restL s q) ∧ wr = w1)
      case atStart => exact ⟨q + 1, rfl, by omega, by omega, by omega, HN1.out.symm, rfl⟩
      case round =>
        obtain ⟨i, rfl, hqi, his, hgi, hle, rfl⟩ := hrel
        have HLE := hid hle
        clear hle HN1
        by_cases hil : i < s.size
        · have hiI : (i : Int) < (s.size : Int) := by omega
          have hi0 : (0 : Int) ≤ (i : Int) := by omega
          have CF := hid (fun W => firstS_any (s[i].toNat : Int) W)
          have CG := hid (fun W => figS_any (s[i].toNat : Int) W)
          have hnc := nocap_name HC.out hil
          cases hf : firstB (s[i].toNat : Int) with
          | true =>
            rw [hf] at CF hnc
            have HN1 := hid (leadN_yes hil (by rw [hnc]; rfl))
            clear hf hnc CG
            go_wp2_with fail
            refine (CF.out _).mono ?_
            rintro e w2 ⟨rfl, rfl⟩
            go_wp2
            go_roundg (s.size - (i + 1))
            case measure => omega
            case rel => exact ⟨i + 1, rfl, by omega, by omega, Nat.le_refl _, by rw [← HN1.out]; exact HLE.out, rfl⟩
          | false =>
            cases hg : figB (s[i].toNat : Int) with
            | true =>
              rw [hf, hg] at hnc
              rw [hf] at CF
              rw [hg] at CG
              have HN1 := hid (leadN_yes hil (by rw [hnc]; rfl))
              clear hf hg hnc
              go_wp2_with fail
              refine (CF.out _).mono ?_
              rintro e w2 ⟨rfl, rfl⟩
              go_wp2_with fail
              refine (CG.out _).mono ?_
              rintro e w2 ⟨rfl, rfl⟩
              go_wp2
              go_roundg (s.size - (i + 1))
              case measure => omega
              case rel => exact ⟨i + 1, rfl, by omega, by omega, Nat.le_refl _, by rw [← HN1.out]; exact HLE.out, rfl⟩
            | false =>
              rw [hf, hg] at hnc
              rw [hf] at CF
              rw [hg] at CG
              have HE : Hid (nameEnd s q = i) := by show _ = _; rw [HNE.out, if_pos (by trivial), ← HLE.out, leadN_no hil (by rw [hnc]; rfl)]; rfl
              clear hf hg hnc
              go_wp2_with fail
              refine (CF.out _).mono ?_
              rintro e w2 ⟨rfl, rfl⟩
              go_wp2_with fail
              refine (CG.out _).mono ?_
              rintro e w2 ⟨rfl, rfl⟩
              go_wp2
              go_ret
              rw [HE.out]
              exact ⟨rfl, rfl⟩
        · have hiI : ¬ (i : Int) < (s.size : Int) := by omega
          have HE : Hid (nameEnd s q = i) := by show _ = _; rw [HNE.out, if_pos (by trivial), ← HLE.out, leadN_end hil]; rfl
          go_wp2
          go_ret
          rw [HE.out]
          exact ⟨rfl, rfl⟩
  · have hqI : (s.size : Int) ≤ (q : Int) := by omega
    have HNE : Hid (nameEnd s q = q) := by show _ = _; unfold nameEnd; rw [atP_none s q (by omega)]
    go_enter Try.func42, Try.ntmps42
    go_wp2
    go_ret
    rw [HNE.out]
    exact ⟨rfl, rfl⟩

end Go.Proofs.Ytaabcbpbijkmnab
