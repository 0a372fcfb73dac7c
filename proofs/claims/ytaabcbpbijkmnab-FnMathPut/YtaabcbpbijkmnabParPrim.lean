/- DERIVED. The model's reader of sums: prim, by what is read within it. -/
import Derived.Test.YtaabcbpbijkmnabParNum
import Derived.Test.YtaabcbpbijkmnabParPlain2
import Derived.Deep.RegionHeld3
namespace Go.Proofs.Ytaabcbpbijkmnab
open Go.RowKit

theorem lead_take (l : List UInt8) : leadN (l.take (leadN l)) = leadN l := by
  induction l with
  | nil => rfl
  | cons a l ih =>
    by_cases hn : nameB (a.toNat : Int) = true
    · rw [leadN, if_pos hn, List.take_succ_cons, leadN, if_pos hn, ih]
    · rw [leadN, if_neg hn]; rfl

theorem lead_le (l : List UInt8) : leadN l ≤ l.length := by
  induction l with
  | nil => exact Nat.le_refl _
  | cons a l ih => rw [leadN]; split <;> simp; omega

theorem end_le (s : ByteArray) (q : Nat) (hq : q ≤ s.size) : q ≤ nameEnd s q ∧ nameEnd s q ≤ s.size := by
  have h1 := place_le hq (lead_le (restL s q))
  unfold nameEnd
  split
  · split <;> omega
  · omega

theorem at_extract {s : ByteArray} {q e i : Nat} {c : UInt8} (h : atP (s.extract q e) i = some c) : atP s (q + i) = some c := by
  unfold atP at h ⊢
  have hl : i < (s.extract q e).data.toList.length := (List.getElem?_eq_some_iff.1 h).1
  have e1 : (s.extract q e).data.toList = (s.data.toList.drop q).take (e - q) := by
    simp [ByteArray.data_extract, Array.toList_extract, List.extract_eq_take_drop]
  rw [e1] at h hl
  rw [List.getElem?_take_of_lt (by simp at hl; omega), List.getElem?_drop] at h
  exact h

theorem nocap_extract {s : ByteArray} (h : NoCap s) (q e : Nat) : NoCap (s.extract q e) := fun _ _ hc => h _ _ (at_extract hc)

theorem end_first {t : ByteArray} {q : Nat} {c : UInt8} (h : atP t q = some c) (hf : firstB (c.toNat : Int) = true) : nameEnd t q = q + leadN (restL t q) := by
  unfold nameEnd; rw [h]; exact if_pos hf

/-- A name that was read to its end is one to its end. -/
theorem end_again {s : ByteArray} {q : Nat} (hq : q ≤ s.size) : (s.extract q (nameEnd s q)).size = 0 ∨ nameEnd (s.extract q (nameEnd s q)) 0 = (s.extract q (nameEnd s q)).size := by
  have hle := end_le s q hq
  have hsz : (s.extract q (nameEnd s q)).size = nameEnd s q - q := by rw [ByteArray.size_extract]; omega
  cases hc : atP s q with
  | none =>
    left
    have he : nameEnd s q = q := by unfold nameEnd; rw [hc]
    rw [hsz]
    omega
  | some c =>
    by_cases hf : firstB (c.toNat : Int) = true
    · right
      have he : nameEnd s q = q + leadN (restL s q) := by unfold nameEnd; rw [hc]; exact if_pos hf
      have hpos : 0 < (s.extract q (nameEnd s q)).size := by
        rw [hsz, he]
        have hlt := at_lt hc
        rw [restL_cons s q hlt, leadN]
        have : s[q] = c := by have := atP_some s q hlt; rw [hc] at this; injection this with this; exact this.symm
        rw [this, if_pos (by unfold nameB firstB at *; simp at hf; rcases hf with hf | hf <;> simp [hf])]
        omega
      have h0 : atP (s.extract q (nameEnd s q)) 0 = some c := by
        have h1 := atP_some (s.extract q (nameEnd s q)) 0 hpos
        have h2 := at_extract h1
        rw [Nat.add_zero, hc] at h2
        rw [h1, h2]
      have hl : restL (s.extract q (nameEnd s q)) 0 = (restL s q).take (leadN (restL s q)) := by
        show (s.extract q (nameEnd s q)).data.toList.drop 0 = _
        rw [List.drop_zero, he]
        exact extract_rest s q _
      have e1 : nameEnd (s.extract q (nameEnd s q)) 0 = 0 + leadN (restL (s.extract q (nameEnd s q)) 0) := end_first h0 hf
      rw [e1, hl, lead_take, hsz, he]
      omega
    · left
      rw [hsz]
      have he : nameEnd s q = q := by unfold nameEnd; rw [hc]; exact if_neg hf
      omega

/-- Whether it is a name: so many bytes. -/
def sizeOk (t : ByteArray) : Bool := inB (t.size : Int) 1 6

theorem name_is {s : ByteArray} {q : Nat} (hq : q ≤ s.size) : nameM s q = if sizeOk (s.extract q (nameEnd s q)) = true then some ([(110, 0, s.extract q (nameEnd s q))], nameEnd s q) else none := by
  have hle := end_le s q hq
  have hsz : (s.extract q (nameEnd s q)).size = nameEnd s q - q := by rw [ByteArray.size_extract]; omega
  have hso : sizeOk (s.extract q (nameEnd s q)) = true ↔ 1 ≤ nameEnd s q - q ∧ nameEnd s q - q ≤ 6 := by
    unfold sizeOk inB
    rw [hsz, Bool.and_eq_true, decide_eq_true_eq, decide_eq_true_eq]
    omega
  unfold nameM
  cases hc : atP s q with
  | none =>
    have he : nameEnd s q = q := by unfold nameEnd; rw [hc]
    rw [if_neg (by rw [hso]; omega)]
  | some c =>
    dsimp only
    by_cases hf : firstB (c.toNat : Int) = true
    · have he : nameEnd s q = q + leadN (restL s q) := by unfold nameEnd; rw [hc]; exact if_pos hf
      have hpos : 1 ≤ leadN (restL s q) := by
        have hlt := at_lt hc
        rw [restL_cons s q hlt, leadN]
        have : s[q] = c := by have := atP_some s q hlt; rw [hc] at this; injection this with this; exact this.symm
        rw [this, if_pos (by unfold nameB firstB at *; simp at hf; rcases hf with hf | hf <;> simp [hf])]
        omega
      by_cases h6 : leadN (restL s q) ≤ 6
      · rw [if_pos ⟨hf, h6⟩, if_pos (by rw [hso]; omega), he]
        rfl
      · rw [if_neg (fun h => h6 h.2), if_neg (by rw [hso]; omega)]
    · have he : nameEnd s q = q := by unfold nameEnd; rw [hc]; exact if_neg hf
      rw [if_neg (fun h => hf h.1), if_neg (by rw [hso]; omega)]

set_option maxHeartbeats 800000 in
theorem nameOkS_any (t : ByteArray) (ht : t.size ≤ 60) (hcap : NoCap t) (hn : t.size = 0 ∨ nameEnd t 0 = t.size) (w : World) :
    Calls Try.prog 43 #[.string t] w fun e w' => e = .returned (.bool (sizeOk t)) ∧ w' = w := by
  have CI : Hid (∀ W, Calls Try.prog 28 #[.int .i64 (t.size : Int), .int .i64 1, .int .i64 6] W fun e w' => e = .returned (.bool (sizeOk t)) ∧ w' = W) := fun W => in_any (t.size : Int) 1 6 W
  have CN := hid (fun W => name_any t ht hcap 0 (Nat.zero_le _) W)
  cases hb : sizeOk t with
  | false =>
    rw [hb] at CI
    clear hb hn hcap
    go_enter Try.func43, Try.ntmps43
    go_wp2_with fail
    refine (CI.out _).mono ?_
    rintro e w1 ⟨rfl, rfl⟩
    go_wp2
    go_ret
    exact ⟨rfl, rfl⟩
  | true =>
    rw [hb] at CI
    have he : nameEnd t 0 = t.size := by
      rcases hn with h | h
      · unfold sizeOk inB at hb
        rw [h] at hb
        exact absurd hb (by decide)
      · exact h
    rw [he] at CN
    clear hb hn hcap he
    go_enter Try.func43, Try.ntmps43
    go_wp2_with fail
    refine (CI.out _).mono ?_
    rintro e w1 ⟨rfl, rfl⟩
    go_wp2_with fail
    refine (CN.out _).mono ?_
    rintro e w1 ⟨rfl, rfl⟩
    go_wp2
    go_ret
    exact ⟨by first | rfl | simp, rfl⟩

theorem prim_inner {s : ByteArray} {mi : Nat → MRes} {p : Nat} (h : (lookV s p == 40) = true) : primM s mi p = mi (skipP s p + 1) ∧ skipP s p < s.size := by
  have h2 := look_is (s := s) (p := p) 40 (by decide)
  have h3 : atP s (skipP s p) = some 40 := of_decide_eq_true (h2.symm.trans h)
  refine ⟨?_, at_lt h3⟩
  unfold primM
  rw [h3]
  rfl

theorem prim_num {s : ByteArray} {mi : Nat → MRes} {p : Nat} (h : (lookV s p == 40) = false) (hf : figB (lookV s p) = true) : primM s mi p = numM s (skipP s p) := by
  have h2 := look_is (s := s) (p := p) 40 (by decide)
  have h3 : ¬ atP s (skipP s p) = some 40 := of_decide_eq_false (h2.symm.trans h)
  unfold primM
  unfold lookV at hf
  cases hc : atP s (skipP s p) with
  | none => rw [hc] at hf; exact absurd hf (by decide)
  | some c =>
    rw [hc] at hf h3
    dsimp only at hf ⊢
    rw [if_neg (fun e => h3 (by rw [e])), if_pos hf]

theorem prim_name {s : ByteArray} {mi : Nat → MRes} {p : Nat} (h : (lookV s p == 40) = false) (hf : figB (lookV s p) = false) : primM s mi p = nameM s (skipP s p) := by
  have h2 := look_is (s := s) (p := p) 40 (by decide)
  have h3 : ¬ atP s (skipP s p) = some 40 := of_decide_eq_false (h2.symm.trans h)
  unfold primM
  unfold lookV at hf
  cases hc : atP s (skipP s p) with
  | none => unfold nameM; rw [hc]
  | some c =>
    rw [hc] at hf h3
    dsimp only at hf ⊢
    rw [if_neg (fun e => h3 (by rw [e])), if_neg (by rw [hf]; decide)]

/-- What inner does. -/
def InnerM (s : ByteArray) (n d e : Nat) : Prop := ∀ (R base k : Nat) (ops : List Op3) (p : Nat) (w : World), base ≤ R → MSt w R base s d k ops p → p < s.size →
    Calls Try.prog 39 #[.pointer (some ⟨R, 0, none⟩)] w fun x w' => x = .returned (.tuple #[]) ∧ Below base w w' ∧ AfterM w' R base s d (k + 1) (e + 1) ops (innerM s n (p + 1))

theorem after_less {w' : World} {R base : Nat} {s : ByteArray} {d k k' e : Nat} {ops : List Op3} {r : MRes} (h : AfterM w' R base s d k e ops r) (hk : k' ≤ k) : AfterM w' R base s d k' e ops r := by
  cases r with
  | none => exact h
  | some y => exact MSt.less h hk

set_option maxRecDepth 100000 in
set_option maxHeartbeats 6400000 in
theorem prim_part (s : ByteArray) (hs : s.size ≤ 60) (hcap : NoCap s) (n d e : Nat) (hd : d ≤ 7) (hin : InnerM s n d e) : PartM 35 s (primM s (innerM s n)) d (e + 1) := by
  intro R base k ops p w hb h
  obtain ⟨i0, hi, hz0, hz1, hz2⟩ := info_parts infoOp
  have hp := h.le
  have hsk := skipP_le s p hp
  have CL := hid (look_st R base s d k ops p w (by unfold maxLen; omega) hb h)
  have HIN := hid hin
  have HC := hid hcap
  obtain ⟨lv, hlv⟩ : ∃ lv, lv = lookV s p := ⟨_, rfl⟩
  have HA : Hid ((lv == 40) = true → primM s (innerM s n) p = innerM s n (skipP s p + 1) ∧ skipP s p < s.size) := fun h => prim_inner (by rw [← hlv]; exact h)
  have HBN : Hid ((lv == 40) = false → figB lv = true → primM s (innerM s n) p = numM s (skipP s p)) := fun h h2 => prim_num (by rw [← hlv]; exact h) (by rw [← hlv]; exact h2)
  have HCN : Hid ((lv == 40) = false → figB lv = false → primM s (innerM s n) p = nameM s (skipP s p)) := fun h h2 => prim_name (by rw [← hlv]; exact h) (by rw [← hlv]; exact h2)
  rw [← hlv] at CL
  obtain ⟨q1, hq1⟩ : ∃ q1, q1 = skipP s p := ⟨_, rfl⟩
  rw [← hq1] at CL HA HBN HCN hsk
  clear hq1 hlv h hin hcap
  go_enter Try.func35, Try.ntmps35
  go_wp2_with fail
  refine CL.out.mono ?_
  rintro x w1 ⟨rfl, hst1, hb1⟩
  have HST1 := hid hst1
  have HB1 := hid hb1
  clear hst1 hb1 CL
  cases h40 : (lv == 40) with
  | true =>
    obtain ⟨hpr, hlt⟩ := HA.out h40
    have HPR := hid hpr
    have C2 := hid (HIN.out R base k ops q1 w1 hb HST1.out hlt)
    clear hpr HA HBN HCN
    go_wp2_with fail
    refine C2.out.mono ?_
    rintro x w2 ⟨rfl, hb2, hres⟩
    have HB2 : Hid (Below base w w2) := HB1.out.trans hb2
    have HRES := hid hres
    clear hb2 hres C2
    go_wp2
    first | go_end0 | refine bodyPost_ret (results_none rfl _ _ _) rfl ?_
    rw [HPR.out]
    exact ⟨rfl, HB2.out, after_less HRES.out (by omega)⟩
  | false =>
    have CF := hid (fun W => figS_any lv W)
    cases hf : figB lv with
    | true =>
      have HPR := hid (HBN.out h40 hf)
      rw [hf] at CF
      have C2 := hid (num_part s hs d e hd R base k ops q1 w1 hb HST1.out)
      clear hf HA HBN HCN
      go_wp2_with fail
      refine (CF.out _).mono ?_
      rintro x w2 ⟨rfl, rfl⟩
      go_wp2_with fail
      refine C2.out.mono ?_
      rintro x w2 ⟨rfl, hb2, hres⟩
      have HB2 : Hid (Below base w w2) := HB1.out.trans hb2
      have HRES := hid hres
      clear hb2 hres C2
      go_wp2
      first | go_end0 | refine bodyPost_ret (results_none rfl _ _ _) rfl ?_
      rw [HPR.out]
      exact ⟨rfl, HB2.out, HRES.out⟩
    | false =>
      have HPR := hid ((HCN.out h40 hf).trans (name_is (s := s) (q := q1) hsk.2))
      rw [hf] at CF
      have hle := end_le s q1 hsk.2
      have CN := hid (fun W => name_any s hs HC.out q1 hsk.2 W)
      have CK := hid (fun W => nameOkS_any (s.extract q1 (nameEnd s q1)) (by rw [ByteArray.size_extract]; omega) (nocap_extract HC.out _ _) (end_again hsk.2) W)
      have HSZ : Hid (sizeOk (s.extract q1 (nameEnd s q1)) = true → q1 + 1 ≤ nameEnd s q1) := fun h => by
        have hsz : (s.extract q1 (nameEnd s q1)).size = nameEnd s q1 - q1 := by rw [ByteArray.size_extract]; omega
        unfold sizeOk inB at h
        rw [hsz, Bool.and_eq_true, decide_eq_true_eq, decide_eq_true_eq] at h
        omega
      obtain ⟨E, hE⟩ : ∃ E, E = nameEnd s q1 := ⟨_, rfl⟩
      rw [← hE] at HPR hle CN CK HSZ
      clear hf HA HBN HCN hE HC
      have hqE : (q1 : Int) ≤ (E : Int) := by omega
      have hEs : (E : Int) ≤ (s.size : Int) := by omega
      have hq0 : (0 : Int) ≤ (q1 : Int) := by omega
      go_wp2_with fail
      refine (CF.out _).mono ?_
      rintro x w2 ⟨rfl, rfl⟩
      clear CF
      obtain ⟨ov, hP, hrow, hne, hl, hps⟩ := HST1.out
      have c0 := hP.text
      have c1 := hP.place
      have HP1 := hid hP
      have HR1 := hid hrow
      have HNE := hid hne
      clear hP hrow hne
      go_wp2
      go_quiet ((go_at_call 42; exact Calls.quiet_of_same (CN.out _)))
      go_wp2_with fail
      obtain ⟨w3, hw3⟩ : ∃ w3, w3 = w2.drewN nq := ⟨_, rfl⟩
      have HP3 : Hid (PAt w3 R s q1 d false ov) := by rw [hw3]; exact HP1.out.drewN nq
      have HR3 : Hid (w3.ownsRow base 61 3 ov ops.length (ocells ops)) := by rw [hw3]; exact row_drew3 HR1.out nq
      have HB3 : Hid (Below base w w3) := by rw [hw3]; exact HB1.out.trans (below_drewN _ _ _)
      rw [← hw3]
      clear hw3 c0 c1 HP1 HR1 HB1 CN
      have c0 := HP3.out.text
      have c1 := HP3.out.place
      cases hok : sizeOk (s.extract q1 E) with
      | false =>
        rw [hok] at CK HPR
        clear hok HSZ
        go_quiet ((go_at_call 43; exact Calls.quiet_of_same (CK.out _)))
        obtain ⟨w4, hw4⟩ : ∃ w4, w4 = w3.drewN nq := ⟨_, rfl⟩
        have HP4 : Hid (PAt w4 R s q1 d false ov) := by rw [hw4]; exact HP3.out.drewN nq
        have HR4 : Hid (w4.ownsRow base 61 3 ov ops.length (ocells ops)) := by rw [hw4]; exact row_drew3 HR3.out nq
        have HB4 : Hid (Below base w w4) := by rw [hw4]; exact HB3.out.trans (below_drewN _ _ _)
        rw [← hw4]
        clear hw4 c0 c1 HP3 HR3 HB3 CK
        have c3 := HP4.out.bad
        have f3 := HP4.out.free 3
        go_wp2
        first | go_end0 | refine bodyPost_ret (results_none rfl _ _ _) rfl ?_
        rw [HPR.out]
        have hst : MSt w4 R base s d k ops q1 := ⟨ov, HP4.out, HR4.out, HNE.out, hl, hps⟩
        exact ⟨rfl, HB4.out.setCell hb _, hst.spoil hd _⟩
      | true =>
        have hE1 := HSZ.out hok
        rw [hok] at CK HPR
        clear hok HSZ
        go_quiet ((go_at_call 43; exact Calls.quiet_of_same (CK.out _)))
        go_wp2_with fail
        obtain ⟨w4, hw4⟩ : ∃ w4, w4 = w3.drewN nq := ⟨_, rfl⟩
        have HP4 : Hid (PAt w4 R s q1 d false ov) := by rw [hw4]; exact HP3.out.drewN nq
        have HR4 : Hid (w4.ownsRow base 61 3 ov ops.length (ocells ops)) := by rw [hw4]; exact row_drew3 HR3.out nq
        have HB4 : Hid (Below base w w4) := by rw [hw4]; exact HB3.out.trans (below_drewN _ _ _)
        rw [← hw4]
        clear hw4 c0 c1 HP3 HR3 HB3 CK
        obtain ⟨oa, cp, rfl⟩ := row_shape3 HR4.out
        have c0 := HP4.out.text
        have c1 := HP4.out.place
        have c4 := HP4.out.out
        refine wp_region_held_drew (S := fun w' => w'.cell? ⟨R, 0, none⟩ = some (.string s) ∧ w'.cell? ⟨R, 1, none⟩ = some (.int .i64 (q1 : Int))) (by kernel_rfl) ?_ (fun hS => ?_)
        · exact ⟨c0, c1⟩
        refine takeH_on 0 (v := ?_) rfl rfl (by kernel_rfl) (by kernel_rfl) (by kernel_rfl) (fun _ _ _ h => h) (by rfl) hS (fun w hSw => ?_) ?_
        rotate_left
        · ((try dsimp only at hSw); go_simp; try with_reducible rfl)
        simp only [List.setIfInBounds_toArray, List.set_cons_zero, List.set_cons_succ]
        refine takeH_on 1 (v := ?_) rfl rfl (by kernel_rfl) (by kernel_rfl) (by kernel_rfl) (fun _ _ _ h => h) (by rfl) hS (fun w hSw => ?_) ?_
        rotate_left
        · ((try dsimp only at hSw); go_simp; try with_reducible rfl)
        simp only [List.setIfInBounds_toArray, List.set_cons_zero, List.set_cons_succ]
        refine takeH_on 2 (v := ?_) rfl rfl (by kernel_rfl) (by kernel_rfl) (by kernel_rfl) (fun _ _ _ h => h) (by rfl) hS (fun w hSw => ?_) ?_
        rotate_left
        · ((try dsimp only at hSw); go_simp; try with_reducible rfl)
        simp only [List.setIfInBounds_toArray, List.set_cons_zero, List.set_cons_succ]
        refine takeH_on 3 (v := ?_) rfl rfl (by kernel_rfl) (by kernel_rfl) (by kernel_rfl) (fun _ _ _ h => h) (by rfl) hS (fun w hSw => ?_) ?_
        rotate_left
        · ((try dsimp only at hSw); go_simp; try with_reducible rfl)
        simp only [List.setIfInBounds_toArray, List.set_cons_zero, List.set_cons_succ]
        refine takeH_on 5 (v := ?_) rfl rfl (by kernel_rfl) (by kernel_rfl) (by kernel_rfl) (fun _ _ _ h => h) (by rfl) hS (fun w hSw => ?_) ?_
        rotate_left
        · ((try dsimp only at hSw); go_simp; try with_reducible rfl)
        simp only [List.setIfInBounds_toArray, List.set_cons_zero, List.set_cons_succ]
        refine takeH_on 6 (v := ?_) rfl rfl (by kernel_rfl) (by kernel_rfl) (by kernel_rfl) (fun _ _ _ h => h) (by rfl) hS (fun w hSw => ?_) ?_
        rotate_left
        · ((try dsimp only at hSw); go_simp; try with_reducible rfl)
        simp only [List.setIfInBounds_toArray, List.set_cons_zero, List.set_cons_succ]
        refine takeH_on 7 (v := ?_) rfl rfl (by kernel_rfl) (by kernel_rfl) (by kernel_rfl) (fun _ _ _ h => h) (by rfl) hS (fun w hSw => ?_) ?_
        rotate_left
        · ((try dsimp only at hSw); go_simp; try with_reducible rfl)
        simp only [List.setIfInBounds_toArray, List.set_cons_zero, List.set_cons_succ]
        refine takeH_on 8 (v := .string s) rfl rfl (by kernel_rfl) (by kernel_rfl) (by kernel_rfl) (fun _ _ _ h => h) (by rfl) hS (fun w hSw => ?_) ?_
        · ((try dsimp only at hSw); go_simp; try with_reducible rfl)
        simp only [List.setIfInBounds_toArray, List.set_cons_zero, List.set_cons_succ]
        refine takeH_on 9 (v := ?_) rfl rfl (by kernel_rfl) (by kernel_rfl) (by kernel_rfl) (fun _ _ _ h => h) (by rfl) hS (fun w hSw => ?_) ?_
        rotate_left
        · ((try dsimp only at hSw); go_simp; try with_reducible rfl)
        simp only [List.setIfInBounds_toArray, List.set_cons_zero, List.set_cons_succ]
        refine takeH_on 10 (v := ?_) rfl rfl (by kernel_rfl) (by kernel_rfl) (by kernel_rfl) (fun _ _ _ h => h) (by rfl) hS (fun w hSw => ?_) ?_
        rotate_left
        · ((try dsimp only at hSw); go_simp; try with_reducible rfl)
        simp only [List.setIfInBounds_toArray, List.set_cons_zero, List.set_cons_succ]
        refine takeH_on 11 (v := ?_) rfl rfl (by kernel_rfl) (by kernel_rfl) (by kernel_rfl) (fun _ _ _ h => h) (by rfl) hS (fun w hSw => ?_) ?_
        rotate_left
        · ((try dsimp only at hSw); go_simp; try with_reducible rfl)
        simp only [List.setIfInBounds_toArray, List.set_cons_zero, List.set_cons_succ]
        refine takeH_on 12 (v := .int .i64 (q1 : Int)) rfl rfl (by kernel_rfl) (by kernel_rfl) (by kernel_rfl) (fun _ _ _ h => h) (by rfl) hS (fun w hSw => ?_) ?_
        · ((try dsimp only at hSw); go_simp; try with_reducible rfl)
        simp only [List.setIfInBounds_toArray, List.set_cons_zero, List.set_cons_succ]
        refine takeH_on 13 (v := ?_) rfl rfl (by kernel_rfl) (by kernel_rfl) (by kernel_rfl) (fun _ _ _ h => h) (by rfl) hS (fun w hSw => ?_) ?_
        rotate_left
        · ((try dsimp only at hSw); go_simp; try with_reducible rfl)
        simp only [List.setIfInBounds_toArray, List.set_cons_zero, List.set_cons_succ]
        refine takeH_on 14 (v := .string (s.extract q1 E)) rfl rfl (by kernel_rfl) (by kernel_rfl) (by kernel_rfl) (fun _ _ _ h => h) (by rfl) hS (fun w hSw => ?_) ?_
        · ((try dsimp only at hSw); go_simp; try with_reducible rfl)
        simp only [List.setIfInBounds_toArray, List.set_cons_zero, List.set_cons_succ]
        refine takeH_on 15 (v := ?_) rfl rfl (by kernel_rfl) (by kernel_rfl) (by kernel_rfl) (fun _ _ _ h => h) (by rfl) hS (fun w hSw => ?_) ?_
        rotate_left
        · ((try dsimp only at hSw); go_simp; try with_reducible rfl)
        simp only [List.setIfInBounds_toArray, List.set_cons_zero, List.set_cons_succ]
        refine wpAnyH_ready (rs := [4, 16]) (by kernel_rfl) (by simp) (AllReadyH.cons rfl (fun K hK => ?_) (AllReadyH.cons rfl (fun K hK => ?_) AllReadyH.nil))
        · clear hS
          go_simp
          refine Shut.out hK _ _ ⟨c0, c1⟩ (fun hS => ?_)
          clear hK K
          refine wpAnyH_ready (rs := [16]) (by kernel_rfl) (by simp) (AllReadyH.cons rfl (fun K hK => ?_) AllReadyH.nil)
          clear hS
          go_simp
          obtain ⟨W5, hW5⟩ : ∃ W5, W5 = (w4.alloc (.cells #[.int .u8 110, .int .i64 0, .string (s.extract q1 E)] 61)).drew := ⟨_, rfl⟩
          rw [← hW5]
          have HAL : Hid (Below w4.heap.size w4 W5) := by rw [hW5]; exact ((Below.refl _ _).alloc (Nat.le_refl _) _).drew
          have HN3 : Hid (∀ j u, [Value.int .u8 110, .int .i64 0, .string (s.extract q1 E)][j]? = some u → W5.cell? ((⟨w4.heap.size, 0, none⟩ : Addr).add j) = some u) := by rw [hW5]; exact cell_new3 w4 _ _ _ _
          have HR5 : Hid (W5.ownsRow base 61 3 (.slice oa ops.length cp) ops.length (ocells ops)) := by rw [hW5]; exact HR4.out.alloc _
          clear hW5
          have HP5 : Hid (PAt W5 R s q1 d false (.slice oa ops.length cp)) := HP4.out.below HAL.out
          have c5 := HP5.out.out
          have HB5 : Hid (Below base w W5) := HB4.out.trans (HAL.out.mono (by have := HP4.out.old; omega))
          refine Shut.out hK _ _ ⟨HP5.out.text, HP5.out.place⟩ (fun hS => ?_)
          clear hK K
          refine wpAnyH_ready (rs := [17]) (by kernel_rfl) (by simp) (AllReadyH.cons rfl (fun K hK => ?_) AllReadyH.nil)
          clear hS
          refine ready_append rfl _ _ 38 rfl base 61 i0 (.agg #[.int .u8 0, .int .i64 0, .string ⟨#[]⟩]) 3 32 Try.underlying38 hi hz0 hz1 hz2 rfl (by decide) (.slice oa ops.length cp) ops.length (ocells ops) rfl HR5.out ⟨w4.heap.size, 0, none⟩ 1 1 [.int .u8 110, .int .i64 0, .string (s.extract q1 E)] rfl rfl HN3.out (by simp [Value.oneCell']) (by unfold maxLen; omega) (by omega) (Nat.le_of_lt (Nat.lt_of_le_of_lt hb HP5.out.old)) ?_
          intro v' w6 hown6 hgr6
          have HP6 := hid (HP5.out.grown hgr6 (fun e => HNE.out R e rfl))
          obtain ⟨oa7, cp7, rfl⟩ := row_shape3 hown6
          have HG := hid (push_any (110, 0, s.extract q1 E) hb HP5.out HNE.out hgr6 hown6 HB5.out ((Below.refl _ _).grown hgr6 (Nat.le_of_lt (Nat.lt_of_le_of_lt hb HP5.out.old)) (fun j hj => (HR5.out.lt j hj).1)))
          clear hown6 hgr6
          refine Shut.out hK _ _ ⟨HP6.out.text, HP6.out.place⟩ (fun hS => ?_)
          clear hK K
          refine takeH_on 18 (v := ?_) rfl rfl (by kernel_rfl) (by kernel_rfl) (by kernel_rfl) (fun _ _ _ h => h) (by rfl) hS (fun w hSw => ?_) ?_
          rotate_left
          · ((try dsimp only at hSw); go_simp; try with_reducible rfl)
          simp only [List.setIfInBounds_toArray, List.set_cons_zero, List.set_cons_succ]
          refine takeH_on 19 (v := ?_) rfl rfl (by kernel_rfl) (by kernel_rfl) (by kernel_rfl) (fun _ _ _ h => h) (by rfl) hS (fun w hSw => ?_) ?_
          rotate_left
          · ((try dsimp only at hSw); go_simp; try with_reducible rfl)
          simp only [List.setIfInBounds_toArray, List.set_cons_zero, List.set_cons_succ]
          refine wpAnyH_ready (rs := [20]) (by kernel_rfl) (by simp) (AllReadyH.cons rfl (fun K hK => ?_) AllReadyH.nil)
          clear hS
          have g4 := HG.out.2.2.1
          have gf := HG.out.2.2.2
          go_simp
          have HP7 := hid HG.out.1.1
          have p7 := HP7.out.place
          have f7 := HP7.out.free 1
          refine Shut.out hK _ _ ⟨HP7.out.text, HP7.out.place⟩ (fun hS => ?_)
          clear hK K
          refine wpAnyH_done (by kernel_rfl) ?_ _
          go_wp2
          first | go_end0 | refine bodyPost_ret (results_none rfl _ _ _) rfl ?_
          rw [HPR.out]
          exact ⟨rfl, HG.out.2.1.setCell (show base ≤ R from hb) _, _, HP7.out.go E, row_put3 HG.out.1.2.1 HG.out.1.2.2 _ _, HG.out.1.2.2, by simp; omega, by omega⟩
        · clear hS
          go_simp
          obtain ⟨W5, hW5⟩ : ∃ W5, W5 = (w4.alloc (.cells #[.int .u8 110, .int .i64 0, .string (s.extract q1 E)] 61)).drew := ⟨_, rfl⟩
          rw [← hW5]
          have HAL : Hid (Below w4.heap.size w4 W5) := by rw [hW5]; exact ((Below.refl _ _).alloc (Nat.le_refl _) _).drew
          have HN3 : Hid (∀ j u, [Value.int .u8 110, .int .i64 0, .string (s.extract q1 E)][j]? = some u → W5.cell? ((⟨w4.heap.size, 0, none⟩ : Addr).add j) = some u) := by rw [hW5]; exact cell_new3 w4 _ _ _ _
          have HR5 : Hid (W5.ownsRow base 61 3 (.slice oa ops.length cp) ops.length (ocells ops)) := by rw [hW5]; exact HR4.out.alloc _
          clear hW5
          have HP5 : Hid (PAt W5 R s q1 d false (.slice oa ops.length cp)) := HP4.out.below HAL.out
          have c5 := HP5.out.out
          have HB5 : Hid (Below base w W5) := HB4.out.trans (HAL.out.mono (by have := HP4.out.old; omega))
          refine Shut.out hK _ _ ⟨HP5.out.text, HP5.out.place⟩ (fun hS => ?_)
          clear hK K
          refine wpAnyH_ready (rs := [4]) (by kernel_rfl) (by simp) (AllReadyH.cons rfl (fun K hK => ?_) AllReadyH.nil)
          clear hS
          go_simp
          refine Shut.out hK _ _ ⟨HP5.out.text, HP5.out.place⟩ (fun hS => ?_)
          clear hK K
          refine wpAnyH_ready (rs := [17]) (by kernel_rfl) (by simp) (AllReadyH.cons rfl (fun K hK => ?_) AllReadyH.nil)
          clear hS
          refine ready_append rfl _ _ 38 rfl base 61 i0 (.agg #[.int .u8 0, .int .i64 0, .string ⟨#[]⟩]) 3 32 Try.underlying38 hi hz0 hz1 hz2 rfl (by decide) (.slice oa ops.length cp) ops.length (ocells ops) rfl HR5.out ⟨w4.heap.size, 0, none⟩ 1 1 [.int .u8 110, .int .i64 0, .string (s.extract q1 E)] rfl rfl HN3.out (by simp [Value.oneCell']) (by unfold maxLen; omega) (by omega) (Nat.le_of_lt (Nat.lt_of_le_of_lt hb HP5.out.old)) ?_
          intro v' w6 hown6 hgr6
          have HP6 := hid (HP5.out.grown hgr6 (fun e => HNE.out R e rfl))
          obtain ⟨oa7, cp7, rfl⟩ := row_shape3 hown6
          have HG := hid (push_any (110, 0, s.extract q1 E) hb HP5.out HNE.out hgr6 hown6 HB5.out ((Below.refl _ _).grown hgr6 (Nat.le_of_lt (Nat.lt_of_le_of_lt hb HP5.out.old)) (fun j hj => (HR5.out.lt j hj).1)))
          clear hown6 hgr6
          refine Shut.out hK _ _ ⟨HP6.out.text, HP6.out.place⟩ (fun hS => ?_)
          clear hK K
          refine takeH_on 18 (v := ?_) rfl rfl (by kernel_rfl) (by kernel_rfl) (by kernel_rfl) (fun _ _ _ h => h) (by rfl) hS (fun w hSw => ?_) ?_
          rotate_left
          · ((try dsimp only at hSw); go_simp; try with_reducible rfl)
          simp only [List.setIfInBounds_toArray, List.set_cons_zero, List.set_cons_succ]
          refine takeH_on 19 (v := ?_) rfl rfl (by kernel_rfl) (by kernel_rfl) (by kernel_rfl) (fun _ _ _ h => h) (by rfl) hS (fun w hSw => ?_) ?_
          rotate_left
          · ((try dsimp only at hSw); go_simp; try with_reducible rfl)
          simp only [List.setIfInBounds_toArray, List.set_cons_zero, List.set_cons_succ]
          refine wpAnyH_ready (rs := [20]) (by kernel_rfl) (by simp) (AllReadyH.cons rfl (fun K hK => ?_) AllReadyH.nil)
          clear hS
          have g4 := HG.out.2.2.1
          have gf := HG.out.2.2.2
          go_simp
          have HP7 := hid HG.out.1.1
          have p7 := HP7.out.place
          have f7 := HP7.out.free 1
          refine Shut.out hK _ _ ⟨HP7.out.text, HP7.out.place⟩ (fun hS => ?_)
          clear hK K
          refine wpAnyH_done (by kernel_rfl) ?_ _
          go_wp2
          first | go_end0 | refine bodyPost_ret (results_none rfl _ _ _) rfl ?_
          rw [HPR.out]
          exact ⟨rfl, HG.out.2.1.setCell (show base ≤ R from hb) _, _, HP7.out.go E, row_put3 HG.out.1.2.1 HG.out.1.2.2 _ _, HG.out.1.2.2, by simp; omega, by omega⟩

end Go.Proofs.Ytaabcbpbijkmnab
