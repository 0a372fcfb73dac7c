/- DERIVED. The walk of the law FnMathPut. -/
import Derived.Test.YtaabcbpbijkmnabDrawRunNc
import Derived.Test.YtaabcbpbijkmnabSpecAny
import Derived.Test.YtaabcbpbijkmnabPutPlain
namespace Go.Proofs.Ytaabcbpbijkmnab
open Go.RowKit

theorem plus_cases {a b x y : Int} (h : pt_PutIs (joinP true 43 a b) x y) : (x = 0 ∧ y = 1) ∨ (x = a + b ∧ y = 0 ∧ ¬ 999999 < a + b ∧ ¬ a + b < -999999) ∨ (x = 0 ∧ y = 3 ∧ 999999 < a + b) ∨ (x = 0 ∧ y = 3 ∧ ¬ 999999 < a + b ∧ a + b < -999999) := by
  have ho : opP 43 a b = a + b := rfl
  have hj : joinP true 43 a b = if a + b < -999999 ∨ 999999 < a + b then .error 3 else .ok (a + b) := by
    unfold joinP
    rw [if_neg (by decide), if_neg (fun c => by rcases c.1 with c | c <;> cases c), ho]
  rw [hj] at h
  rcases h with h | ⟨z, hz, hx, hy⟩ | ⟨e, he, hx, hy⟩
  · exact Or.inl h
  · split at hz
    · cases hz
    · injection hz with hz
      omega
  · split at he
    · injection he with he
      omega
    · cases he

theorem less_cases {a b x y : Int} (h : pt_PutIs (joinP true 45 a b) x y) : (x = 0 ∧ y = 1) ∨ (x = a - b ∧ y = 0 ∧ ¬ 999999 < a - b ∧ ¬ a - b < -999999) ∨ (x = 0 ∧ y = 3 ∧ 999999 < a - b) ∨ (x = 0 ∧ y = 3 ∧ ¬ 999999 < a - b ∧ a - b < -999999) := by
  have ho : opP 45 a b = a - b := rfl
  have hj : joinP true 45 a b = if a - b < -999999 ∨ 999999 < a - b then .error 3 else .ok (a - b) := by
    unfold joinP
    rw [if_neg (by decide), if_neg (fun c => by rcases c.1 with c | c <;> cases c), ho]
  rw [hj] at h
  rcases h with h | ⟨z, hz, hx, hy⟩ | ⟨e, he, hx, hy⟩
  · exact Or.inl h
  · split at hz
    · cases hz
    · injection hz with hz
      omega
  · split at he
    · injection he with he
      omega
    · cases he

theorem twice_cases {a x y : Int} (h : pt_PutIs (.ok a) x y) : (x = 0 ∧ y = 1) ∨ (x = a ∧ y = 0) := by
  rcases h with h | ⟨z, hz, hx, hy⟩ | ⟨e, he, hx, hy⟩
  · exact Or.inl h
  · injection hz with hz
    omega
  · cases he

/-- What the six sums come to. -/
def SixIs (x1 y1 x2 y2 x3 y3 x4 y4 x5 y5 : Int) : Prop := y1 = 0 → y2 = 0 → (-999999 ≤ x1 ∧ x1 ≤ 999999) ∧ (-999999 ≤ x2 ∧ x2 ≤ 999999) ∧ pt_PutIs (joinP true 43 x1 x2) x3 y3 ∧ pt_PutIs (joinP true 45 x1 x2) x4 y4 ∧ pt_PutIs (.ok x1) x5 y5

theorem six_is (V : Vs) (s t : ByteArray) : SixIs (mathRunP s V).1 (mathRunP s V).2 (mathRunP t V).1 (mathRunP t V).2 (mathRunP (⟨#[40]⟩ ++ s ++ ⟨#[41, 43, 40]⟩ ++ t ++ ⟨#[41]⟩) V).1 (mathRunP (⟨#[40]⟩ ++ s ++ ⟨#[41, 43, 40]⟩ ++ t ++ ⟨#[41]⟩) V).2 (mathRunP (⟨#[40]⟩ ++ s ++ ⟨#[41, 32, 45, 32, 40]⟩ ++ t ++ ⟨#[41]⟩) V).1 (mathRunP (⟨#[40]⟩ ++ s ++ ⟨#[41, 32, 45, 32, 40]⟩ ++ t ++ ⟨#[41]⟩) V).2 (mathRunP (⟨#[45, 32, 45, 40]⟩ ++ s ++ ⟨#[41]⟩) V).1 (mathRunP (⟨#[45, 32, 45, 40]⟩ ++ s ++ ⟨#[41]⟩) V).2 := by
  intro h1 h2
  have e1 : mathRunP s V = ((mathRunP s V).1, 0) := by rw [← h1]
  have e2 : mathRunP t V = ((mathRunP t V).1, 0) := by rw [← h2]
  have a1 := pt_run_zero e1
  have a2 := pt_run_zero e2
  exact ⟨(all_bd true V s).1 _ a1, (all_bd true V t).1 _ a2, pt_plus_is s t a1 a2, pt_less_is s t a1 a2, pt_twice_is s a1⟩

theorem code_is (V : Vs) (s : ByteArray) : ((mathRunP s V).1 = 0 ∧ (mathRunP s V).2 = 1) ∨ ((mathRunP s V).1 = 0 ∧ (mathRunP s V).2 = 2) ∨ ((mathRunP s V).1 = 0 ∧ (mathRunP s V).2 = 3) ∨ ((mathRunP s V).1 = 0 ∧ (mathRunP s V).2 = 4) ∨ (mathRunP s V).2 = 0 := by
  unfold mathRunP
  split
  · unfold tryP
    cases hx : allP true V s with
    | ok v => exact Or.inr (Or.inr (Or.inr (Or.inr rfl)))
    | error e =>
      have := (all_bd true V s).2 e hx
      dsimp only
      omega
  · exact Or.inl ⟨rfl, rfl⟩

theorem code_only (V : Vs) (s : ByteArray) : (mathRunP s V).2 = 1 ∨ (mathRunP s V).2 = 2 ∨ (mathRunP s V).2 = 3 ∨ (mathRunP s V).2 = 4 ∨ (mathRunP s V).2 = 0 := by
  have := code_is V s
  omega

set_option maxRecDepth 100000 in
set_option maxHeartbeats 8000000 in
theorem law_any (oa1 oa2 : Option Addr) (len1 cap1 len2 cap2 : Nat) (w : World) (D1 : CodeAt w oa1 len1) (D2 : CodeAt w oa2 len2) (hc1 : len1 ≤ cap1) (hm1 : cap1 ≤ maxLen) (hc2 : len2 ≤ cap2) (hm2 : cap2 ≤ maxLen) :
    Calls Try.prog 3 #[.slice oa1 len1 cap1, .slice oa2 len2 cap2] w fun e w' => e = .returned (.bool true) ∧ Below w.heap.size w w' := by
  have HC1 := hid D1
  have HC2 := hid D2
  clear D1 D2
  by_cases hbig : 1048576 < (len1 : Int) ∨ 1048576 < (len2 : Int)
  · by_cases h1 : 1048576 < (len1 : Int)
    · go_enter Try.func3, Try.ntmps3
      go_wp2
      go_ret
      exact ⟨rfl, Below.refl _ _⟩
    · have h2 : 1048576 < (len2 : Int) := by omega
      clear hbig
      go_enter Try.func3, Try.ntmps3
      go_wp2
      go_ret
      exact ⟨rfl, Below.refl _ _⟩
  · have h1 : ¬ 1048576 < (len1 : Int) := fun h => hbig (Or.inl h)
    have h2 : ¬ 1048576 < (len2 : Int) := fun h => hbig (Or.inr h)
    clear hbig
    go_enter Try.func3, Try.ntmps3
    go_wp2_with fail
    refine (drawRun_nc oa1 len1 cap1 _ HC1.out hc1 hm1).mono ?_
    rintro e w1 ⟨s, v, V, rfl, hs, hnc, hv, hok, hb1⟩
    have HB1 := hid hb1
    have HV1 := hid hv
    have hvv := hv
    obtain ⟨ov, cv, rfl, _⟩ := hvv
    clear hb1 hv hok
    go_wp2_with fail
    refine (drawRun_nc oa2 len2 cap2 _ (HC2.out.below HB1.out) hc2 hm2).mono ?_
    rintro e w2 ⟨t, v2, V2, rfl, ht, _, hv2, _, hb2⟩
    have HB2 : Hid (Below w.heap.size w w2) := HB1.out.trans (hb2.mono HB1.out.size)
    have HV2 := hid (HV1.out.below hb2)
    obtain ⟨ov2, cv2, rfl, _⟩ := hv2
    clear hb2 HB1 HV1 HC1 HC2 h1 h2
    have hsz : s.size ≤ maxLen := by unfold maxLen; omega
    have htz : t.size ≤ maxLen := by unfold maxLen; omega
    have hcap := nc_noCap hnc.out
    have z3 : (⟨#[40]⟩ ++ s ++ ⟨#[41, 43, 40]⟩ ++ t ++ ⟨#[41]⟩ : ByteArray).size ≤ maxLen := by rw [pt_size_list, pt_list_plus]; unfold maxLen; simp; omega
    have z4 : (⟨#[40]⟩ ++ s ++ ⟨#[41, 32, 45, 32, 40]⟩ ++ t ++ ⟨#[41]⟩ : ByteArray).size ≤ maxLen := by rw [pt_size_list, pt_list_less]; unfold maxLen; simp; omega
    have z5 : (⟨#[45, 32, 45, 40]⟩ ++ s ++ ⟨#[41]⟩ : ByteArray).size ≤ maxLen := by rw [pt_size_list, pt_list_twice]; unfold maxLen; simp; omega
    have HI := hid (six_is V s t)
    have HK1 := hid (code_is V s)
    have HK2 := hid (code_only V t)
    have C1 : Hid (∀ W, VIn W (.slice ov V.length cv) V → Calls Try.prog 5 #[.string (s), .slice ov V.length cv] W fun e w' => e = .returned (.tuple #[.int .i64 (mathRunP (s) V).1, .int .i64 (mathRunP (s) V).2]) ∧ Below W.heap.size W w') := fun W h => mathRun_any _ _ V W hsz h
    have C6 : Hid (∀ W, VIn W (.slice ov V.length cv) V → Calls Try.prog 6 #[.string (s), .slice ov V.length cv] W fun e w' => e = .returned (.tuple #[.int .i64 (mathRunP (s) V).1, .int .i64 (mathRunP (s) V).2]) ∧ Below W.heap.size W w') := fun W h => specRun_any _ _ V W hcap hsz h
    have C2 : Hid (∀ W, VIn W (.slice ov V.length cv) V → Calls Try.prog 5 #[.string (t), .slice ov V.length cv] W fun e w' => e = .returned (.tuple #[.int .i64 (mathRunP (t) V).1, .int .i64 (mathRunP (t) V).2]) ∧ Below W.heap.size W w') := fun W h => mathRun_any _ _ V W htz h
    have C3 : Hid (∀ W, VIn W (.slice ov V.length cv) V → Calls Try.prog 5 #[.string (⟨#[40]⟩ ++ s ++ ⟨#[41, 43, 40]⟩ ++ t ++ ⟨#[41]⟩), .slice ov V.length cv] W fun e w' => e = .returned (.tuple #[.int .i64 (mathRunP (⟨#[40]⟩ ++ s ++ ⟨#[41, 43, 40]⟩ ++ t ++ ⟨#[41]⟩) V).1, .int .i64 (mathRunP (⟨#[40]⟩ ++ s ++ ⟨#[41, 43, 40]⟩ ++ t ++ ⟨#[41]⟩) V).2]) ∧ Below W.heap.size W w') := fun W h => mathRun_any _ _ V W z3 h
    have C4 : Hid (∀ W, VIn W (.slice ov V.length cv) V → Calls Try.prog 5 #[.string (⟨#[40]⟩ ++ s ++ ⟨#[41, 32, 45, 32, 40]⟩ ++ t ++ ⟨#[41]⟩), .slice ov V.length cv] W fun e w' => e = .returned (.tuple #[.int .i64 (mathRunP (⟨#[40]⟩ ++ s ++ ⟨#[41, 32, 45, 32, 40]⟩ ++ t ++ ⟨#[41]⟩) V).1, .int .i64 (mathRunP (⟨#[40]⟩ ++ s ++ ⟨#[41, 32, 45, 32, 40]⟩ ++ t ++ ⟨#[41]⟩) V).2]) ∧ Below W.heap.size W w') := fun W h => mathRun_any _ _ V W z4 h
    have C5 : Hid (∀ W, VIn W (.slice ov V.length cv) V → Calls Try.prog 5 #[.string (⟨#[45, 32, 45, 40]⟩ ++ s ++ ⟨#[41]⟩), .slice ov V.length cv] W fun e w' => e = .returned (.tuple #[.int .i64 (mathRunP (⟨#[45, 32, 45, 40]⟩ ++ s ++ ⟨#[41]⟩) V).1, .int .i64 (mathRunP (⟨#[45, 32, 45, 40]⟩ ++ s ++ ⟨#[41]⟩) V).2]) ∧ Below W.heap.size W w') := fun W h => mathRun_any _ _ V W z5 h
    obtain ⟨⟨x1, y1⟩, e1⟩ : ∃ z, z = mathRunP (s) V := ⟨_, rfl⟩
    rw [← e1] at C1 C6 HK1 HI
    dsimp only at C1 C6 HK1 HI
    obtain ⟨⟨x2, y2⟩, e2⟩ : ∃ z, z = mathRunP (t) V := ⟨_, rfl⟩
    rw [← e2] at C2 HK2 HI
    dsimp only at C2 HK2 HI
    obtain ⟨⟨x3, y3⟩, e3⟩ : ∃ z, z = mathRunP (⟨#[40]⟩ ++ s ++ ⟨#[41, 43, 40]⟩ ++ t ++ ⟨#[41]⟩) V := ⟨_, rfl⟩
    rw [← e3] at C3 HI
    dsimp only at C3 HI
    obtain ⟨⟨x4, y4⟩, e4⟩ : ∃ z, z = mathRunP (⟨#[40]⟩ ++ s ++ ⟨#[41, 32, 45, 32, 40]⟩ ++ t ++ ⟨#[41]⟩) V := ⟨_, rfl⟩
    rw [← e4] at C4 HI
    dsimp only at C4 HI
    obtain ⟨⟨x5, y5⟩, e5⟩ : ∃ z, z = mathRunP (⟨#[45, 32, 45, 40]⟩ ++ s ++ ⟨#[41]⟩) V := ⟨_, rfl⟩
    rw [← e5] at C5 HI
    dsimp only at C5 HI
    clear e1 e2 e3 e4 e5 hcap hnc hsz htz z3 z4 z5
    go_wp2_with fail
    refine (C1.out _ HV2.out).mono ?_
    rintro e w3 ⟨rfl, hb⟩
    have HB3 : Hid (Below w.heap.size w w3) := HB2.out.trans (hb.mono HB2.out.size)
    have HV3 := hid (HV2.out.below hb)
    clear hb C1 HB2 HV2
    go_wp2_with fail
    refine (C6.out _ HV3.out).mono ?_
    rintro e w4 ⟨rfl, hb⟩
    have HB4 : Hid (Below w.heap.size w w4) := HB3.out.trans (hb.mono HB3.out.size)
    have HV4 := hid (HV3.out.below hb)
    clear hb C6 HB3 HV3
    go_wp2_with fail
    refine (C2.out _ HV4.out).mono ?_
    rintro e w5 ⟨rfl, hb⟩
    have HB5 : Hid (Below w.heap.size w w5) := HB4.out.trans (hb.mono HB4.out.size)
    have HV5 := hid (HV4.out.below hb)
    clear hb C2 HB4 HV4
    go_wp2_with fail
    refine (C3.out _ HV5.out).mono ?_
    rintro e w6 ⟨rfl, hb⟩
    have HB6 : Hid (Below w.heap.size w w6) := HB5.out.trans (hb.mono HB5.out.size)
    have HV6 := hid (HV5.out.below hb)
    clear hb C3 HB5 HV5
    go_wp2_with fail
    refine (C4.out _ HV6.out).mono ?_
    rintro e w7 ⟨rfl, hb⟩
    have HB7 : Hid (Below w.heap.size w w7) := HB6.out.trans (hb.mono HB6.out.size)
    have HV7 := hid (HV6.out.below hb)
    clear hb C4 HB6 HV6
    go_wp2_with fail
    refine (C5.out _ HV7.out).mono ?_
    rintro e w8 ⟨rfl, hb⟩
    have HB8 : Hid (Below w.heap.size w w8) := HB7.out.trans (hb.mono HB7.out.size)
    have HV8 := hid (HV7.out.below hb)
    clear hb C5 HB7 HV7
    have hk1 := HK1.out
    have hk2 := HK2.out
    clear HK1 HK2
    rcases hk1 with ⟨e1, rfl⟩ | ⟨e1, rfl⟩ | ⟨e1, rfl⟩ | ⟨e1, rfl⟩ | rfl
    · subst e1
      clear HI hk2
      go_wp2
      refine bodyPost_ret (v := .bool true) (by simp [results, Try.results3, go_sem]) rfl ⟨rfl, HB8.out⟩
    · subst e1
      clear HI hk2
      go_wp2
      refine bodyPost_ret (v := .bool true) (by simp [results, Try.results3, go_sem]) rfl ⟨rfl, HB8.out⟩
    · subst e1
      clear HI hk2
      go_wp2
      refine bodyPost_ret (v := .bool true) (by simp [results, Try.results3, go_sem]) rfl ⟨rfl, HB8.out⟩
    · subst e1
      clear HI hk2
      go_wp2
      refine bodyPost_ret (v := .bool true) (by simp [results, Try.results3, go_sem]) rfl ⟨rfl, HB8.out⟩
    · rcases hk2 with rfl | rfl | rfl | rfl | rfl
      · clear HI
        go_wp2
        refine bodyPost_ret (v := .bool true) (by simp [results, Try.results3, go_sem]) rfl ⟨rfl, HB8.out⟩
      · clear HI
        go_wp2
        refine bodyPost_ret (v := .bool true) (by simp [results, Try.results3, go_sem]) rfl ⟨rfl, HB8.out⟩
      · clear HI
        go_wp2
        refine bodyPost_ret (v := .bool true) (by simp [results, Try.results3, go_sem]) rfl ⟨rfl, HB8.out⟩
      · clear HI
        go_wp2
        refine bodyPost_ret (v := .bool true) (by simp [results, Try.results3, go_sem]) rfl ⟨rfl, HB8.out⟩
      · obtain ⟨⟨a0, a1⟩, ⟨b0, b1⟩, p3, p4, p5⟩ := HI.out rfl rfl
        have q3 := plus_cases p3
        have q4 := less_cases p4
        have q5 := twice_cases p5
        clear p3 p4 p5 HI
        rcases q3 with ⟨rfl, rfl⟩ | ⟨rfl, rfl, d1, d2⟩ | ⟨rfl, rfl, d1⟩ | ⟨rfl, rfl, d1, d2⟩
        · clear q4 q5
          go_wp2
          refine bodyPost_ret (v := .bool true) (by simp [results, Try.results3, go_sem]) rfl ⟨rfl, HB8.out⟩
        · rcases q4 with ⟨rfl, rfl⟩ | ⟨rfl, rfl, d3, d4⟩ | ⟨rfl, rfl, d3⟩ | ⟨rfl, rfl, d3, d4⟩
          · clear q5
            go_wp2
            refine bodyPost_ret (v := .bool true) (by simp [results, Try.results3, go_sem]) rfl ⟨rfl, HB8.out⟩
          · rcases q5 with ⟨rfl, rfl⟩ | ⟨rfl, rfl⟩
            · go_wp2
              refine bodyPost_ret (v := .bool true) (by simp [results, Try.results3, go_sem]) rfl ⟨rfl, HB8.out⟩
            · obtain ⟨A, hA⟩ : ∃ A, x5 + x2 = A := ⟨_, rfl⟩
              obtain ⟨B, hB⟩ : ∃ B, x5 - x2 = B := ⟨_, rfl⟩
              rw [hA] at d1 d2
              rw [hB] at d3 d4
              have hw1 : IntKind.i64.wrap A = A := by rw [IntKind.wrap_i64]; omega
              have hw2 : IntKind.i64.wrap B = B := by rw [IntKind.wrap_i64]; omega
              have k1 : (decide (999999 < A) || decide (A < -999999)) = false := by simp; omega
              have k2 : (decide (999999 < B) || decide (B < -999999)) = false := by simp; omega
              go_wp2
              refine bodyPost_ret (v := .bool true) (by simp [results, Try.results3, go_sem]) rfl ⟨rfl, HB8.out⟩
          · rcases q5 with ⟨rfl, rfl⟩ | ⟨rfl, rfl⟩
            · go_wp2
              refine bodyPost_ret (v := .bool true) (by simp [results, Try.results3, go_sem]) rfl ⟨rfl, HB8.out⟩
            · obtain ⟨A, hA⟩ : ∃ A, x5 + x2 = A := ⟨_, rfl⟩
              obtain ⟨B, hB⟩ : ∃ B, x5 - x2 = B := ⟨_, rfl⟩
              rw [hA] at d1 d2
              rw [hB] at d3
              have hw1 : IntKind.i64.wrap A = A := by rw [IntKind.wrap_i64]; omega
              have hw2 : IntKind.i64.wrap B = B := by rw [IntKind.wrap_i64]; omega
              have k1 : (decide (999999 < A) || decide (A < -999999)) = false := by simp; omega
              have k2 : (decide (999999 < B) || decide (B < -999999)) = true := by simp; omega
              go_wp2
              refine bodyPost_ret (v := .bool true) (by simp [results, Try.results3, go_sem]) rfl ⟨rfl, HB8.out⟩
          · rcases q5 with ⟨rfl, rfl⟩ | ⟨rfl, rfl⟩
            · go_wp2
              refine bodyPost_ret (v := .bool true) (by simp [results, Try.results3, go_sem]) rfl ⟨rfl, HB8.out⟩
            · obtain ⟨A, hA⟩ : ∃ A, x5 + x2 = A := ⟨_, rfl⟩
              obtain ⟨B, hB⟩ : ∃ B, x5 - x2 = B := ⟨_, rfl⟩
              rw [hA] at d1 d2
              rw [hB] at d3 d4
              have hw1 : IntKind.i64.wrap A = A := by rw [IntKind.wrap_i64]; omega
              have hw2 : IntKind.i64.wrap B = B := by rw [IntKind.wrap_i64]; omega
              have k1 : (decide (999999 < A) || decide (A < -999999)) = false := by simp; omega
              have k2 : (decide (999999 < B) || decide (B < -999999)) = true := by simp; omega
              go_wp2
              refine bodyPost_ret (v := .bool true) (by simp [results, Try.results3, go_sem]) rfl ⟨rfl, HB8.out⟩
        · rcases q4 with ⟨rfl, rfl⟩ | ⟨rfl, rfl, d3, d4⟩ | ⟨rfl, rfl, d3⟩ | ⟨rfl, rfl, d3, d4⟩
          · clear q5
            go_wp2
            refine bodyPost_ret (v := .bool true) (by simp [results, Try.results3, go_sem]) rfl ⟨rfl, HB8.out⟩
          · rcases q5 with ⟨rfl, rfl⟩ | ⟨rfl, rfl⟩
            · go_wp2
              refine bodyPost_ret (v := .bool true) (by simp [results, Try.results3, go_sem]) rfl ⟨rfl, HB8.out⟩
            · obtain ⟨A, hA⟩ : ∃ A, x5 + x2 = A := ⟨_, rfl⟩
              obtain ⟨B, hB⟩ : ∃ B, x5 - x2 = B := ⟨_, rfl⟩
              rw [hA] at d1
              rw [hB] at d3 d4
              have hw1 : IntKind.i64.wrap A = A := by rw [IntKind.wrap_i64]; omega
              have hw2 : IntKind.i64.wrap B = B := by rw [IntKind.wrap_i64]; omega
              have k1 : (decide (999999 < A) || decide (A < -999999)) = true := by simp; omega
              have k2 : (decide (999999 < B) || decide (B < -999999)) = false := by simp; omega
              go_wp2
              refine bodyPost_ret (v := .bool true) (by simp [results, Try.results3, go_sem]) rfl ⟨rfl, HB8.out⟩
          · rcases q5 with ⟨rfl, rfl⟩ | ⟨rfl, rfl⟩
            · go_wp2
              refine bodyPost_ret (v := .bool true) (by simp [results, Try.results3, go_sem]) rfl ⟨rfl, HB8.out⟩
            · obtain ⟨A, hA⟩ : ∃ A, x5 + x2 = A := ⟨_, rfl⟩
              obtain ⟨B, hB⟩ : ∃ B, x5 - x2 = B := ⟨_, rfl⟩
              rw [hA] at d1
              rw [hB] at d3
              have hw1 : IntKind.i64.wrap A = A := by rw [IntKind.wrap_i64]; omega
              have hw2 : IntKind.i64.wrap B = B := by rw [IntKind.wrap_i64]; omega
              have k1 : (decide (999999 < A) || decide (A < -999999)) = true := by simp; omega
              have k2 : (decide (999999 < B) || decide (B < -999999)) = true := by simp; omega
              go_wp2
              refine bodyPost_ret (v := .bool true) (by simp [results, Try.results3, go_sem]) rfl ⟨rfl, HB8.out⟩
          · rcases q5 with ⟨rfl, rfl⟩ | ⟨rfl, rfl⟩
            · go_wp2
              refine bodyPost_ret (v := .bool true) (by simp [results, Try.results3, go_sem]) rfl ⟨rfl, HB8.out⟩
            · obtain ⟨A, hA⟩ : ∃ A, x5 + x2 = A := ⟨_, rfl⟩
              obtain ⟨B, hB⟩ : ∃ B, x5 - x2 = B := ⟨_, rfl⟩
              rw [hA] at d1
              rw [hB] at d3 d4
              have hw1 : IntKind.i64.wrap A = A := by rw [IntKind.wrap_i64]; omega
              have hw2 : IntKind.i64.wrap B = B := by rw [IntKind.wrap_i64]; omega
              have k1 : (decide (999999 < A) || decide (A < -999999)) = true := by simp; omega
              have k2 : (decide (999999 < B) || decide (B < -999999)) = true := by simp; omega
              go_wp2
              refine bodyPost_ret (v := .bool true) (by simp [results, Try.results3, go_sem]) rfl ⟨rfl, HB8.out⟩
        · rcases q4 with ⟨rfl, rfl⟩ | ⟨rfl, rfl, d3, d4⟩ | ⟨rfl, rfl, d3⟩ | ⟨rfl, rfl, d3, d4⟩
          · clear q5
            go_wp2
            refine bodyPost_ret (v := .bool true) (by simp [results, Try.results3, go_sem]) rfl ⟨rfl, HB8.out⟩
          · rcases q5 with ⟨rfl, rfl⟩ | ⟨rfl, rfl⟩
            · go_wp2
              refine bodyPost_ret (v := .bool true) (by simp [results, Try.results3, go_sem]) rfl ⟨rfl, HB8.out⟩
            · obtain ⟨A, hA⟩ : ∃ A, x5 + x2 = A := ⟨_, rfl⟩
              obtain ⟨B, hB⟩ : ∃ B, x5 - x2 = B := ⟨_, rfl⟩
              rw [hA] at d1 d2
              rw [hB] at d3 d4
              have hw1 : IntKind.i64.wrap A = A := by rw [IntKind.wrap_i64]; omega
              have hw2 : IntKind.i64.wrap B = B := by rw [IntKind.wrap_i64]; omega
              have k1 : (decide (999999 < A) || decide (A < -999999)) = true := by simp; omega
              have k2 : (decide (999999 < B) || decide (B < -999999)) = false := by simp; omega
              go_wp2
              refine bodyPost_ret (v := .bool true) (by simp [results, Try.results3, go_sem]) rfl ⟨rfl, HB8.out⟩
          · rcases q5 with ⟨rfl, rfl⟩ | ⟨rfl, rfl⟩
            · go_wp2
              refine bodyPost_ret (v := .bool true) (by simp [results, Try.results3, go_sem]) rfl ⟨rfl, HB8.out⟩
            · obtain ⟨A, hA⟩ : ∃ A, x5 + x2 = A := ⟨_, rfl⟩
              obtain ⟨B, hB⟩ : ∃ B, x5 - x2 = B := ⟨_, rfl⟩
              rw [hA] at d1 d2
              rw [hB] at d3
              have hw1 : IntKind.i64.wrap A = A := by rw [IntKind.wrap_i64]; omega
              have hw2 : IntKind.i64.wrap B = B := by rw [IntKind.wrap_i64]; omega
              have k1 : (decide (999999 < A) || decide (A < -999999)) = true := by simp; omega
              have k2 : (decide (999999 < B) || decide (B < -999999)) = true := by simp; omega
              go_wp2
              refine bodyPost_ret (v := .bool true) (by simp [results, Try.results3, go_sem]) rfl ⟨rfl, HB8.out⟩
          · rcases q5 with ⟨rfl, rfl⟩ | ⟨rfl, rfl⟩
            · go_wp2
              refine bodyPost_ret (v := .bool true) (by simp [results, Try.results3, go_sem]) rfl ⟨rfl, HB8.out⟩
            · obtain ⟨A, hA⟩ : ∃ A, x5 + x2 = A := ⟨_, rfl⟩
              obtain ⟨B, hB⟩ : ∃ B, x5 - x2 = B := ⟨_, rfl⟩
              rw [hA] at d1 d2
              rw [hB] at d3 d4
              have hw1 : IntKind.i64.wrap A = A := by rw [IntKind.wrap_i64]; omega
              have hw2 : IntKind.i64.wrap B = B := by rw [IntKind.wrap_i64]; omega
              have k1 : (decide (999999 < A) || decide (A < -999999)) = true := by simp; omega
              have k2 : (decide (999999 < B) || decide (B < -999999)) = true := by simp; omega
              go_wp2
              refine bodyPost_ret (v := .bool true) (by simp [results, Try.results3, go_sem]) rfl ⟨rfl, HB8.out⟩

end Go.Proofs.Ytaabcbpbijkmnab
