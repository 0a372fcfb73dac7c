/- DERIVED. The walks of Policy: the program's and the model's, exactly. -/
import Derived.Test.YtgkhkogenbphfadVoteEnds
namespace Go.Proofs.Ytgkhkogenbphfad
open Go.RowKit

theorem polS_no {p : Int} {V : List Int} (h : V = [] ∨ okV V = false) : polS p V = -1 := if_pos h
theorem polS_all {V : List Int} (h : ¬ (V = [] ∨ okV V = false)) : polS 1 V = maxL (V.map endI) := by unfold polS; rw [if_neg h, if_pos rfl]
theorem polS_some {V : List Int} (h : ¬ (V = [] ∨ okV V = false)) : polS 2 V = minL (V.map endI) := by unfold polS; rw [if_neg h, if_neg (by decide), if_pos rfl]
theorem polS_most {V : List Int} (h : ¬ (V = [] ∨ okV V = false)) : polS 3 V = mostL V := by unfold polS; rw [if_neg h, if_neg (by decide), if_neg (by decide), if_pos rfl]
theorem polS_else {p : Int} {V : List Int} (h1 : p ≠ 1) (h2 : p ≠ 2) (h3 : p ≠ 3) : polS p V = -1 := by
  unfold polS
  split
  · rfl
  · first | rfl | rw [if_neg h1, if_neg h2, if_neg h3] | (rw [if_neg h1, if_neg h2]; rfl) | (simp [h1, h2, h3])

theorem nums_of_len {w : World} {base k : Nat} {v : Value} {V : List Int} (hk : V.length = k) (h : w.ownsRow base 3 1 v V.length (V.map (Value.int .i64))) : ∃ oa cp, v = .slice oa k cp ∧ NumsAt w oa V := by
  subst hk
  obtain ⟨oa, cp, e, _, _, hn⟩ := nums_of h
  exact ⟨oa, cp, e, hn⟩

theorem nil_iff {V : List Int} {len : Nat} (hl : len = V.length) : V = [] ↔ len = 0 := by
  rw [hl]
  exact List.length_eq_zero_iff.symm

set_option maxRecDepth 100000 in
set_option maxHeartbeats 1600000 in
theorem implPolicy_any (p : Int) (oa : Option Addr) (cap len : Nat) (V : List Int) (w : World) (hl : len = V.length) (hm : len ≤ 1048576) (h : NumsAt w oa V) :
    Calls Try.prog 5 #[.int .i64 p, .slice oa len cap] w fun e w' => e = .returned (.int .i64 (polS p V)) ∧ Below w.heap.size w w' := by
  by_cases h0 : len = 0
  · have HP : Hid (polS p V = -1) := polS_no (Or.inl ((nil_iff hl).2 h0))
    subst h0
    clear h hl
    go_enter Try.func5, Try.ntmps5
    go_wp2
    go_ret
    exact ⟨by rw [HP.out]; rfl, Below.refl _ _⟩
  have hpos : 1 ≤ len := by omega
  have hb0 : ((len : Int) == 0) = false := by rw [beq_eq_false_iff_ne]; omega
  obtain ⟨c, hc⟩ : ∃ c, c = okV V := ⟨_, rfl⟩
  have CV : Hid (Calls Try.prog 11 #[.slice oa len cap] w fun e w' => e = .returned (.bool c) ∧ w' = w) := by rw [hc]; exact implVotesOk_any oa cap len V w hl hm h
  cases c
  · have HP : Hid (polS p V = -1) := polS_no (Or.inr hc.symm)
    clear h hl hc
    go_enter Try.func5, Try.ntmps5
    go_wp2_with fail
    refine CV.out.mono ?_
    rintro e w' ⟨rfl, rfl⟩
    go_wp2
    go_ret
    exact ⟨by rw [HP.out]; rfl, Below.refl _ _⟩
  have hne : ¬ (V = [] ∨ okV V = false) := by
    rintro (e | e)
    · exact h0 ((nil_iff hl).1 e)
    · rw [← hc] at e; cases e
  have h3 : len ≤ 3 := by rw [hl]; exact (okV_all hc.symm).1
  have CE : Hid (Calls Try.prog 13 #[.slice oa len cap] w fun e w' => ∃ v, e = .returned v ∧ w'.ownsRow w.heap.size 3 1 v (V.map endI).length ((V.map endI).map (Value.int .i64)) ∧ Below w.heap.size w w') := endsOf_any oa cap len V w hl hpos (by omega) h
  have CM : Hid (Calls Try.prog 15 #[.slice oa len cap] w fun e w' => e = .returned (.int .i64 (mostL V)) ∧ w' = w) := majority_any oa cap len V w hl hm h
  have hlen : (V.map endI).length = len := by rw [List.length_map, hl]
  have HLEN := hid hlen
  have HNE := hid hne
  clear h hl hc hne hlen h0
  by_cases h1 : p = 1
  · subst h1
    have HP : Hid (polS 1 V = maxL (V.map endI)) := polS_all HNE.out
    go_enter Try.func5, Try.ntmps5
    go_wp2_with fail
    refine CV.out.mono ?_
    rintro e w' ⟨rfl, rfl⟩
    go_wp2_with fail
    refine CE.out.mono ?_
    rintro e w1 ⟨v, rfl, hrow, hb⟩
    obtain ⟨o1, c1, rfl, hn⟩ := nums_of_len HLEN.out hrow
    have HB := hid hb
    have CX : Hid (Calls Try.prog 12 #[.slice o1 len c1] w1 fun e w' => e = .returned (.int .i64 (maxL (V.map endI))) ∧ w' = w1) := max_any o1 c1 len (V.map endI) w1 HLEN.out.symm hpos (by omega) hn
    clear hrow hb hn
    go_wp2_with fail
    refine CX.out.mono ?_
    rintro e w2 ⟨rfl, rfl⟩
    go_wp2
    go_ret
    exact ⟨by rw [HP.out]; rfl, HB.out⟩
  have n1 : (p == 1) = false := by rw [beq_eq_false_iff_ne]; exact h1
  by_cases h2 : p = 2
  · subst h2
    have HP : Hid (polS 2 V = minL (V.map endI)) := polS_some HNE.out
    clear h1 n1
    go_enter Try.func5, Try.ntmps5
    go_wp2_with fail
    refine CV.out.mono ?_
    rintro e w' ⟨rfl, rfl⟩
    go_wp2_with fail
    refine CE.out.mono ?_
    rintro e w1 ⟨v, rfl, hrow, hb⟩
    obtain ⟨o1, c1, rfl, hn⟩ := nums_of_len HLEN.out hrow
    have HB := hid hb
    have CX : Hid (Calls Try.prog 14 #[.slice o1 len c1] w1 fun e w' => e = .returned (.int .i64 (minL (V.map endI))) ∧ w' = w1) := min_any o1 c1 len (V.map endI) w1 HLEN.out.symm hpos (by omega) hn
    clear hrow hb hn
    go_wp2_with fail
    refine CX.out.mono ?_
    rintro e w2 ⟨rfl, rfl⟩
    go_wp2
    go_ret
    exact ⟨by rw [HP.out]; rfl, HB.out⟩
  have n2 : (p == 2) = false := by rw [beq_eq_false_iff_ne]; exact h2
  by_cases h3' : p = 3
  · subst h3'
    have HP : Hid (polS 3 V = mostL V) := polS_most HNE.out
    clear h1 h2 n1 n2
    go_enter Try.func5, Try.ntmps5
    go_wp2_with fail
    refine CV.out.mono ?_
    rintro e w' ⟨rfl, rfl⟩
    go_wp2_with fail
    refine CM.out.mono ?_
    rintro e w2 ⟨rfl, rfl⟩
    go_wp2
    go_ret
    exact ⟨by rw [HP.out]; rfl, Below.refl _ _⟩
  have n3 : (p == 3) = false := by rw [beq_eq_false_iff_ne]; exact h3'
  have HP : Hid (polS p V = -1) := polS_else h1 h2 h3'
  clear h1 h2 h3'
  go_enter Try.func5, Try.ntmps5
  go_wp2_with fail
  refine CV.out.mono ?_
  rintro e w' ⟨rfl, rfl⟩
  go_wp2
  go_ret
  exact ⟨by rw [HP.out]; rfl, Below.refl _ _⟩

set_option maxRecDepth 100000 in
set_option maxHeartbeats 1600000 in
theorem l9Most_any (oa : Option Addr) (cap len : Nat) (V : List Int) (w : World) (hl : len = V.length) (hm : len ≤ 3) (hok : okV V = true) (h : NumsAt w oa V) :
    Calls Try.prog 23 #[.slice oa len cap] w fun e w' => e = .returned (.int .i64 (mostL V)) ∧ Below w.heap.size w w' := by
  have HV := hid h
  have HL := hid hl
  have HMS := hid (most_same V hok)
  clear h hl hok
  go_enter Try.func23, Try.ntmps23
  go_wp2
  go_loopw [3] (fun i wr => ∃ k nq : Nat, k ≤ len ∧ i = .int .i64 k ∧ Hid ((V.take k).find? (isMostJ V) = none) ∧ wr = w.drewN nq) (fun i _ => len - (intOf i).toNat)
  case atStart => exact ⟨0, 0, Nat.zero_le _, rfl, rfl, rfl⟩
  case round =>
    obtain ⟨k, nq, hk, rfl, HP, rfl⟩ := hrel
    by_cases hlt : k < len
    · have hltI : (k : Int) < (len : Int) := by omega
      have hkv : k < V.length := by rw [← HL.out]; exact hlt
      obtain ⟨b, off, rfl, _, hc⟩ := HV.out k hkv
      have HN := hid (find_next V (isMostJ V) k hkv HP.out)
      have HH := hid (find_hit V (isMostJ V) k hkv HP.out)
      obtain ⟨x, hx⟩ : ∃ x, x = V[k] := ⟨_, rfl⟩
      rw [← hx] at hc HN HH
      clear hx
      go_wp2
      go_loopw [4, 5] (fun m i wr => ∃ j nq2 : Nat, j ≤ len ∧ i = .int .i64 j ∧ m = .int .i64 ((V.take j).count x : Nat) ∧ wr = w.drewN nq2) (fun _ i _ => len - (intOf i).toNat)
      case atStart => exact ⟨0, nq, Nat.zero_le _, rfl, rfl, rfl⟩
      case round =>
        obtain ⟨j, nq2, hj, rfl, rfl, rfl⟩ := hrel
        have hle := count_le_len V x j
        have HCT := hid (count_take V x j)
        by_cases hjl : j < len
        · have hjI : (j : Int) < (len : Int) := by omega
          have hjv : j < V.length := by rw [← HL.out]; exact hjl
          obtain ⟨b', off', e, _, hcj⟩ := HV.out j hjv
          injection e with e
          injection e with e1 e2
          subst e1 e2
          have HC1 := hid (HCT.out hjv)
          obtain ⟨y, hy⟩ : ∃ y, y = V[j] := ⟨_, rfl⟩
          rw [← hy] at hcj HC1
          obtain ⟨m, hmm⟩ : ∃ m, m = (V.take j).count x := ⟨_, rfl⟩
          rw [← hmm] at HC1 hle ⊢
          have hml : m ≤ 3 := by have := HL.out; omega
          clear hy hmm hle
          by_cases hyx : y = x
          · have hb : (y == x) = true := by rw [hyx]; simp
            have HE : Hid ((V.take (j + 1)).count x = m + 1) := by show _ = _; rw [HC1.out, if_pos hyx]
            clear hyx
            go_wp2
            go_quiet (fail)
            go_wp2
            go_roundw
            case rel => exact ⟨j + 1, _, by omega, by go_num, by rw [HE.out]; go_num, rfl⟩
            case measure => simp [intOf]; omega
          · have hb : (y == x) = false := by rw [beq_eq_false_iff_ne]; exact hyx
            have HE : Hid ((V.take (j + 1)).count x = m) := by show _ = _; rw [HC1.out, if_neg hyx]; rfl
            clear hyx
            go_wp2
            go_quiet (fail)
            go_wp2
            go_roundw
            case rel => exact ⟨j + 1, _, by omega, by go_num, by rw [HE.out], rfl⟩
            case measure => simp [intOf]; omega
        · have hjI : ¬ (j : Int) < (len : Int) := by omega
          have HTK : Hid (V.take j = V) := List.take_of_length_le (by rw [← HL.out]; omega)
          have hct : (V.take j).count x = V.count x := by rw [HTK.out]
          rw [hct] at hle ⊢
          have HI : Hid (isMostJ V x = (decide (2 * V.count x > V.length) && decide (0 ≤ x))) := rfl
          obtain ⟨m, hmm⟩ : ∃ m, m = V.count x := ⟨_, rfl⟩
          rw [← hmm] at HI hle ⊢
          have hml : m ≤ 3 := by have := HL.out; omega
          clear hct hmm hle
          by_cases hmo : 2 * (m : Int) > (len : Int)
          · by_cases hx0 : 0 ≤ x
            · have hxg : x ≥ 0 := hx0
              have HE : Hid (mostL V = x) := by
                show _ = _
                unfold mostL
                rw [← HMS.out, HH.out (by rw [HI.out]; simp; have := HL.out; omega)]
              go_wp2
              go_ret
              exact ⟨by rw [HE.out]; rfl, below_drewN (Below.refl _ _) _⟩
            · have HE := hid (HN.out (by rw [HI.out]; simp; omega))
              go_wp2
              go_roundw
              case rel => exact ⟨k + 1, _, by omega, by go_num, HE, rfl⟩
              case measure => simp [intOf]; omega
          · have HE := hid (HN.out (by rw [HI.out]; simp; intro _; have := HL.out; omega))
            go_wp2
            go_roundw
            case rel => exact ⟨k + 1, _, by omega, by go_num, HE, rfl⟩
            case measure => simp [intOf]; omega
    · have hltI : ¬ (k : Int) < (len : Int) := by omega
      have HE : Hid (mostL V = 123) := by
        show _ = _
        unfold mostL
        rw [← HMS.out, find_end V (isMostJ V) k (by rw [← HL.out]; omega) HP.out]
      go_wp2
      go_ret
      exact ⟨by rw [HE.out]; rfl, below_drewN (Below.refl _ _) _⟩

set_option maxRecDepth 100000 in
set_option maxHeartbeats 1600000 in
theorem l9Policy_any (p : Int) (oa : Option Addr) (cap len : Nat) (V : List Int) (w : World) (hl : len = V.length) (hp : 1 ≤ p ∧ p ≤ 3) (hne : V ≠ []) (hok : okV V = true) (h : NumsAt w oa V) :
    Calls Try.prog 18 #[.int .i64 p, .slice oa len cap] w fun e w' => e = .returned (.int .i64 (polS p V)) ∧ Below w.heap.size w w' := by
  have hm : len ≤ 3 := by rw [hl]; exact (okV_all hok).1
  have HV := hid h
  have HL := hid hl
  have CM : Hid (Calls Try.prog 23 #[.slice oa len cap] w fun e w' => e = .returned (.int .i64 (mostL V)) ∧ Below w.heap.size w w') := l9Most_any oa cap len V w hl hm hok h
  have hno : ¬ (V = [] ∨ okV V = false) := by
    rintro (e | e)
    · exact hne e
    · rw [hok] at e; cases e
  have HNO := hid hno
  have HHI := hid (hi_max V hne hok)
  have HLO := hid (lo_min V hne hok)
  clear h hl hno hok hne
  go_enter Try.func18, Try.ntmps18
  go_wp2
  go_loopw [5, 6, 7] (fun a b i wr => ∃ k : Nat, k ≤ len ∧ i = .int .i64 k ∧ a = .int .i64 ((V.take k).foldl hiF 0) ∧ b = .int .i64 ((V.take k).foldl loF 127) ∧ wr = w) (fun _ _ i _ => len - (intOf i).toNat)
  case atStart => exact ⟨0, Nat.zero_le _, rfl, rfl, rfl, rfl⟩
  case round =>
    obtain ⟨k, hk, rfl, rfl, rfl, rfl⟩ := hrel
    by_cases hlt : k < len
    · have hltI : (k : Int) < (len : Int) := by omega
      have hkv : k < V.length := by rw [← HL.out]; exact hlt
      obtain ⟨b, off, rfl, _, hc⟩ := HV.out k hkv
      have H1 := hid (fold_take V hiF 0 k hkv)
      have H2 := hid (fold_take V loF 127 k hkv)
      obtain ⟨x, hx⟩ : ∃ x, x = V[k] := ⟨_, rfl⟩
      rw [← hx] at hc H1 H2
      obtain ⟨m, hmm⟩ : ∃ m, m = (V.take k).foldl hiF 0 := ⟨_, rfl⟩
      obtain ⟨l, hll⟩ : ∃ l, l = (V.take k).foldl loF 127 := ⟨_, rfl⟩
      rw [← hmm] at H1
      rw [← hll] at H2
      rw [← hmm, ← hll]
      clear hx hmm hll
      replace H1 : Hid ((V.take (k + 1)).foldl hiF 0 = if endJ x > m then endJ x else m) := H1
      replace H2 : Hid ((V.take (k + 1)).foldl loF 127 = if endJ x < l then endJ x else l) := H2
      obtain ⟨y, hy⟩ : ∃ y, y = endJ x := ⟨_, rfl⟩
      rw [← hy] at H1 H2
      have HY : Hid (y = endJ x) := hy
      clear hy
      by_cases hx0 : x < 0
      · have hy : y = 123 := by rw [HY.out]; exact if_pos hx0
        clear HY
        subst hy
        by_cases g1 : (123 : Int) > m
        all_goals
          by_cases g2 : (123 : Int) < l
          all_goals
            go_wp2
            go_roundw
            case rel => exact ⟨k + 1, by omega, by go_num, by rw [H1.out]; first | (rw [if_pos g1]; done) | (rw [if_neg g1]; done), by rw [H2.out]; first | (rw [if_pos g2]; done) | (rw [if_neg g2]; done), trivial⟩
            case measure => simp [intOf]; omega
      · have hy : y = x := by rw [HY.out]; exact if_neg hx0
        clear HY
        subst hy
        by_cases g1 : y > m
        all_goals
          by_cases g2 : y < l
          all_goals
            go_wp2
            go_roundw
            case rel => exact ⟨k + 1, by omega, by go_num, by rw [H1.out]; first | (rw [if_pos (by omega)]; done) | (rw [if_neg (by omega)]; done), by rw [H2.out]; first | (rw [if_pos (by omega)]; done) | (rw [if_neg (by omega)]; done), trivial⟩
            case measure => simp [intOf]; omega
    · have hltI : ¬ (k : Int) < (len : Int) := by omega
      have hall : V.take k = V := List.take_of_length_le (by rw [← HL.out]; omega)
      rw [hall, HHI.out, HLO.out]
      clear hall
      by_cases h1 : p = 1
      · subst h1
        have HP : Hid (polS 1 V = maxL (V.map endI)) := polS_all HNO.out
        go_wp2
        go_ret
        exact ⟨by rw [HP.out]; rfl, Below.refl _ _⟩
      have n1 : (p == 1) = false := by rw [beq_eq_false_iff_ne]; exact h1
      by_cases h2 : p = 2
      · subst h2
        have HP : Hid (polS 2 V = minL (V.map endI)) := polS_some HNO.out
        clear h1 n1
        go_wp2
        go_ret
        exact ⟨by rw [HP.out]; rfl, Below.refl _ _⟩
      have n2 : (p == 2) = false := by rw [beq_eq_false_iff_ne]; exact h2
      have h3 : p = 3 := by omega
      subst h3
      have HP : Hid (polS 3 V = mostL V) := polS_most HNO.out
      clear h1 h2 n1 n2
      go_wp2_with fail
      refine CM.out.mono ?_
      rintro e w2 ⟨rfl, hb⟩
      have HB := hid hb
      clear hb
      go_wp2
      go_ret
      exact ⟨by rw [HP.out]; rfl, HB.out⟩

theorem polS_out {p : Int} {V : List Int} (h : inB p 1 3 = false) : polS p V = -1 := by
  simp [inB] at h
  exact polS_else (by omega) (by omega) (by omega)

set_option maxRecDepth 100000 in
set_option maxHeartbeats 800000 in
theorem specPolicy_any (p : Int) (oa : Option Addr) (cap len : Nat) (V : List Int) (w : World) (hl : len = V.length) (hm : len ≤ 1048576) (h : NumsAt w oa V) :
    Calls Try.prog 6 #[.int .i64 p, .slice oa len cap] w fun e w' => e = .returned (.int .i64 (polS p V)) ∧ Below w.heap.size w w' := by
  cases hp : inB p 1 3
  · have HP : Hid (polS p V = -1) := polS_out hp
    have HI := hid hp
    clear h hl hp
    go_enter Try.func6, Try.ntmps6
    go_wp2_with (go_at_call 16; refine (in_any _ _ _ _).mono ?_; rintro e w' ⟨rfl, rfl⟩; rw [HI.out])
    go_ret
    exact ⟨by rw [HP.out]; rfl, Below.refl _ _⟩
  have hpp : 1 ≤ p ∧ p ≤ 3 := by simpa [inB] using hp
  have HI := hid hp
  obtain ⟨c, hc⟩ : ∃ c, c = okV V := ⟨_, rfl⟩
  have CV : Hid (Calls Try.prog 17 #[.slice oa len cap] w fun e w' => e = .returned (.bool c) ∧ w' = w) := by rw [hc]; exact specVotesOk_any oa cap len V w hl hm h
  cases c
  · have HP : Hid (polS p V = -1) := polS_no (Or.inr hc.symm)
    clear h hl hc hp hpp
    go_enter Try.func6, Try.ntmps6
    go_wp2_with fail
    refine (in_any _ _ _ _).mono ?_
    rintro e w' ⟨rfl, rfl⟩
    rw [HI.out]
    go_wp2_with fail
    refine CV.out.mono ?_
    rintro e w' ⟨rfl, rfl⟩
    go_wp2
    go_ret
    exact ⟨by rw [HP.out]; rfl, Below.refl _ _⟩
  by_cases h0 : len = 0
  · have HP : Hid (polS p V = -1) := polS_no (Or.inl ((nil_iff hl).2 h0))
    subst h0
    clear h hl hc hp hpp
    go_enter Try.func6, Try.ntmps6
    go_wp2_with fail
    refine (in_any _ _ _ _).mono ?_
    rintro e w' ⟨rfl, rfl⟩
    rw [HI.out]
    go_wp2_with fail
    refine CV.out.mono ?_
    rintro e w' ⟨rfl, rfl⟩
    go_wp2
    go_ret
    exact ⟨by rw [HP.out]; rfl, Below.refl _ _⟩
  have hb0 : ((len : Int) == 0) = false := by rw [beq_eq_false_iff_ne]; omega
  have CP : Hid (Calls Try.prog 18 #[.int .i64 p, .slice oa len cap] w fun e w' => e = .returned (.int .i64 (polS p V)) ∧ Below w.heap.size w w') := l9Policy_any p oa cap len V w hl hpp (fun e => h0 ((nil_iff hl).1 e)) hc.symm h
  clear h hl hc hp hpp h0
  go_enter Try.func6, Try.ntmps6
  go_wp2_with fail
  refine (in_any _ _ _ _).mono ?_
  rintro e w' ⟨rfl, rfl⟩
  rw [HI.out]
  go_wp2_with fail
  refine CV.out.mono ?_
  rintro e w' ⟨rfl, rfl⟩
  go_wp2_with fail
  refine CP.out.mono ?_
  rintro e w1 ⟨rfl, hb⟩
  have HB := hid hb
  clear hb
  go_wp2
  go_ret
  exact ⟨rfl, HB.out⟩

end Go.Proofs.Ytgkhkogenbphfad
