/- DERIVED. The law FnPolicy at every code. -/
import Derived.Test.YtgkhkogenbphfadDrawVotes
import Derived.Test.YtgkhkogenbphfadVoteFacts
namespace Go.Proofs.Ytgkhkogenbphfad
open Go.RowKit

theorem made_one (w : World) (base : Nat) (x : Int) (hb : base ≤ w.heap.size) : (w.alloc (.cells #[.int .i64 x] 3)).ownsRow base 3 1 (.slice (some ⟨w.heap.size, 0, none⟩) 1 1) 1 [.int .i64 x] := by
  refine ⟨rfl, Or.inr ⟨w.heap.size, 1, #[.int .i64 x], rfl, hb, ?_, Nat.le_refl _, by decide, rfl, rfl⟩⟩
  show (w.heap.push _)[w.heap.size]? = _
  simp

theorem nums_cp {w : World} {base k : Nat} {oa : Option Addr} {cp : Nat} {V : List Int} (hk : V.length = k) (h : w.ownsRow base 3 1 (.slice oa k cp) V.length (V.map (Value.int .i64))) : NumsAt w oa V := by
  obtain ⟨o1, c1, e, hn⟩ := nums_of_len hk h
  injection e with e1 e2 e3
  subst e1
  exact hn

theorem beq_dec {a b : Int} {q : Prop} [Decidable q] (h : a = b ↔ q) : (a == b) = decide q := by
  by_cases hp : a = b
  · rw [beq_iff_eq.2 hp, decide_eq_true (h.1 hp)]
  · rw [beq_eq_false_iff_ne.2 hp, decide_eq_false (fun hq => hp (h.2 hq))]

theorem beq_iff {a b c d : Int} (h : a = b ↔ c = d) : (a == b) = (c == d) := by
  rw [beq_dec h, beq_dec Iff.rfl]

set_option maxRecDepth 100000 in
set_option maxHeartbeats 1600000 in
theorem law_any (oa : Option Addr) (len cap : Nat) (w : World) (h : CodeAt w oa len) (hc : len ≤ cap) (hm : cap ≤ maxLen) :
    Calls Try.prog 3 #[.slice oa len cap] w fun e w' => e = .returned (.bool true) ∧ Below w.heap.size w w' := by
  by_cases hbig : (len : Int) > 1048576
  · clear h
    go_enter Try.func3, Try.ntmps3
    go_wp2
    go_ret
    exact ⟨rfl, Below.refl _ _⟩
  have hlen : len ≤ 1048576 := by omega
  have HC := hid h
  obtain ⟨i0, hi, hz0, hz1, hz2⟩ := info_parts infoInt
  clear h
  go_enter Try.func3, Try.ntmps3
  go_wp2_with fail
  refine (drawPolicy_any oa len cap _ HC.out hc hm).mono ?_
  rintro e w1 ⟨⟨p, v, rfl, V, hrow, hV4⟩, hb1⟩
  have HB1 := hid hb1
  obtain ⟨m, hmm⟩ : ∃ m, m = V.length := ⟨_, rfl⟩
  have HM := hid hmm
  obtain ⟨o1, c1, rfl, hn1⟩ := nums_of_len hmm.symm hrow
  have HN1 := hid hn1
  have hm4 : m ≤ 4 := by omega
  have CI : Hid (∀ (p' : Int) w', Below w1.heap.size w1 w' → Calls Try.prog 5 #[.int .i64 p', .slice o1 m c1] w' fun e w2 => e = .returned (.int .i64 (polS p' V)) ∧ Below w'.heap.size w' w2) :=
    fun p' w' hb => implPolicy_any p' o1 c1 m V w' HM.out (by omega) (HN1.out.below hb)
  have CS : Hid (∀ w', Below w1.heap.size w1 w' → Calls Try.prog 6 #[.int .i64 p, .slice o1 m c1] w' fun e w2 => e = .returned (.int .i64 (polS p V)) ∧ Below w'.heap.size w' w2) :=
    fun w' hb => specPolicy_any p o1 c1 m V w' HM.out (by omega) (HN1.out.below hb)
  obtain ⟨n, hn⟩ : ∃ n, n = polS p V := ⟨_, rfl⟩
  have HNN := hid hn
  have CIp := hid (CI.out p)
  rw [← hn] at CS CIp
  clear hb1 hmm hrow hn1 hn hV4 HC
  go_wp2_with fail
  refine (CIp.out _ (Below.refl _ _)).mono ?_
  rintro e w2 ⟨rfl, hb2⟩
  have HB2 := hid hb2
  clear hb2 CIp
  go_wp2_with fail
  refine (CS.out _ HB2.out).mono ?_
  rintro e w3 ⟨rfl, hb3⟩
  have HB3 : Hid (Below w1.heap.size w1 w3) := HB2.out.trans (hb3.mono HB2.out.size)
  clear hb3 HB2
  by_cases hneg : n < 0
  · go_wp2_with fail
    refine (CS.out _ HB3.out).mono ?_
    rintro e w4 ⟨rfl, hb4⟩
    have HB4 : Hid (Below w.heap.size w w4) := HB1.out.trans ((HB3.out.trans (hb4.mono HB3.out.size)).mono HB1.out.size)
    clear hb4
    go_wp2
    go_ret
    exact ⟨rfl, HB4.out⟩
  have hn0 : 0 ≤ n := by omega
  have hnd : decide (n < 0) = false := decide_eq_false hneg
  obtain ⟨hne, hok⟩ := pol_pos (p := p) (V := V) (by rw [← HNN.out]; exact hn0)
  have HNE := hid hne
  have HOK := hid hok
  have hm3 : m ≤ 3 := by rw [HM.out]; exact (okV_all hok).1
  have hm1 : 1 ≤ m := by
    rw [HM.out]
    cases V with
    | nil => exact absurd rfl hne
    | cons a t => simp
  have HROW : Hid ((w3.alloc (.cells #[] 3)).ownsRow w1.heap.size 3 1 (.slice (some ⟨w3.heap.size, 0, none⟩) 0 0) 0 []) := World.ownsRow_made w3 #[] 0 HB3.out.size (by decide) rfl
  have HB3' : Hid (Below w1.heap.size w1 (w3.alloc (.cells #[] 3))) := HB3.out.alloc HB3.out.size _
  clear hne hok CS HB3
  go_wp2
  go_loopw [6, 7, 8] (fun t z i wr => ∃ k g cp : Nat, k ≤ m ∧ i = .int .i64 k ∧ z = .int .i64 ((V.take k).count 0 : Nat) ∧ t = .slice (some ⟨g, 0, none⟩) k cp ∧ wr.ownsRow w1.heap.size 3 1 t k ((V.take k).reverse.map (Value.int .i64)) ∧ Below w1.heap.size w1 wr) (fun _ _ i _ => m - (intOf i).toNat)
  case atStart => exact ⟨0, _, _, Nat.zero_le _, rfl, rfl, rfl, HROW.out, HB3'.out⟩
  case round =>
    obtain ⟨k, g, cp, hk, rfl, rfl, rfl, hown, hb⟩ := hrel
    have HB := hid hb
    have HOWN := hid hown
    have hcnt := count_le_len V 0 k
    have HS := hid hb.size
    have HRV : Hid ((V.take k).reverse.length = k) := by show _ = _; rw [List.length_reverse, List.length_take, ← HM.out]; omega
    clear hb HROW HB3'
    by_cases hlt : k < m
    · have hltI : (k : Int) < (m : Int) := by omega
      have hkv : k < V.length := by rw [← HM.out]; exact hlt
      obtain ⟨b, off, rfl, hbw, hc0⟩ := (HN1.out.below HB.out) k hkv
      have HCT := hid (count_take V 0 k hkv)
      have HTK : Hid ((V.take (k + 1)).reverse.map (Value.int .i64) = [Value.int .i64 V[k]] ++ (V.take k).reverse.map (Value.int .i64)) := by
        show _ = _
        rw [List.take_succ_eq_append_getElem hkv, List.reverse_append, List.map_append]
        rfl
      obtain ⟨x, hx⟩ : ∃ x, x = V[k] := ⟨_, rfl⟩
      rw [← hx] at hc0 HCT HTK
      have HX := hid hx
      obtain ⟨z, hzz⟩ : ∃ z, z = (V.take k).count 0 := ⟨_, rfl⟩
      rw [← hzz] at HCT hcnt ⊢
      have hz3 : z ≤ 3 := by have := HM.out; omega
      obtain ⟨news, hnews⟩ : ∃ news, news = (V.take k).reverse.map (Value.int .i64) := ⟨_, rfl⟩
      rw [← hnews] at hown HTK
      have hnl : news.length = k * 1 := by rw [hnews, List.length_map, HRV.out, Nat.mul_one]
      have hn1c : ∀ u ∈ news, u.oneCell' = true := fun u hu => by
        rw [hnews, List.mem_map] at hu
        obtain ⟨a, _, rfl⟩ := hu
        rfl
      have hown1 := made_one wr w1.heap.size x HS.out
      have hcl : ∀ (j : Nat) u, news[j]? = some u → (wr.alloc (.cells #[.int .i64 x] 3)).cell? ((⟨g, 0, none⟩ : Addr).add j) = some u := fun j u hu => by
        have := (hown.alloc (.cells #[.int .i64 x] 3)).cells (g := g) rfl j u hu
        by_cases e : j = 0
        · simpa [Addr.add, e] using this
        · simpa [Addr.add, e] using this
      clear hx hzz hnews hcnt HOWN
      go_wp2_with (at_builtin; refine wpList_append_own _ rfl _ _ 23 rfl w1.heap.size 3 i0 (.int .i64 0) 1 8 Try.underlying23 hi hz0 hz1 hz2 rfl (by decide) _ _ _ rfl hown1 ⟨g, 0, none⟩ k cp news rfl hnl hcl hn1c (by unfold maxLen; omega) (by omega) (by have := HS.out; simp; omega) ?_)
      intro v' w4 hown' hgrow _
      have HB4 : Hid (Below w1.heap.size w1 w4) := (HB.out.alloc HS.out _).trans (below_grown hown1 (by have := HS.out; simp; omega) hgrow)
      obtain ⟨b', off', e, _, hc4⟩ := (HN1.out.below HB4.out) k hkv
      injection e with e
      injection e with e1 e2
      subst e1 e2
      rw [← HX.out] at hc4
      obtain ⟨g4, cp4, rfl, _⟩ := row_cells hown' (by omega)
      have HOWN' : Hid (w4.ownsRow w1.heap.size 3 1 (.slice (some ⟨g4, 0, none⟩) (k + 1) cp4) (k + 1) ((V.take (k + 1)).reverse.map (Value.int .i64))) := by
        show World.ownsRow _ _ _ _ _ _ _
        rw [HTK.out, Nat.add_comm k 1]
        exact hown'
      have hk1 : 1 + k = k + 1 := Nat.add_comm 1 k
      rw [hk1]
      clear HX hk1 hown' hgrow hown1 hcl hn1c hnl hown HTK hc0
      by_cases hx0 : x = 0
      · have HE : Hid ((V.take (k + 1)).count 0 = z + 1) := by show _ = _; rw [HCT.out, if_pos hx0]
        subst hx0
        go_wp2
        go_roundw
        case rel => exact ⟨k + 1, g4, cp4, by omega, by go_num, by rw [HE.out]; go_num, rfl, HOWN'.out, HB4.out⟩
        case measure => simp [intOf]; omega
      · have hb : (x == 0) = false := by rw [beq_eq_false_iff_ne]; exact hx0
        have HE : Hid ((V.take (k + 1)).count 0 = z) := by show _ = _; rw [HCT.out, if_neg hx0]; rfl
        clear hx0
        go_wp2
        go_roundw
        case rel => exact ⟨k + 1, g4, cp4, by omega, by go_num, by rw [HE.out], rfl, HOWN'.out, HB4.out⟩
        case measure => simp [intOf]; omega
    · have hltI : ¬ (k : Int) < (m : Int) := by omega
      have hkm : k = m := by omega
      have HALL : Hid (V.take k = V) := List.take_of_length_le (by rw [← HM.out]; omega)
      have HT : Hid (NumsAt wr (some ⟨g, 0, none⟩) V.reverse) := by
        refine nums_cp (base := w1.heap.size) (k := m) (cp := cp) (by rw [List.length_reverse]; exact HM.out.symm) ?_
        have := HOWN.out
        rw [HALL.out, hkm] at this
        rw [List.length_reverse, ← HM.out]
        exact this
      have hno : ¬ (V = [] ∨ okV V = false) := by
        rintro (e | e)
        · exact HNE.out e
        · rw [HOK.out] at e; cases e
      have HFA : Hid (polS 1 V = maxL (V.map endI)) := polS_all hno
      have HFB : Hid (polS 2 V = minL (V.map endI)) := polS_some hno
      have HFC : Hid (polS 3 V = mostL V) := polS_most hno
      have CT : Hid (∀ w', Below w1.heap.size w1 w' → NumsAt w' (some ⟨g, 0, none⟩) V.reverse → Calls Try.prog 5 #[.int .i64 p, .slice (some ⟨g, 0, none⟩) m cp] w' fun e w2 => e = .returned (.int .i64 n) ∧ Below w'.heap.size w' w2) := by
        intro w' _ hn
        have := implPolicy_any p (some ⟨g, 0, none⟩) cp m V.reverse w' (by rw [List.length_reverse]; exact HM.out) (by omega) hn
        rw [pol_rev p V HOK.out, ← HNN.out] at this
        exact this
      have hct : (V.take k).count 0 = V.count 0 := by rw [HALL.out]
      rw [hct] at hcnt ⊢
      have hz3 : V.count 0 ≤ 3 := by have := HM.out; omega
      subst hkm
      have CA := hid (CI.out 1)
      have CB := hid (CI.out 2)
      have CC := hid (CI.out 3)
      obtain ⟨a, ha⟩ : ∃ a, a = polS 1 V := ⟨_, rfl⟩
      obtain ⟨b, hb⟩ : ∃ b, b = polS 2 V := ⟨_, rfl⟩
      obtain ⟨c, hcc⟩ : ∃ c, c = polS 3 V := ⟨_, rfl⟩
      obtain ⟨z, hz⟩ : ∃ z : Int, z = ((V.count 0 : Nat) : Int) := ⟨_, rfl⟩
      have HA1 := HFA.out
      have HB1' := HFB.out
      have HC1 := HFC.out
      rw [← ha] at CA HA1
      rw [← hb] at CB HB1'
      rw [← hcc] at CC HC1
      rw [← hz]
      have fA : (a == 0) = (z == (k : Int)) := beq_iff (by
        rw [HA1, all_zero V HNE.out HOK.out, hz, HM.out]
        omega)
      have fB : (b == 0) = decide (0 < z) := beq_dec (by
        rw [HB1', some_zero V HNE.out HOK.out, hz]
        omega)
      have fC : (c == 0) = decide ((k : Int) < 2 * z) := beq_dec (by
        rw [HC1, most_zero V, hz, HM.out]
        omega)
      have hwz : IntKind.i64.wrap (2 * z) = 2 * z := by rw [IntKind.wrap_i64]; omega
      have hle : b ≤ a := by rw [HA1, HB1']; exact min_le_max V (by rw [← HM.out]; exact hm3)
      have HONE : Hid (k = 1 → ∃ v, V = [v] ∧ ((v = -1 ∧ a = 123) ∨ (0 ≤ v ∧ a = v ∧ b = v ∧ c = v))) := fun e => by
        have := one_vote V (by rw [← HM.out]; exact e) HOK.out
        rw [← HA1, ← HB1', ← HC1] at this
        exact this
      clear ha hb hcc hz HA1 HB1' HC1 HFA HFB HFC hct hcnt hz3 HALL CI hno
      go_wp2_with fail
      refine (CA.out _ HB.out).mono ?_
      rintro e w4 ⟨rfl, hb4⟩
      have HB4 : Hid (Below w1.heap.size w1 w4) := HB.out.trans (hb4.mono HB.out.size)
      have HT4 : Hid (NumsAt w4 (some ⟨g, 0, none⟩) V.reverse) := HT.out.below hb4
      clear hb4 CA HT
      go_wp2_with fail
      refine (CB.out _ HB4.out).mono ?_
      rintro e w5 ⟨rfl, hb5⟩
      have HB5 : Hid (Below w1.heap.size w1 w5) := HB4.out.trans (hb5.mono HB4.out.size)
      have HT5 : Hid (NumsAt w5 (some ⟨g, 0, none⟩) V.reverse) := HT4.out.below hb5
      clear hb5 CB HT4
      go_wp2_with fail
      refine (CC.out _ HB5.out).mono ?_
      rintro e w6 ⟨rfl, hb6⟩
      have HB6 : Hid (Below w1.heap.size w1 w6) := HB5.out.trans (hb6.mono HB5.out.size)
      have HT6 : Hid (NumsAt w6 (some ⟨g, 0, none⟩) V.reverse) := HT5.out.below hb6
      clear hb6 CC HT5
      go_wp2_with fail
      refine (CT.out _ HB6.out HT6.out).mono ?_
      rintro e w7 ⟨rfl, hb7⟩
      have HB7 : Hid (Below w1.heap.size w1 w7) := HB6.out.trans (hb7.mono HB6.out.size)
      clear hb7 CT HT6
      have HB8 : Hid (Below w.heap.size w w7) := HB1.out.trans (HB7.out.mono HB1.out.size)
      by_cases hk1 : k = 1
      · obtain ⟨v, hv, hcase⟩ := HONE.out hk1
        obtain ⟨b0, off0, rfl, _, hc0⟩ := (HN1.out.below HB7.out) 0 (by rw [← HM.out]; omega)
        have hc1 : w7.cell? ⟨b0, off0, none⟩ = some (.int .i64 v) := by subst hv; simpa using hc0
        clear hc0 hv HOWN hown HRV HONE
        subst hk1
        rcases hcase with ⟨rfl, rfl⟩ | ⟨hv0, rfl, rfl, rfl⟩
        · have fA1 : (z == 1) = false := fA.symm
          have fC1 : (c == 0) = decide (1 < 2 * z) := fC
          clear fA fC
          go_wp2
          go_ret
          exact ⟨rfl, HB8.out⟩
        · have hv1 : ¬ c < 0 := by omega
          have hv2 : decide (c < 0) = false := decide_eq_false hv1
          have fA1 : (c == 0) = (z == 1) := fA
          have fB1 : decide (0 < z) = (z == 1) := fB.symm.trans fA
          have fC1 : decide (1 < 2 * z) = (z == 1) := fC.symm.trans fA
          clear fA fB fC
          go_wp2
          go_ret
          exact ⟨rfl, HB8.out⟩
      · have hk2 : 1 < k := by omega
        have hk3 : (1 : Int) < (k : Int) := by omega
        have hk4 : decide (1 < k) = true := decide_eq_true hk2
        clear HOWN hown HRV HONE hk1
        go_wp2
        go_ret
        exact ⟨rfl, HB8.out⟩

end Go.Proofs.Ytgkhkogenbphfad
