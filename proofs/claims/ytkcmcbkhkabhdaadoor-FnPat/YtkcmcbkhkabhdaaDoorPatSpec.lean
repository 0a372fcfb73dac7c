/- DERIVED. The walks of the model's patterns: l6Stars, l6Star. -/
import Derived.Test.YtkcmcbkhkabhdaaDoorPatBase
namespace Go.Proofs.YtkcmcbkhkabhdaaDoor
open Go.RowKit

set_option maxRecDepth 100000 in
set_option maxHeartbeats 800000 in
theorem stars_spec (s : ByteArray) (w : World) (hs : s.size ≤ 1000000) :
    Calls Tryd.prog 11 #[.string s] w fun e w' => ∃ v, e = .returned v ∧ w'.ownsRow w.heap.size 4 1 v s.size (s.data.toList.map starV) ∧ Below w.heap.size w w' := by
  obtain ⟨i0, hi, hz0, hz1, hz2⟩ := info_parts p_infoBool
  go_enter Tryd.func11, Tryd.ntmps11
  go_wp2
  go_loopw [3, 4] (fun v i wr => Below w.heap.size w wr ∧ ∃ (k : Nat), k ≤ s.size ∧ i = .int .i64 k ∧ wr.ownsRow w.heap.size 4 1 v k ((s.data.toList.take k).map starV)) (fun _ i _ => s.size - (intOf i).toNat)
  case atStart =>
    refine ⟨(Below.refl _ _).alloc (Nat.le_refl _) _, 0, Nat.zero_le _, rfl, ?_⟩
    exact World.ownsRow_made _ #[] 0 (Nat.le_refl _) (by decide) rfl
  case round =>
    obtain ⟨hB, k, hk, rfl, hown⟩ := hrel
    have HB := hidP hB
    have HS := hidP hB.size
    clear hB
    obtain ⟨oa, cp, rfl⟩ := p_row_shape hown
    have HOWN := hidP hown
    by_cases hlt : k < s.size
    · go_wp2_with (at_builtin; refine wpList_append_own _ rfl _ _ 32 rfl w.heap.size 4 i0 (.bool false) 1 1 Tryd.underlying32 hi hz0 hz1 hz2 rfl (by decide) _ _ _ rfl (hown.alloc _) ⟨wr.heap.size, 0, none⟩ 1 1 [.bool ((s[k].toNat : Int) == 42)] rfl rfl (p_cell_new1 _ _ _) (by simp [Value.oneCell']) (by unfold maxLen; omega) (by omega) (by have := HS.out; simp; omega) ?_)
      intro v' w1 hown' hgrow _
      have HB1 : Hid (Below w.heap.size w w1) := (HB.out.alloc HS.out _).trans (p_below_grown (hown.alloc _) (by have := HS.out; simp; omega) hgrow)
      have HOWN' := hidP hown'
      clear hown' hgrow hown
      go_wp2
      go_roundw
      case rel =>
        refine ⟨HB1.out, k + 1, by omega, by go_num, ?_⟩
        have := HOWN'.out
        rw [p_take_snoc s k hlt]
        simpa [starV] using this
      case measure => simp [intOf]; omega
    · have e : k = s.size := by omega
      have HO : Hid (wr.ownsRow w.heap.size 4 1 (.slice oa k cp) s.size (s.data.toList.map starV)) := by
        have := HOWN.out
        rw [e, List.take_of_length_le (by simp)] at this
        rw [e]
        exact this
      clear hown
      go_wp2
      refine bodyPost_ret (v := .slice oa k cp) (by simp [results, Tryd.results11, go_sem]) rfl ⟨_, rfl, HO.out, HB.out⟩

set_option maxRecDepth 100000 in
set_option maxHeartbeats 1600000 in
theorem star_spec (p s : ByteArray) (v : Value) (b : Bool) (w : World) (hp : p.size ≤ 1000000) (hs : s.size ≤ 1000000) (hm : Marks w v p) (hb : b = true ↔ Mt p.data.toList s.data.toList) :
    Calls Tryd.prog 10 #[.string p, v, .string s] w fun e w' => e = .returned (.bool b) ∧ ∃ nq, w' = w.drewN nq := by
  obtain ⟨oa, cp, rfl, hrow⟩ := hm
  have HB := hidP hb
  have HROW := hidP hrow
  clear hb hrow
  have lp : p.data.toList.length = p.size := by simp
  have ls : s.data.toList.length = s.size := by simp
  have HLP := hidP lp
  have HLS := hidP ls
  clear lp ls
  go_enter Tryd.func10, Tryd.ntmps10
  go_wp2
  go_loopw [7, 8, 9, 10] (fun v1 v2 v3 v4 wr => ∃ (i k : Nat) (st : Option Nat) (fr nq : Nat), v1 = .int .i64 i ∧ v2 = .int .i64 k ∧ v3 = .int .i64 (starI st) ∧ v4 = .int .i64 fr ∧ At p.data.toList s.data.toList i k st fr ∧ wr = w.drewN nq) (fun v1 _ v3 v4 _ => pleft p.size s.size (intOf v1).toNat (intOf v3) (intOf v4).toNat)
  case atStart => exact ⟨0, 0, none, 0, 0, rfl, rfl, rfl, rfl, at_start _ _, rfl⟩
  case round =>
    obtain ⟨i, k, st, fr, nq, rfl, rfl, rfl, rfl, hat, rfl⟩ := hrel
    have hi : i ≤ p.size := by have := hat.1; rw [HLP.out] at this; exact this
    have hk : k ≤ s.size := by have := hat.2.1; rw [HLS.out] at this; exact this
    have hf : fr ≤ k := hat.2.2.1
    have HAT := hidP hat
    have hst : -1 ≤ starI st ∧ starI st < i := by
      cases st with
      | none => simp [starI]; omega
      | some t => have := hat.2.2.2.1; simp [starI]; omega
    obtain ⟨hst1, hst2⟩ := hst
    clear hat
    by_cases hlt : k < s.size
    · by_cases hip : i < p.size
      · obtain ⟨g, rfl, hc⟩ := HROW.out i hip
        by_cases h42 : p[i] = 42
        · have hc' : (w.drewN nq).cell? ⟨g, i, none⟩ = some (.bool true) := by
            have e : starV p[i] = .bool true := by rw [h42]; rfl
            rw [e] at hc
            exact hc
          have H42 := hidP h42
          clear hc h42
          go_wp2
          go_roundw
          case rel => exact ⟨i + 1, k, some i, k, nq, by go_num, rfl, rfl, rfl, at_star HAT.out (by rw [p_get p i hip, H42.out]), rfl⟩
          case measure => simpa [intOf] using left_star (S := s.size) (i := k) (frm := fr) hst1 hst2 hip hk
        · have hc' : (w.drewN nq).cell? ⟨g, i, none⟩ = some (.bool false) := by
            have e : starV p[i] = .bool false := by
              unfold starV
              rw [beq_eq_false_iff_ne.2]
              intro e
              exact h42 (UInt8.toNat_inj.mp (by have : (42 : UInt8).toNat = 42 := rfl; omega))
            rw [e] at hc
            exact hc
          have H42 := hidP h42
          clear hc h42
          by_cases hsame : p[i] = s[k]
          · have heq : ((p[i].toNat : Int) == (s[k].toNat : Int)) = true := by rw [hsame]; simp
            have HSM := hidP hsame
            clear hsame
            go_wp2
            go_quiet (fail)
            go_wp2
            go_roundw
            case rel => exact ⟨i + 1, k + 1, st, fr, _, by go_num, by go_num, rfl, rfl, at_same HAT.out (p_get p i hip) (by rw [HSM.out]; exact p_get s k hlt) H42.out, rfl⟩
            case measure => simpa [intOf] using left_same (S := s.size) (frm := fr) (star := starI st) hip
          · have heq : ((p[i].toNat : Int) == (s[k].toNat : Int)) = false := by
              rw [beq_eq_false_iff_ne]
              intro e
              exact hsame (UInt8.toNat_inj.mp (by omega))
            have HPT : Hid (∀ c, p.data.toList[i]? = some c → c ≠ 42 ∧ s.data.toList[k]? ≠ some c) := by
              intro c hc
              rw [p_get p i hip] at hc
              injection hc with hc
              subst hc
              exact ⟨H42.out, by rw [p_get s k hlt]; intro e; injection e with e; exact hsame e.symm⟩
            clear hsame
            cases st with
            | none =>
              have hneg : starI none = -1 := rfl
              rw [hneg]
              go_wp2
              go_quiet (fail)
              go_wp2
              have HN : Hid (b = false) := by
                have := at_no HAT.out (by rw [HLS.out]; exact hlt) HPT.out
                have h2 := HB.out
                cases b
                · rfl
                · exact absurd (h2.1 rfl) this
              refine bodyPost_ret (v := .bool false) (by simp [results, Tryd.results10, go_sem]) rfl ⟨by rw [HN.out], _, rfl⟩
            | some t =>
              have hpos : starI (some t) = (t : Int) := rfl
              rw [hpos] at hst1 hst2 ⊢
              go_wp2
              go_quiet (fail)
              go_wp2
              go_roundw
              case rel => exact ⟨t + 1, fr + 1, some t, fr + 1, _, by go_num, by go_num, rfl, by go_num, at_back HAT.out (by rw [HLS.out]; exact hlt) HPT.out, rfl⟩
              case measure => simpa [intOf] using left_back (P := p.size) (S := s.size) (p := i) (p' := t + 1) (frm := fr) (star := (t : Int)) hi (by omega)
      · have HPT : Hid (∀ c, p.data.toList[i]? = some c → c ≠ 42 ∧ s.data.toList[k]? ≠ some c) := by
          intro c hc
          rw [List.getElem?_eq_none (by rw [HLP.out]; omega)] at hc
          simp at hc
        cases st with
        | none =>
          have hneg : starI none = -1 := rfl
          rw [hneg]
          go_wp2
          go_quiet (fail)
          go_wp2
          have HN : Hid (b = false) := by
            have := at_no HAT.out (by rw [HLS.out]; exact hlt) HPT.out
            have h2 := HB.out
            cases b
            · rfl
            · exact absurd (h2.1 rfl) this
          refine bodyPost_ret (v := .bool false) (by simp [results, Tryd.results10, go_sem]) rfl ⟨by rw [HN.out], _, rfl⟩
        | some t =>
          have hpos : starI (some t) = (t : Int) := rfl
          rw [hpos] at hst1 hst2 ⊢
          go_wp2
          go_quiet (fail)
          go_wp2
          go_roundw
          case rel => exact ⟨t + 1, fr + 1, some t, fr + 1, _, by go_num, by go_num, rfl, by go_num, at_back HAT.out (by rw [HLS.out]; exact hlt) HPT.out, rfl⟩
          case measure => simpa [intOf] using left_back (P := p.size) (S := s.size) (p := i) (p' := t + 1) (frm := fr) (star := (t : Int)) hi (by omega)
    · have HE : Hid (b = true ↔ ∀ a ∈ p.data.toList.drop i, a = 42) := HB.out.trans (at_end HAT.out (by rw [HLS.out]; exact hlt))
      clear HAT
      go_wp2
      go_loopw [7] (fun v1 wr => wr = w.drewN nq ∧ ∃ (j : Nat), j ≤ p.size ∧ v1 = .int .i64 j ∧ (b = true ↔ ∀ a ∈ p.data.toList.drop j, a = 42)) (fun v1 _ => p.size - (intOf v1).toNat)
      case atStart => exact ⟨rfl, i, hi, rfl, HE.out⟩
      case round =>
        obtain ⟨rfl, j, hj, rfl, hrel⟩ := hrel
        have HR := hidP hrel
        clear hrel HE hst1 hst2 hi
        by_cases hjp : j < p.size
        · obtain ⟨g, rfl, hc⟩ := HROW.out j hjp
          by_cases h42 : p[j] = 42
          · have hc' : (w.drewN nq).cell? ⟨g, j, none⟩ = some (.bool true) := by
              have e : starV p[j] = .bool true := by rw [h42]; rfl
              rw [e] at hc
              exact hc
            have H42 := hidP h42
            clear hc h42
            go_wp2
            go_roundw
            case rel =>
              refine ⟨trivial, j + 1, by omega, by go_num, ?_⟩
              rw [HR.out, p_drop_cons p j hjp]
              simp [H42.out]
            case measure => simp [intOf]; omega
          · have hc' : (w.drewN nq).cell? ⟨g, j, none⟩ = some (.bool false) := by
              have e : starV p[j] = .bool false := by
                unfold starV
                rw [beq_eq_false_iff_ne.2]
                intro e
                exact h42 (UInt8.toNat_inj.mp (by have : (42 : UInt8).toNat = 42 := rfl; omega))
              rw [e] at hc
              exact hc
            have HN : Hid (b = false) := by
              have h2 := HR.out
              cases b
              · rfl
              · exact absurd (h2.1 rfl p[j] (by rw [p_drop_cons p j hjp]; simp)) h42
            have hne : ((j : Int) == (p.size : Int)) = false := by rw [beq_eq_false_iff_ne]; omega
            clear hc h42
            go_wp2
            refine bodyPost_ret (v := .bool false) (by simp [results, Tryd.results10, go_sem]) rfl ⟨by rw [HN.out], _, rfl⟩
        · have HN : Hid (b = true) := HR.out.2 (by rw [List.drop_of_length_le (by rw [HLP.out]; omega)]; simp)
          have hne : ((j : Int) == (p.size : Int)) = true := by rw [beq_iff_eq]; omega
          go_wp2
          refine bodyPost_ret (v := .bool true) (by simp [results, Tryd.results10, go_sem]) rfl ⟨by rw [HN.out], _, rfl⟩

end Go.Proofs.YtkcmcbkhkabhdaaDoor
