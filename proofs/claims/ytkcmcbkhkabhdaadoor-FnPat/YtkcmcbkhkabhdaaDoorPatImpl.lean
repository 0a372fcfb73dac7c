/- DERIVED. The walk of the program's matches. -/
import Derived.Test.YtkcmcbkhkabhdaaDoorPatBase
import Derived.Test.YtkcmcbkhkabhdaaDoorShelf
namespace Go.Proofs.YtkcmcbkhkabhdaaDoor
open Go.RowKit

theorem dw_nil (l : List UInt8) : l.dropWhile (· == 42) = [] ↔ ∀ a ∈ l, a = 42 := by
  induction l with
  | nil => simp
  | cons a t ih =>
    by_cases h : a = 42
    · subst h
      rw [List.dropWhile_cons_of_pos (by simp), ih]
      simp
    · rw [List.dropWhile_cons_of_neg (by simpa using h)]
      constructor
      · intro e; exact absurd e (List.cons_ne_nil _ _)
      · intro hh; exact absurd (hh a (by simp)) h

theorem dw_all (l : List UInt8) (h : ∀ a ∈ l.dropWhile (· == 42), a = 42) : ∀ a ∈ l, a = 42 := by
  induction l with
  | nil => simp
  | cons a t ih =>
    by_cases e : a = 42
    · subst e
      rw [List.dropWhile_cons_of_pos (by simp)] at h
      intro x hx
      rcases List.mem_cons.1 hx with hx | hx
      · exact hx
      · exact ih h x hx
    · rw [List.dropWhile_cons_of_neg (by simpa using e)] at h
      exact h

theorem trim_empty (l : List UInt8) : Lib.trimB l 42 = [] ↔ ∀ a ∈ l, a = 42 := by
  unfold Lib.trimB Lib.trimLeftB Lib.trimRightB
  rw [dw_nil]
  constructor
  · intro h a ha
    exact dw_all l.reverse (fun x hx => h x (by simpa using hx)) a (by simpa using ha)
  · intro h x hx
    have h2 := (dw_nil l.reverse).2 (fun y hy => h y (by simpa using hy))
    rw [h2] at hx
    simp at hx

set_option maxRecDepth 100000 in
set_option maxHeartbeats 1600000 in
theorem matches_any (p s : ByteArray) (b : Bool) (w : World) (hp : p.size ≤ 1000000) (hs : s.size ≤ 1000000) (hb : b = true ↔ Mt p.data.toList s.data.toList) :
    Calls Tryd.prog 9 #[.string p, .string s] w fun e w' => e = .returned (.bool b) ∧ ∃ nq, w' = w.drewN nq := by
  have HB := hidP hb
  clear hb
  have lp : p.data.toList.length = p.size := by simp
  have ls : s.data.toList.length = s.size := by simp
  have HLP := hidP lp
  have HLS := hidP ls
  clear lp ls
  go_enter Tryd.func9, Tryd.ntmps9
  go_wp2
  go_loopw [5, 6, 7, 8] (fun v1 v2 v3 v4 wr => ∃ (i k : Nat) (st : Option Nat) (fr nq : Nat), v1 = .int .i64 i ∧ v2 = .int .i64 k ∧ v3 = .int .i64 (starI st) ∧ v4 = .int .i64 fr ∧ At p.data.toList s.data.toList i k st fr ∧ wr = w.drewN nq) (fun v1 _ v3 v4 _ => pleft p.size s.size (intOf v1).toNat (intOf v3) (intOf v4).toNat)
  case atStart => exact ⟨0, 0, none, 0, 0, rfl, rfl, rfl, rfl, at_start _ _, rfl⟩
  case round =>
    obtain ⟨i, k, st, fr, nq, rfl, rfl, rfl, rfl, hat, rfl⟩ := hrel
    have hi : i ≤ p.size := by have := hat.1; rw [HLP.out] at this; exact this
    have hk : k ≤ s.size := by have := hat.2.1; rw [HLS.out] at this; exact this
    have hf : fr ≤ k := hat.2.2.1
    have HAT := hidP hat
    have hst : -1 ≤ starI st ∧ starI st < i := by
      cases st with
      | none => simp [starI]; omega
      | some t => have := hat.2.2.2.1; simp [starI]; omega
    obtain ⟨hst1, hst2⟩ := hst
    clear hat
    by_cases hlt : k < s.size
    · by_cases hip : i < p.size
      · by_cases h42 : p[i] = 42
        · have hc' : ((p[i].toNat : Int) == 42) = true := by rw [h42]; rfl
          have H42 := hidP h42
          clear h42
          go_wp2
          go_roundw
          case rel => exact ⟨i + 1, k, some i, k, nq, by go_num, rfl, rfl, rfl, at_star HAT.out (by rw [p_get p i hip, H42.out]), rfl⟩
          case measure => simpa [intOf] using left_star (S := s.size) (i := k) (frm := fr) hst1 hst2 hip hk
        · have hc' : ((p[i].toNat : Int) == 42) = false := by
            rw [beq_eq_false_iff_ne]
            intro e
            exact h42 (UInt8.toNat_inj.mp (by have : (42 : UInt8).toNat = 42 := rfl; omega))
          have H42 := hidP h42
          clear h42
          by_cases hsame : p[i] = s[k]
          · have heq : ((p[i].toNat : Int) == (s[k].toNat : Int)) = true := by rw [hsame]; simp
            have HSM := hidP hsame
            clear hsame
            go_wp2
            go_quiet (fail)
            go_wp2
            go_roundw
            case rel => exact ⟨i + 1, k + 1, st, fr, _, by go_num, by go_num, rfl, rfl, at_same HAT.out (p_get p i hip) (by rw [HSM.out]; exact p_get s k hlt) H42.out, rfl⟩
            case measure => simpa [intOf] using left_same (S := s.size) (frm := fr) (star := starI st) hip
          · have heq : ((p[i].toNat : Int) == (s[k].toNat : Int)) = false := by
              rw [beq_eq_false_iff_ne]
              intro e
              exact hsame (UInt8.toNat_inj.mp (by omega))
            have HPT : Hid (∀ c, p.data.toList[i]? = some c → c ≠ 42 ∧ s.data.toList[k]? ≠ some c) := by
              intro c hc
              rw [p_get p i hip] at hc
              injection hc with hc
              subst hc
              exact ⟨H42.out, by rw [p_get s k hlt]; intro e; injection e with e; exact hsame e.symm⟩
            clear hsame
            cases st with
            | none =>
              have hneg : starI none = -1 := rfl
              rw [hneg]
              go_wp2
              go_quiet (fail)
              go_wp2
              have HN : Hid (b = false) := by
                have := at_no HAT.out (by rw [HLS.out]; exact hlt) HPT.out
                have h2 := HB.out
                cases b
                · rfl
                · exact absurd (h2.1 rfl) this
              refine bodyPost_ret (v := .bool false) (by simp [results, Tryd.results9, go_sem]) rfl ⟨by rw [HN.out], _, rfl⟩
            | some t =>
              have hpos : starI (some t) = (t : Int) := rfl
              rw [hpos] at hst1 hst2 ⊢
              go_wp2
              go_quiet (fail)
              go_wp2
              go_roundw
              case rel => exact ⟨t + 1, fr + 1, some t, fr + 1, _, by go_num, by go_num, rfl, by go_num, at_back HAT.out (by rw [HLS.out]; exact hlt) HPT.out, rfl⟩
              case measure => simpa [intOf] using left_back (P := p.size) (S := s.size) (p := i) (p' := t + 1) (frm := fr) (star := (t : Int)) hi (by omega)
      · have HPT : Hid (∀ c, p.data.toList[i]? = some c → c ≠ 42 ∧ s.data.toList[k]? ≠ some c) := by
          intro c hc
          rw [List.getElem?_eq_none (by rw [HLP.out]; omega)] at hc
          simp at hc
        cases st with
        | none =>
          have hneg : starI none = -1 := rfl
          rw [hneg]
          go_wp2
          go_quiet (fail)
          go_wp2
          have HN : Hid (b = false) := by
            have := at_no HAT.out (by rw [HLS.out]; exact hlt) HPT.out
            have h2 := HB.out
            cases b
            · rfl
            · exact absurd (h2.1 rfl) this
          refine bodyPost_ret (v := .bool false) (by simp [results, Tryd.results9, go_sem]) rfl ⟨by rw [HN.out], _, rfl⟩
        | some t =>
          have hpos : starI (some t) = (t : Int) := rfl
          rw [hpos] at hst1 hst2 ⊢
          go_wp2
          go_quiet (fail)
          go_wp2
          go_roundw
          case rel => exact ⟨t + 1, fr + 1, some t, fr + 1, _, by go_num, by go_num, rfl, by go_num, at_back HAT.out (by rw [HLS.out]; exact hlt) HPT.out, rfl⟩
          case measure => simpa [intOf] using left_back (P := p.size) (S := s.size) (p := i) (p' := t + 1) (frm := fr) (star := (t : Int)) hi (by omega)
    · have HE : Hid (b = true ↔ ∀ a ∈ p.data.toList.drop i, a = 42) := HB.out.trans (at_end HAT.out (by rw [HLS.out]; exact hlt))
      obtain ⟨r, hr⟩ : ∃ r : ByteArray, r = ⟨(Lib.trimB (p.extract i p.size).data.toList 42).toArray⟩ := ⟨_, rfl⟩
      have hT : ∀ w0, Calls Tryd.prog 13 #[.string (p.extract i p.size), .string ⟨#[42]⟩] w0 fun e w' => e = .returned (.string r) ∧ ∃ nq, w' = w0.drewN nq := by
        intro w0
        refine (Tryd.strings_Trim_one (p.extract i p.size) 42 (by decide) w0 (by simp; omega)).mono ?_
        rintro e w' ⟨rfl, h | h⟩
        · exact ⟨by rw [hr], 0, h⟩
        · exact ⟨by rw [hr], 1, h⟩
      have hre : (r.toList == []) = b := by
        have e1 : (p.extract i p.size).data.toList = p.data.toList.drop i := by
          rw [Lib.extract_from]
        have e2 : r.toList = Lib.trimB (p.data.toList.drop i) 42 := by rw [hr, e1, ByteArray.toList_eq]
        rw [e2]
        cases b
        · rw [beq_eq_false_iff_ne]
          intro e
          exact Bool.noConfusion (HE.out.2 ((trim_empty _).1 e))
        · rw [beq_iff_eq]
          exact (trim_empty _).2 (HE.out.1 rfl)
      have HT := hidP hT
      clear hT hr HE HAT
      go_wp2_with (go_at_call 13; refine (HT.out _).mono ?_; rintro e w1 ⟨rfl, nq1, rfl⟩)
      refine bodyPost_ret (v := .bool b) (by simp [results, Tryd.results9, go_sem]) rfl ⟨rfl, _, rfl⟩

end Go.Proofs.YtkcmcbkhkabhdaaDoor
