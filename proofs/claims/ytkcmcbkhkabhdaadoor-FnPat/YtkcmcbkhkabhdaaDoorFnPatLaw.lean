/- DERIVED. The walk of the law FnPat. -/
import Derived.Test.YtkcmcbkhkabhdaaDoorFnPatFacts
import Derived.Test.YtkcmcbkhkabhdaaDoorFnPatDraw
namespace Go.Proofs.YtkcmcbkhkabhdaaDoor
open Go.RowKit

theorem data_app (a b : ByteArray) : (a ++ b).data.toList = a.data.toList ++ b.data.toList := by simp

theorem sz1 (c : UInt8) : (⟨#[c]⟩ : ByteArray).size = 1 := rfl

theorem size_app (a b : ByteArray) : (a ++ b).size = a.size + b.size := by simp

theorem pat_yes {p s : ByteArray} (h1 : p.size ≤ 20) (h2 : s.size ≤ 50) (h : Mt p.data.toList s.data.toList) (w : World) :
    Calls Tryd.prog 5 #[.string p, .string s] w fun e w' => e = .returned (.bool true) ∧ ∃ nq, w' = w.drewN nq :=
  patImpl_any p s true w (by unfold maxLen; omega) (by unfold maxLen; omega) (by simp [PatSo, h, h1, h2])

set_option maxRecDepth 100000 in
set_option maxHeartbeats 4000000 in
theorem law_any (oa : Option Addr) (len cap : Nat) (w : World) (C : CodeAt w oa len) (hc : len ≤ cap) (hm : cap ≤ maxLen) :
    Calls Tryd.prog 3 #[.slice oa len cap] w fun e w' => e = .returned (.bool true) ∧ Below w.heap.size w w' := by
  have HC := hid C
  clear C
  by_cases hbig : (1048576 : Int) < (len : Int)
  · go_enter Tryd.func3, Tryd.ntmps3
    go_wp2
    go_ret
    exact ⟨rfl, Below.refl _ _⟩
  · go_enter Tryd.func3, Tryd.ntmps3
    go_wp2_with fail
    refine (drawPat_any oa len cap _ HC.out hc hm).mono ?_
    rintro e w1 ⟨p, s, rfl, hp, hs, hb1⟩
    obtain ⟨b, hb⟩ : ∃ b : Bool, b = true ↔ PatSo p.data.toList s.data.toList := by
      rcases Classical.em (PatSo p.data.toList s.data.toList) with h | h
      · exact ⟨true, by simp [h]⟩
      · exact ⟨false, by simp [h]⟩
    have CS : Hid (∀ w, Calls Tryd.prog 6 #[.string p, .string s] w fun e w' => e = .returned (.bool b) ∧ Below w.heap.size w w') := fun w => patSpec_any p s b w (by unfold maxLen; omega) (by unfold maxLen; omega) hb
    have CI : Hid (∀ w, Calls Tryd.prog 5 #[.string p, .string s] w fun e w' => e = .returned (.bool b) ∧ ∃ nq, w' = w.drewN nq) := fun w => patImpl_any p s b w (by unfold maxLen; omega) (by unfold maxLen; omega) hb
    have lp : p.data.toList.length = p.size := by simp
    have ls : s.data.toList.length = s.size := by simp
    have HM : Hid (b = true ↔ Mt p.data.toList s.data.toList) := by
      rw [show Hid _ = _ from rfl]
      rw [hb]
      unfold PatSo
      rw [lp, ls]
      constructor
      · exact fun h => h.2.2
      · exact fun h => ⟨by omega, by omega, h⟩
    have HB1 := hid hb1
    clear hb1 hb lp ls hbig HC
    go_wp2_with fail
    refine (CI.out _).mono ?_
    rintro e w2 ⟨rfl, nq2, rfl⟩
    go_wp2_with fail
    refine (CS.out _).mono ?_
    rintro e w3 ⟨rfl, hb3⟩
    have HB3 : Hid (Below w.heap.size w w3) := (p_below_drewN HB1.out nq2).trans (hb3.mono (by have := HB1.out.size; exact this))
    clear hb3 CS CI HB1
    go_wp2
    go_loopw [6, 7] (fun v1 v2 wr => wr = w3 ∧ ∃ (k : Nat), k ≤ p.size ∧ v2 = .int .i64 k ∧ v1 = .bool (hasStar (p.data.toList.take k))) (fun _ v2 _ => p.size - (intOf v2).toNat)
    case atStart => exact ⟨rfl, 0, Nat.zero_le _, rfl, rfl⟩
    case round =>
      obtain ⟨rfl, k, hk, rfl, rfl⟩ := hrel
      by_cases hlt : k < p.size
      · have e1 : hasStar (p.data.toList.take (k + 1)) = (hasStar (p.data.toList.take k) || ((p[k].toNat : Int) == 42)) := by
          unfold hasStar
          rw [p_take_snoc p k hlt, List.any_append]
          simp
        have HE := hid e1
        clear e1
        obtain ⟨x, hx⟩ : ∃ x, x = hasStar (p.data.toList.take k) := ⟨_, rfl⟩
        rw [← hx] at HE ⊢
        have HX := hid hx
        clear hx
        cases x
        · go_wp2
          go_roundw
          case rel => exact ⟨trivial, k + 1, by omega, by go_num, by rw [HE.out]; simp⟩
          case measure => simp [intOf]; omega
        · go_wp2
          go_roundw
          case rel => exact ⟨trivial, k + 1, by omega, by go_num, by rw [HE.out]; simp⟩
          case measure => simp [intOf]; omega
      · have e1 : p.data.toList.take k = p.data.toList := List.take_of_length_le (by simp; omega)
        rw [e1]
        clear e1
        obtain ⟨x, hx⟩ : ∃ x, x = hasStar p.data.toList := ⟨_, rfl⟩
        rw [← hx]
        have HX := hid hx
        clear hx
        have C3 : Hid (∀ w, Calls Tryd.prog 5 #[.string ⟨#[42]⟩, .string s] w fun e w' => e = .returned (.bool true) ∧ ∃ nq, w' = w.drewN nq) := fun w => pat_yes (by decide) (by omega) (mt_any _) w
        cases b
        · have hno : ¬ Mt p.data.toList s.data.toList := fun h => Bool.noConfusion (HM.out.2 h)
          cases x
          · have heq : (p.toList == s.toList) = false := by
              rw [beq_eq_false_iff_ne]
              intro e
              rw [ByteArray.toList_eq, ByteArray.toList_eq] at e
              exact hno ((mt_none (hasStar_no HX.out.symm)).2 e)
            clear hno
            go_wp2_with fail
            refine (C3.out _).mono ?_
            rintro e w4 ⟨rfl, nq4, rfl⟩
            go_wp2
            refine bodyPost_ret (v := .bool true) (by simp [results, Tryd.results3, go_sem]) rfl ⟨rfl, p_below_drewN HB3.out _⟩
          · clear hno
            go_wp2_with fail
            refine (C3.out _).mono ?_
            rintro e w4 ⟨rfl, nq4, rfl⟩
            go_wp2
            refine bodyPost_ret (v := .bool true) (by simp [results, Tryd.results3, go_sem]) rfl ⟨rfl, p_below_drewN HB3.out _⟩
        · have hyes : Mt p.data.toList s.data.toList := HM.out.1 rfl
          have C1 : Hid (∀ w, Calls Tryd.prog 5 #[.string (⟨#[42]⟩ ++ p), .string s] w fun e w' => e = .returned (.bool true) ∧ ∃ nq, w' = w.drewN nq) := fun w => pat_yes (by rw [size_app, sz1]; omega) (by omega) (by rw [data_app]; exact mt_front hyes) w
          have C2 : Hid (∀ w, Calls Tryd.prog 5 #[.string (p ++ ⟨#[42]⟩), .string s] w fun e w' => e = .returned (.bool true) ∧ ∃ nq, w' = w.drewN nq) := fun w => pat_yes (by rw [size_app, sz1]; omega) (by omega) (by rw [data_app]; have := mt_behind [] hyes; rw [List.append_nil] at this; exact this) w
          have C4 : Hid (∀ w, Calls Tryd.prog 5 #[.string (⟨#[42]⟩ ++ p ++ ⟨#[42]⟩), .string (⟨#[120]⟩ ++ s ++ ⟨#[121]⟩)] w fun e w' => e = .returned (.bool true) ∧ ∃ nq, w' = w.drewN nq) := fun w => pat_yes (by rw [size_app, size_app, sz1]; omega) (by rw [size_app, size_app, sz1, sz1]; omega) (by rw [data_app, data_app, data_app, data_app]; exact mt_both hyes) w
          have C5 : Hid (∀ w, Calls Tryd.prog 5 #[.string (⟨#[120]⟩ ++ p), .string (⟨#[120]⟩ ++ s)] w fun e w' => e = .returned (.bool true) ∧ ∃ nq, w' = w.drewN nq) := fun w => pat_yes (by rw [size_app, sz1]; omega) (by rw [size_app, sz1]; omega) (by rw [data_app, data_app]; exact mt_x hyes) w
          cases x
          · have heq : (p.toList == s.toList) = true := by
              rw [beq_iff_eq, ByteArray.toList_eq, ByteArray.toList_eq]
              exact (mt_none (hasStar_no HX.out.symm)).1 hyes
            clear hyes
            go_wp2_with fail
            refine (C1.out _).mono ?_
            rintro e w4 ⟨rfl, nq4, rfl⟩
            go_wp2_with fail
            refine (C2.out _).mono ?_
            rintro e w4 ⟨rfl, nq5, rfl⟩
            go_wp2_with fail
            refine (C3.out _).mono ?_
            rintro e w4 ⟨rfl, nq6, rfl⟩
            go_wp2_with fail
            refine (C4.out _).mono ?_
            rintro e w4 ⟨rfl, nq7, rfl⟩
            go_wp2_with fail
            refine (C5.out _).mono ?_
            rintro e w4 ⟨rfl, nq8, rfl⟩
            go_wp2
            refine bodyPost_ret (v := .bool true) (by simp [results, Tryd.results3, go_sem]) rfl ⟨rfl, p_below_drewN HB3.out _⟩
          · clear hyes
            go_wp2_with fail
            refine (C1.out _).mono ?_
            rintro e w4 ⟨rfl, nq4, rfl⟩
            go_wp2_with fail
            refine (C2.out _).mono ?_
            rintro e w4 ⟨rfl, nq5, rfl⟩
            go_wp2_with fail
            refine (C3.out _).mono ?_
            rintro e w4 ⟨rfl, nq6, rfl⟩
            go_wp2_with fail
            refine (C4.out _).mono ?_
            rintro e w4 ⟨rfl, nq7, rfl⟩
            go_wp2_with fail
            refine (C5.out _).mono ?_
            rintro e w4 ⟨rfl, nq8, rfl⟩
            go_wp2
            refine bodyPost_ret (v := .bool true) (by simp [results, Tryd.results3, go_sem]) rfl ⟨rfl, p_below_drewN HB3.out _⟩

end Go.Proofs.YtkcmcbkhkabhdaaDoor
