/- DERIVED. The walk of the model's parts: l1Parts. -/
import Derived.Test.YtahhjhhnjpbocabDoorOpenCut
namespace Go.Proofs.YtahhjhhnjpbocabDoor
open Go.RowKit

theorem byte_is {c : UInt8} {n : Nat} (h : ((c.toNat : Int) == (n : Int)) = true) (hn : n < 256) : c = UInt8.ofNat n := by
  rw [beq_iff_eq] at h
  apply UInt8.toNat_inj.mp
  rw [UInt8.toNat_ofNat']; omega

theorem byte_not {c : UInt8} {n : Nat} (h : ((c.toNat : Int) == (n : Int)) = false) (hn : n < 256) : c ≠ UInt8.ofNat n := by
  rw [beq_eq_false_iff_ne] at h
  intro e
  apply h
  rw [e, UInt8.toNat_ofNat']; omega

theorem parts_rel (s : ByteArray) (k j : Nat) (d d' : Int) (P R : List (List UInt8)) (hlt : k < s.size) (hj : j ≤ k) (hr : R = P ++ partsL d ((s.data.toList.take k).drop j) (s.data.toList.drop k))
    (h : s[k] = 91 ∧ d' = d + 1 ∨ s[k] = 93 ∧ d' = d - 1 ∨ s[k] ≠ 91 ∧ s[k] ≠ 93 ∧ ¬ (s[k] = 44 ∧ d = 0) ∧ d' = d) :
    R = P ++ partsL d' ((s.data.toList.take (k + 1)).drop j) (s.data.toList.drop (k + 1)) := by
  rw [hr, drop_cons s k hlt, take_drop_snoc s j k hj hlt, partsL]
  rcases h with ⟨h1, rfl⟩ | ⟨h1, rfl⟩ | ⟨h1, h2, h3, rfl⟩
  · rw [if_pos h1]
  · rw [if_neg (by rw [h1]; decide), if_pos h1]
  · rw [if_neg h1, if_neg h2, if_neg h3]

theorem parts_rel_hit (s : ByteArray) (k j : Nat) (d : Int) (P R : List (List UInt8)) (hlt : k < s.size) (hr : R = P ++ partsL d ((s.data.toList.take k).drop j) (s.data.toList.drop k)) (h1 : s[k] = 44) (h2 : d = 0) :
    R = (P ++ [(s.data.toList.take k).drop j]) ++ partsL d ((s.data.toList.take (k + 1)).drop (k + 1)) (s.data.toList.drop (k + 1)) := by
  rw [hr, drop_cons s k hlt, take_drop_nil, partsL, if_neg (by rw [h1]; decide), if_neg (by rw [h1]; decide), if_pos ⟨h1, h2⟩]
  simp

theorem parts_rel_end (s : ByteArray) (k j : Nat) (d : Int) (P R : List (List UInt8)) (hk : ¬ k < s.size) (hr : R = P ++ partsL d ((s.data.toList.take k).drop j) (s.data.toList.drop k)) : R = P ++ [s.data.toList.drop j] := by
  have : s.data.toList.length ≤ k := by simp; omega
  rw [hr, List.drop_of_length_le this, partsL, List.take_of_length_le this]

set_option maxRecDepth 100000 in
set_option maxHeartbeats 1600000 in
theorem parts_spec (s : ByteArray) (w : World) (hs : s.size ≤ 400) :
    Calls Tryd.prog 17 #[.string s] w fun e w' => ∃ v, e = .returned v ∧ w'.ownsRow w.heap.size 9 1 v (partsL 0 [] s.data.toList).length ((partsL 0 [] s.data.toList).map strV) ∧ Below w.heap.size w w' := by
  obtain ⟨i0, hi, hz0, hz1, hz2⟩ := info_parts infoString
  obtain ⟨R, hR⟩ : ∃ R, R = partsL 0 [] s.data.toList := ⟨_, rfl⟩
  rw [← hR]
  have HR := hid hR
  clear hR
  go_enter Tryd.func17, Tryd.ntmps17
  go_wp2
  go_loopw [3, 4, 5, 6] (fun v f d i wr => Below w.heap.size w wr ∧ ∃ (k j : Nat) (dd : Int) (P : List (List UInt8)), k ≤ s.size ∧ j ≤ k ∧ -(k : Int) ≤ dd ∧ dd ≤ (k : Int) ∧ i = .int .i64 k ∧ f = .int .i64 j ∧ d = .int .i64 dd ∧ P.length ≤ k ∧ wr.ownsRow w.heap.size 9 1 v P.length (P.map strV) ∧ R = P ++ partsL dd ((s.data.toList.take k).drop j) (s.data.toList.drop k)) (fun _ _ _ i _ => s.size - (intOf i).toNat)
  case atStart =>
    refine ⟨(Below.refl _ _).alloc (Nat.le_refl _) _, 0, 0, 0, [], Nat.zero_le _, Nat.le_refl _, by omega, by omega, rfl, rfl, rfl, Nat.zero_le _, ?_, by simp [HR.out]⟩
    exact World.ownsRow_made _ #[] 0 (Nat.le_refl _) (by decide) rfl
  case round =>
    obtain ⟨hB, k, j, dd, P, hk, hj, hd1, hd2, rfl, rfl, rfl, hP, hown, hr⟩ := hrel
    have HB := hid hB
    have HRR := hid hr
    have HS := hid hB.size
    clear hr hB
    obtain ⟨oa, cp, rfl⟩ := row_shape hown
    have HOWN := hid hown
    by_cases hlt : k < s.size
    · cases h91 : ((s[k].toNat : Int) == 91)
      · cases h93 : ((s[k].toNat : Int) == 93)
        · cases h44 : ((s[k].toNat : Int) == 44)
          · have H := hid (parts_rel s k j dd dd P R hlt hj HRR.out (Or.inr (Or.inr ⟨byte_not (n := 91) h91 (by decide), byte_not (n := 93) h93 (by decide), fun c => byte_not (n := 44) h44 (by decide) c.1, rfl⟩)))
            clear hown
            go_wp2
            go_roundw
            case rel => exact ⟨HB.out, k + 1, j, dd, P, by omega, by omega, by omega, by omega, by go_num, rfl, rfl, by omega, HOWN.out, H.out⟩
            case measure => simp [intOf]; omega
          · by_cases hd0 : dd = 0
            · subst hd0
              have H := hid (parts_rel_hit s k j 0 P R hlt HRR.out (byte_is (n := 44) h44 (by decide)) rfl)
              go_wp2_with (at_builtin; refine wpList_append_own _ rfl _ _ 35 rfl w.heap.size 9 i0 (.string ⟨#[]⟩) 1 16 Tryd.underlying35 hi hz0 hz1 hz2 rfl (by decide) _ _ _ rfl (hown.alloc _) ⟨wr.heap.size, 0, none⟩ 1 1 [.string (s.extract j k)] rfl rfl (cell_new1 _ _ _) (by simp [Value.oneCell']) (by unfold maxLen; omega) (by omega) (by have := HS.out; simp; omega) ?_)
              intro v' w1 hown' hgrow _
              have HB1 : Hid (Below w.heap.size w w1) := (HB.out.alloc HS.out _).trans (below_grown (hown.alloc _) (by have := HS.out; simp; omega) hgrow)
              have HOWN' := hid hown'
              clear hown' hgrow hown
              go_wp2
              go_roundw
              case rel =>
                refine ⟨HB1.out, k + 1, k + 1, 0, P ++ [(s.data.toList.take k).drop j], by omega, Nat.le_refl _, by omega, by omega, by go_num, by go_num, rfl, by simp; omega, ?_, H.out⟩
                have := HOWN'.out
                rw [← mkB_extract] at this
                simpa [strV] using this
              case measure => simp [intOf]; omega
            · have hd0' : (dd == 0) = false := by rw [beq_eq_false_iff_ne]; exact hd0
              have H := hid (parts_rel s k j dd dd P R hlt hj HRR.out (Or.inr (Or.inr ⟨byte_not (n := 91) h91 (by decide), byte_not (n := 93) h93 (by decide), fun c => hd0 c.2, rfl⟩)))
              clear hown
              go_wp2
              go_roundw
              case rel => exact ⟨HB.out, k + 1, j, dd, P, by omega, by omega, by omega, by omega, by go_num, rfl, rfl, by omega, HOWN.out, H.out⟩
              case measure => simp [intOf]; omega
        · have H := hid (parts_rel s k j dd (dd - 1) P R hlt hj HRR.out (Or.inr (Or.inl ⟨byte_is (n := 93) h93 (by decide), rfl⟩)))
          clear hown
          go_wp2
          go_roundw
          case rel => exact ⟨HB.out, k + 1, j, dd - 1, P, by omega, by omega, by omega, by omega, by go_num, rfl, by go_num, by omega, HOWN.out, H.out⟩
          case measure => simp [intOf]; omega
      · have H := hid (parts_rel s k j dd (dd + 1) P R hlt hj HRR.out (Or.inl ⟨byte_is (n := 91) h91 (by decide), rfl⟩))
        clear hown
        go_wp2
        go_roundw
        case rel => exact ⟨HB.out, k + 1, j, dd + 1, P, by omega, by omega, by omega, by omega, by go_num, rfl, by go_num, by omega, HOWN.out, H.out⟩
        case measure => simp [intOf]; omega
    · have HE := hid (parts_rel_end s k j dd P R hlt HRR.out)
      go_wp2_with (at_builtin; refine wpList_append_own _ rfl _ _ 35 rfl w.heap.size 9 i0 (.string ⟨#[]⟩) 1 16 Tryd.underlying35 hi hz0 hz1 hz2 rfl (by decide) _ _ _ rfl (hown.alloc _) ⟨wr.heap.size, 0, none⟩ 1 1 [.string (s.extract j s.size)] rfl rfl (cell_new1 _ _ _) (by simp [Value.oneCell']) (by unfold maxLen; omega) (by omega) (by have := HS.out; simp; omega) ?_)
      intro v' w1 hown' hgrow _
      have HB1 : Hid (Below w.heap.size w w1) := (HB.out.alloc HS.out _).trans (below_grown (hown.alloc _) (by have := HS.out; simp; omega) hgrow)
      have HOWN' : Hid (w1.ownsRow w.heap.size 9 1 v' R.length (R.map strV)) := by
        show World.ownsRow _ _ _ _ _ _ _
        rw [← mkB_tail] at hown'
        rw [HE.out]
        simpa [strV] using hown'
      clear hown' hgrow hown
      go_wp2
      refine bodyPost_ret (v := v') (by simp [results, Tryd.results17, go_sem]) rfl ⟨v', rfl, HOWN'.out, HB1.out⟩

end Go.Proofs.YtahhjhhnjpbocabDoor
