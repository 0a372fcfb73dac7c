/- DERIVED. The walk of l1Cut: rows of texts, cut at a byte so many times at most. -/
import Derived.Test.YtcielnlhopjijabDoorRowStr
namespace Go.Proofs.YtcielnlhopjijabDoor
open Go.RowKit

theorem cut_step_other (b : UInt8) (m : Nat) (cur : List UInt8) (c : UInt8) (t : List UInt8) (h : c ≠ b) : cutL b (m + 1) cur (c :: t) = cutL b (m + 1) (cur ++ [c]) t := by
  rw [cutL, if_neg h]

theorem take_drop_snoc (s : ByteArray) (j k : Nat) (hj : j ≤ k) (hk : k < s.size) : (s.data.toList.take (k + 1)).drop j = (s.data.toList.take k).drop j ++ [s[k]] := by
  rw [take_snoc s k hk, List.drop_append_of_le_length (by simp; omega)]

theorem drop_cons (s : ByteArray) (k : Nat) (hk : k < s.size) : s.data.toList.drop k = s[k] :: s.data.toList.drop (k + 1) := by
  rw [List.drop_eq_getElem_cons (by simpa using hk)]; rfl

theorem take_drop_nil (s : ByteArray) (k : Nat) : (s.data.toList.take k).drop k = [] := by
  rw [List.drop_eq_nil_iff]; simp; omega

theorem cell_new1 (w : World) (u : Value) (e : TypeId) : ∀ (j : Nat) x, [u][j]? = some x → (w.alloc (.cells #[u] e)).cell? ((⟨w.heap.size, 0, none⟩ : Addr).add j) = some x := by
  intro j x hj
  match j, hj with
  | 0, hj => simp at hj; subst hj; simp [Addr.add]
  | n + 1, hj => simp at hj

theorem cut_rel_hit (s : ByteArray) (b : UInt8) (most k j : Nat) (P R : List (List UInt8)) (hlt : k < s.size) (hpm : P.length < most) (hc : s[k] = b) (hr : R = P ++ cutL b (most - P.length) ((s.data.toList.take k).drop j) (s.data.toList.drop k)) :
    R = (P ++ [(s.data.toList.take k).drop j]) ++ cutL b (most - (P ++ [(s.data.toList.take k).drop j]).length) ((s.data.toList.take (k + 1)).drop (k + 1)) (s.data.toList.drop (k + 1)) := by
  obtain ⟨m, hm⟩ : ∃ m, most - P.length = m + 1 := ⟨most - P.length - 1, by omega⟩
  rw [hr, hm, drop_cons s k hlt, cutL, if_pos hc, take_drop_nil, List.length_append, List.length_singleton, show most - (P.length + 1) = m by omega]
  simp

theorem cut_rel_other (s : ByteArray) (b : UInt8) (most k j : Nat) (P R : List (List UInt8)) (hlt : k < s.size) (hj : j ≤ k) (hpm : P.length < most) (hc : s[k] ≠ b) (hr : R = P ++ cutL b (most - P.length) ((s.data.toList.take k).drop j) (s.data.toList.drop k)) :
    R = P ++ cutL b (most - P.length) ((s.data.toList.take (k + 1)).drop j) (s.data.toList.drop (k + 1)) := by
  obtain ⟨m, hm⟩ : ∃ m, most - P.length = m + 1 := ⟨most - P.length - 1, by omega⟩
  rw [hr, hm, drop_cons s k hlt, cutL, if_neg hc, take_drop_snoc s j k hj hlt]

theorem cut_rel_end (s : ByteArray) (b : UInt8) (most k j : Nat) (P R : List (List UInt8)) (hk : k ≤ s.size) (hj : j ≤ k) (hP : P.length ≤ most) (hgo : ¬ (k < s.size ∧ P.length < most)) (hr : R = P ++ cutL b (most - P.length) ((s.data.toList.take k).drop j) (s.data.toList.drop k)) :
    R = P ++ [s.data.toList.drop j] := by
  rw [hr]
  congr 1
  by_cases hlt : k < s.size
  · rw [show most - P.length = 0 by omega, cut_zero]
    congr 1
    rw [← List.drop_append_of_le_length (by simp; omega), List.take_append_drop]
  · have : s.data.toList.length ≤ k := by simp; omega
    rw [List.drop_of_length_le this, cutL, List.take_of_length_le this]

set_option maxRecDepth 100000 in
set_option maxHeartbeats 800000 in
theorem cut_spec (s : ByteArray) (b : UInt8) (bi : Int) (most : Nat) (w : World) (hs : s.size ≤ maxLen) (hb : bi = (b.toNat : Int)) (hm : most ≤ 30) :
    Calls Tryd.prog 20 #[.string s, .int .u8 bi, .int .i64 (most : Int)] w fun e w' => ∃ v, e = .returned v ∧ w'.ownsRow w.heap.size 9 1 v (cutL b most [] s.data.toList).length ((cutL b most [] s.data.toList).map strV) ∧ Below w.heap.size w w' := by
  have hs' : s.size ≤ 2 ^ 63 - 1 := hs
  subst hb
  obtain ⟨i0, hi, hz0, hz1, hz2⟩ := info_parts infoString
  obtain ⟨R, hR⟩ : ∃ R, R = cutL b most [] s.data.toList := ⟨_, rfl⟩
  rw [← hR]
  have HR := hid hR
  clear hR
  go_enter Tryd.func20, Tryd.ntmps20
  go_wp2
  go_loopw [7, 8, 9] (fun v f i wr => Below w.heap.size w wr ∧ ∃ (k j : Nat) (P : List (List UInt8)), k ≤ s.size ∧ j ≤ k ∧ i = .int .i64 k ∧ f = .int .i64 j ∧ P.length ≤ most ∧ wr.ownsRow w.heap.size 9 1 v P.length (P.map strV) ∧ R = P ++ cutL b (most - P.length) ((s.data.toList.take k).drop j) (s.data.toList.drop k)) (fun _ _ i _ => s.size - (intOf i).toNat)
  case atStart =>
    refine ⟨(Below.refl _ _).alloc (Nat.le_refl _) _, 0, 0, [], Nat.zero_le _, Nat.le_refl _, rfl, rfl, Nat.zero_le _, ?_, by simp [HR.out]⟩
    exact World.ownsRow_made _ #[] 0 (Nat.le_refl _) (by decide) rfl
  case round =>
    obtain ⟨hB, k, j, P, hk, hj, rfl, rfl, hP, hown, hr⟩ := hrel
    have HB := hid hB
    have HRR := hid hr
    have HS := hid hB.size
    clear hr hB
    obtain ⟨oa, cp, rfl⟩ := row_shape hown
    have HOWN := hid hown
    by_cases hgo : k < s.size ∧ P.length < most
    · obtain ⟨hlt, hpm⟩ := hgo
      have hpm' : (P.length : Int) < (most : Int) := by omega
      by_cases hc : s[k] = b
      · have hcb : ((s[k].toNat : Int) == (b.toNat : Int)) = true := by rw [hc]; simp
        have HC := hid hc
        clear hc
        go_wp2_with (at_builtin; refine wpList_append_own _ rfl _ _ 40 rfl w.heap.size 9 i0 (.string ⟨#[]⟩) 1 16 Tryd.underlying40 hi hz0 hz1 hz2 rfl (by decide) _ _ _ rfl (hown.alloc _) ⟨wr.heap.size, 0, none⟩ 1 1 [.string (s.extract j k)] rfl rfl (cell_new1 _ _ _) (by simp [Value.oneCell']) (by unfold maxLen; omega) (by omega) (by have := HS.out; simp; omega) ?_)
        intro v' w1 hown' hgrow _
        have HB1 : Hid (Below w.heap.size w w1) := (HB.out.alloc HS.out _).trans (below_grown (hown.alloc _) (by have := HS.out; simp; omega) hgrow)
        have HOWN' := hid hown'
        clear hown' hgrow hown
        go_wp2
        go_roundw
        case rel =>
          refine ⟨HB1.out, k + 1, k + 1, P ++ [(s.data.toList.take k).drop j], by omega, Nat.le_refl _, by go_num, by go_num, by simp; omega, ?_, cut_rel_hit s b most k j P R hlt hpm HC.out HRR.out⟩
          have := HOWN'.out
          rw [← mkB_extract] at this
          simpa [strV] using this
        case measure => simp [intOf]; omega
      · have hcb : ((s[k].toNat : Int) == (b.toNat : Int)) = false := by
          rw [beq_eq_false_iff_ne]
          intro e
          exact hc (UInt8.toNat_inj.mp (by omega))
        have HC := hid hc
        clear hc hown
        go_wp2
        go_roundw
        case rel => exact ⟨HB.out, k + 1, j, P, by omega, by omega, by go_num, rfl, hP, HOWN.out, cut_rel_other s b most k j P R hlt hj hpm HC.out HRR.out⟩
        case measure => simp [intOf]; omega
    · have HE := hid (cut_rel_end s b most k j P R hk hj hP hgo HRR.out)
      have fin : ∀ w0, Below w.heap.size w w0 → ∀ v' w1, w1.ownsRow w.heap.size 9 1 v' (P.length + 1) (P.map strV ++ [.string (s.extract j s.size)]) → Below w.heap.size w0 w1 → w1.ownsRow w.heap.size 9 1 v' R.length (R.map strV) ∧ Below w.heap.size w w1 := by
        intro w0 h0 v' w1 h1 h2
        refine ⟨?_, h0.trans h2⟩
        rw [← mkB_tail] at h1
        rw [HE.out]
        simpa [strV] using h1
      have HF := hid fin
      clear fin
      by_cases hlt : k < s.size
      · have hpm' : ¬ (P.length : Int) < (most : Int) := by omega
        clear hgo
        go_wp2_with (at_builtin; refine wpList_append_own _ rfl _ _ 40 rfl w.heap.size 9 i0 (.string ⟨#[]⟩) 1 16 Tryd.underlying40 hi hz0 hz1 hz2 rfl (by decide) _ _ _ rfl (hown.alloc _) ⟨wr.heap.size, 0, none⟩ 1 1 [.string (s.extract j s.size)] rfl rfl (cell_new1 _ _ _) (by simp [Value.oneCell']) (by unfold maxLen; omega) (by omega) (by have := HS.out; simp; omega) ?_)
        intro v' w1 hown' hgrow _
        have HG : Hid (w1.ownsRow w.heap.size 9 1 v' R.length (R.map strV) ∧ Below w.heap.size w w1) := HF.out _ (HB.out.alloc HS.out _) v' w1 hown' (below_grown (hown.alloc _) (by have := HS.out; simp; omega) hgrow)
        clear hown' hgrow hown
        go_wp2
        refine bodyPost_ret (v := v') (by simp [results, Tryd.results20, go_sem]) rfl ⟨v', rfl, HG.out.1, HG.out.2⟩
      · clear hgo
        go_wp2_with (at_builtin; refine wpList_append_own _ rfl _ _ 40 rfl w.heap.size 9 i0 (.string ⟨#[]⟩) 1 16 Tryd.underlying40 hi hz0 hz1 hz2 rfl (by decide) _ _ _ rfl (hown.alloc _) ⟨wr.heap.size, 0, none⟩ 1 1 [.string (s.extract j s.size)] rfl rfl (cell_new1 _ _ _) (by simp [Value.oneCell']) (by unfold maxLen; omega) (by omega) (by have := HS.out; simp; omega) ?_)
        intro v' w1 hown' hgrow _
        have HG : Hid (w1.ownsRow w.heap.size 9 1 v' R.length (R.map strV) ∧ Below w.heap.size w w1) := HF.out _ (HB.out.alloc HS.out _) v' w1 hown' (below_grown (hown.alloc _) (by have := HS.out; simp; omega) hgrow)
        clear hown' hgrow hown
        go_wp2
        refine bodyPost_ret (v := v') (by simp [results, Tryd.results20, go_sem]) rfl ⟨v', rfl, HG.out.1, HG.out.2⟩

end Go.Proofs.YtcielnlhopjijabDoor
