/- DERIVED. The model's walks: how many hosts belong together. -/
import Derived.Test.YtahhjhhnjpbocaaDoorHsList
import Derived.Test.YtahhjhhnjpbocaaDoorFoldPlain
namespace Go.Proofs.YtahhjhhnjpbocaaDoor
open Go.RowKit

set_option maxHeartbeats 1000000 in
theorem same_spec (b off len cap at' : Nat) (S : Nat → ByteArray) (M : Nat → Int) (w : World) (hc : len ≤ cap) (hm : cap ≤ maxLen) (ha : at' < len) (R : RowAt w b off len S M) :
    Calls Tryd.prog 35 #[.slice (some ⟨b, off, none⟩) len cap, .int .i64 at'] w fun e w' => e = .returned (.int .i64 (stretch (sameP S) at' len : Nat)) ∧ Below w.heap.size w w' := by
  have hm' : cap ≤ 2 ^ 63 - 1 := hm
  go_enter Tryd.func35, Tryd.ntmps35
  go_wp2
  go_loopw [5] (fun i w' => Below w.heap.size w w' ∧ ∃ k : Nat, 1 ≤ k ∧ at' + k ≤ len ∧ i = .int .i64 k ∧ ∀ j, at' < j → j < at' + k → sameP S j = true) (fun i _ => len - (intOf i).toNat)
  case atStart => exact ⟨Below.refl _ _, 1, Nat.le_refl _, ha, rfl, fun j h1 h2 => by omega⟩
  case round =>
    obtain ⟨hB, k, h1, hk, rfl, ho⟩ := hrel
    have HO := hid ho
    have HB := hid hB
    clear ho hB
    have HR : Hid (RowAt wr b off len S M) := R.below HB.out
    have c1 := HR.out.name at' ha
    obtain ⟨j, hj⟩ : ∃ j, j = at' + k := ⟨_, rfl⟩
    have HJ := hid hj
    have hadd : (at' : Int) + (k : Int) = (j : Int) := by omega
    have hw : IntKind.i64.wrap (j : Int) = (j : Int) := by rw [IntKind.wrap_i64]; omega
    clear hj
    have HQ : Hid (sameP S j = ((S j).toList == (S at').toList)) := by
      have := same_next S at' k h1 HO.out
      rw [← HJ.out] at this; exact this
    by_cases hlt : j < len
    · have c0 := HR.out.name j hlt
      cases hs : ((S j).toList == (S at').toList)
      · have HF : Hid (stretch (sameP S) at' len = k) := by
          refine stretch_eq _ _ _ _ h1 HO.out hk (Or.inr ?_)
          rw [← HJ.out, HQ.out, hs]
        go_wp2_with fail
        go_quiet (fail)
        go_wp2
        go_ret
        exact ⟨by rw [HF.out]; rfl, below_drewN HB.out _⟩
      · have HN : Hid (∀ x, at' < x → x < at' + (k + 1) → sameP S x = true) := stretch_more _ _ _ j HO.out HJ.out (by rw [HQ.out, hs])
        go_wp2_with fail
        go_quiet (fail)
        go_wp2
        go_roundw
        case rel => exact ⟨below_drewN HB.out _, k + 1, by omega, by have := HJ.out; omega, by go_num, HN.out⟩
        case measure => simp [intOf]; omega
    · have HF : Hid (stretch (sameP S) at' len = k) := by
        have := HJ.out
        exact stretch_eq _ _ _ _ h1 HO.out hk (Or.inl (by omega))
      have hg : ¬ (j : Int) < (len : Int) := by omega
      go_wp2_with fail
      go_quiet (fail)
      go_wp2
      go_ret
      exact ⟨by rw [HF.out]; rfl, below_drewN HB.out _⟩

set_option maxHeartbeats 1000000 in
theorem run_spec (b off len cap at' : Nat) (S : Nat → ByteArray) (M : Nat → Int) (w : World) (hc : len ≤ cap) (hm : cap ≤ maxLen) (ha : at' < len) (R : RowAt w b off len S M)
    (hsame : ∀ i j, i < len → j < len → ((S i).toList == (S j).toList) = true) (hnum : ∀ i, i < len → 0 ≤ M i ∧ M i ≤ 999) :
    Calls Tryd.prog 55 #[.slice (some ⟨b, off, none⟩) len cap, .int .i64 at'] w fun e w' => e = .returned (.int .i64 (stretch (nextP M) at' len : Nat)) ∧ Below w.heap.size w w' := by
  have hm' : cap ≤ 2 ^ 63 - 1 := hm
  have HS := hid hsame
  have HM := hid hnum
  clear hsame hnum
  go_enter Tryd.func55, Tryd.ntmps55
  go_wp2
  go_loopw [5] (fun i w' => Below w.heap.size w w' ∧ ∃ k : Nat, 1 ≤ k ∧ at' + k ≤ len ∧ i = .int .i64 k ∧ ∀ j, at' < j → j < at' + k → nextP M j = true) (fun i _ => len - (intOf i).toNat)
  case atStart => exact ⟨Below.refl _ _, 1, Nat.le_refl _, ha, rfl, fun j h1 h2 => by omega⟩
  case round =>
    obtain ⟨hB, k, h1, hk, rfl, ho⟩ := hrel
    have HO := hid ho
    have HB := hid hB
    clear ho hB
    have HR : Hid (RowAt wr b off len S M) := R.below HB.out
    have c1 := HR.out.name at' ha
    have c3 := HR.out.num at' ha
    obtain ⟨j, hj⟩ : ∃ j, j = at' + k := ⟨_, rfl⟩
    have HJ := hid hj
    have hadd : (at' : Int) + (k : Int) = (j : Int) := by omega
    have hw : IntKind.i64.wrap (j : Int) = (j : Int) := by rw [IntKind.wrap_i64]; omega
    clear hj
    have HQ : Hid (nextP M j = (M j == M at' + k)) := by
      have := next_next M at' k h1 HO.out
      rw [← HJ.out] at this; exact this
    by_cases hlt : j < len
    · have c0 := HR.out.name j hlt
      have c2 := HR.out.num j hlt
      have hn := HS.out j at' hlt ha
      obtain ⟨y, hy⟩ : ∃ y, y = M at' + (k : Int) := ⟨_, rfl⟩
      have hw2 : IntKind.i64.wrap (M at' + (k : Int)) = y := by
        -- the chain is at most 999 long
        have h3 := next_chain M at' k h1 HO.out
        have h4 := HM.out at' ha
        have h5 := HM.out (at' + k - 1) (by omega)
        rw [IntKind.wrap_i64]; omega
      rw [← hy] at HQ
      clear hy
      cases hs : (M j == y)
      · have HF : Hid (stretch (nextP M) at' len = k) := by
          refine stretch_eq _ _ _ _ h1 HO.out hk (Or.inr ?_)
          rw [← HJ.out, HQ.out, hs]
        go_wp2_with fail
        go_quiet (fail)
        go_wp2
        go_ret
        exact ⟨by rw [HF.out]; rfl, below_drewN HB.out _⟩
      · have HN : Hid (∀ x, at' < x → x < at' + (k + 1) → nextP M x = true) := stretch_more _ _ _ j HO.out HJ.out (by rw [HQ.out, hs])
        go_wp2_with fail
        go_quiet (fail)
        go_wp2
        go_roundw
        case rel => exact ⟨below_drewN HB.out _, k + 1, by omega, by have := HJ.out; omega, by go_num, HN.out⟩
        case measure => simp [intOf]; omega
    · have HF : Hid (stretch (nextP M) at' len = k) := by
        have := HJ.out
        exact stretch_eq _ _ _ _ h1 HO.out hk (Or.inl (by omega))
      have hg : ¬ (j : Int) < (len : Int) := by omega
      go_wp2_with fail
      go_quiet (fail)
      go_wp2
      go_ret
      exact ⟨by rw [HF.out]; rfl, below_drewN HB.out _⟩

end Go.Proofs.YtahhjhhnjpbocaaDoor
