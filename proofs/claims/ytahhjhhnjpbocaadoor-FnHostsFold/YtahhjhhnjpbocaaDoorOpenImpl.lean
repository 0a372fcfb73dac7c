/- DERIVED. The walk of the program's HostsOpen. -/
import Derived.Test.YtahhjhhnjpbocaaDoorOpenRead
import Derived.Test.YtahhjhhnjpbocaaDoorFoldNil
namespace Go.Proofs.YtahhjhhnjpbocaaDoor
open Go.RowKit

theorem addI_names (nm : ByteArray) (k : Nat) (hnm : nm.size ≤ k) (t : List UInt8) (out o : Hs) (ho : ∀ h ∈ out, h.1.size ≤ k) (h : addI nm out t = some o) : ∀ x ∈ o, x.1.size ≤ k := by
  unfold addI at h
  split at h
  · cases h
  · split at h
    · cases h
    · injection h with h
      rw [← h]
      intro x hx
      rcases List.mem_append.1 hx with h1 | h1
      · exact ho x h1
      · exact seq_names nm k hnm _ _ x h1

theorem addAll_names (nm : ByteArray) (k : Nat) (hnm : nm.size ≤ k) (L : List (List UInt8)) (out o : Hs) (ho : ∀ h ∈ out, h.1.size ≤ k) (h : addAll nm L out = some o) : ∀ x ∈ o, x.1.size ≤ k := by
  induction L generalizing out with
  | nil => rw [addAll] at h; injection h with h; rw [← h]; exact ho
  | cons t L ih =>
    rw [addAll] at h
    split at h
    · cases h
    · rename_i o' ho'
      exact ih o' (addI_names nm k hnm t out o' ho ho') h

theorem readI_names (k f : Nat) (t : List UInt8) (out o : Hs) (ht : t.length ≤ k) (ho : ∀ h ∈ out, h.1.size ≤ k) (h : readI f t out = some o) : ∀ x ∈ o, x.1.size ≤ k := by
  induction f generalizing t out with
  | zero => rw [readI] at h; injection h with h; rw [← h]; exact ho
  | succ f ih =>
    rw [readI] at h
    split at h
    · injection h with h; rw [← h]; exact ho
    · rename_i hne
      have hb := behind_lt t hne
      split at h
      · cases h
      · rename_i o' ho'
        refine ih _ o' (by omega) (addAll_names _ k ?_ _ out o' ho ho') h
        rw [mkB_size, List.length_take]; omega

set_option maxRecDepth 100000 in
set_option maxHeartbeats 1000000 in
theorem open_impl (s : ByteArray) (w : World) (hs : s.size ≤ maxLen) (ht : Tab w) :
    Calls Tryd.prog 9 #[.string s] w fun e w' => OpenOut (openI s) w e w' := by
  have hs' : s.size ≤ 2 ^ 63 - 1 := hs
  have hlen : s.data.toList.length = s.size := by simp
  by_cases h4 : 400 < s.size
  · have h4' : (400 : Int) < (s.size : Int) := by omega
    have HR : Hid (openI s = none) := by show openI s = _; unfold openI; rw [if_pos h4]
    clear h4 hlen ht
    go_enter Tryd.func9, Tryd.ntmps9
    go_wp2
    go_ret2
    rw [HR.out]
    exact openOut_none (Below.refl _ _)
  · have h4' : ¬ (400 : Int) < (s.size : Int) := by omega
    have HRD := hid (read_impl s w (by omega))
    obtain ⟨R, hR⟩ : ∃ R, R = openI s := ⟨_, rfl⟩
    rw [← hR]
    have hR2 : R = match readI (s.data.toList.length + 1) s.data.toList [] with
      | none => none
      | some o => if foldO o = s.data.toList then some o else none := by rw [hR]; unfold openI; rw [if_neg h4]; rfl
    have HT := hid ht
    clear hR h4 ht
    cases hrd : readI (s.data.toList.length + 1) s.data.toList [] with
    | none =>
      rw [hrd] at hR2 HRD
      have HR := hid hR2
      clear hR2 hrd hlen
      go_enter Tryd.func9, Tryd.ntmps9
      go_wp2_with fail
      refine HRD.out.mono ?_
      rintro e w1 ⟨v, rfl, hrow, hb1⟩
      have HB1 := hid hb1
      clear hrow hb1
      go_wp2
      go_ret2
      rw [HR.out]
      exact openOut_none HB1.out
    | some o =>
      have hnames := readI_names 400 _ _ [] o (by omega) (by simp) hrd
      rw [hrd] at hR2 HRD
      dsimp only at hR2
      have HR := hid hR2
      have HN := hid hnames
      have HSE := hid (eq_mkB (foldO o) s)
      clear hR2 hrd hlen hnames
      obtain ⟨z, hzz⟩ : ∃ z, z = mkB (foldO o) := ⟨_, rfl⟩
      rw [← hzz] at HSE
      have HZ := hid hzz
      clear hzz
      have CF : Hid (∀ v w1, w1.ownsRow w.heap.size 31 2 v o.length (hcells o) → Tab w1 → Calls Tryd.prog 5 #[v] w1 fun e w' => e = .returned (.string z) ∧ Below w1.heap.size w1 w') := by
        intro v w1 hrow htab
        by_cases h0 : o.length = 0
        · obtain ⟨oa, cp, rfl⟩ := row_shape hrow
          rw [h0]
          have e : z = ⟨#[]⟩ := by
            rw [HZ.out, List.eq_nil_of_length_eq_zero h0]
            unfold foldO
            split
            · rw [foldH_nil]; rfl
            · rfl
          rw [e]
          exact implFold_zero oa cp w1
        · obtain ⟨g, cp, rfl, hbg, hg, hcp, hcm, _⟩ := srow_cells hrow (by omega)
          have h := implFold_any g 0 o.length cp (Sof o) (Mof o) w1 hcp hcm (rowAt_of hrow HN.out) htab
          have e : z = if listOk (Sof o) (Mof o) o.length = true then mkS (foldL (Sof o) (Mof o) 0 o.length) else ⟨#[]⟩ := by
            rw [HZ.out]
            unfold foldO okH foldH
            split <;> rfl
          rw [e]
          exact h
      cases hq : (z.toList == s.toList)
      · have HRN : Hid (R = none) := by
          show R = none
          rw [HR.out, if_neg]
          intro c
          have := HSE.out.2 c
          rw [hq] at this; cases this
        go_enter Tryd.func9, Tryd.ntmps9
        go_wp2_with fail
        refine HRD.out.mono ?_
        rintro e w1 ⟨v, rfl, hrow, hb1⟩
        have hrow' : w1.ownsRow w.heap.size 31 2 v o.length (hcells o) := hrow
        have HROW := hid hrow'
        have HB1 := hid hb1
        have HT1 := hid (HT.out.below hb1)
        clear hrow hrow' hb1
        obtain ⟨oa, cp, rfl⟩ := row_shape HROW.out
        go_wp2_with fail
        refine (CF.out _ _ HROW.out HT1.out).mono ?_
        rintro e w2 ⟨rfl, hb2⟩
        have HB2 : Hid (Below w.heap.size w w2) := HB1.out.trans (hb2.mono HB1.out.size)
        clear hb2
        go_wp2
        go_ret2
        rw [HRN.out]
        exact openOut_none HB2.out
      · have HRN : Hid (R = some o) := by
          show R = some o
          rw [HR.out, if_pos (HSE.out.1 hq)]
        go_enter Tryd.func9, Tryd.ntmps9
        go_wp2_with fail
        refine HRD.out.mono ?_
        rintro e w1 ⟨v, rfl, hrow, hb1⟩
        have hrow' : w1.ownsRow w.heap.size 31 2 v o.length (hcells o) := hrow
        have HROW := hid hrow'
        have HB1 := hid hb1
        have HT1 := hid (HT.out.below hb1)
        clear hrow hrow' hb1
        obtain ⟨oa, cp, rfl⟩ := row_shape HROW.out
        go_wp2_with fail
        refine (CF.out _ _ HROW.out HT1.out).mono ?_
        rintro e w2 ⟨rfl, hb2⟩
        have HB2 : Hid (Below w.heap.size w w2) := HB1.out.trans (hb2.mono HB1.out.size)
        have HROW2 := hid (row_ownBelow HROW.out hb2)
        clear hb2
        go_wp2
        go_ret2
        rw [HRN.out]
        exact ⟨_, rfl, HROW2.out, HB2.out⟩

end Go.Proofs.YtahhjhhnjpbocaaDoor
