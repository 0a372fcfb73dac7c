/- DERIVED. The walk of the model's HostsOpen. -/
import Derived.Test.YtahhjhhnjpbocabDoorOpenEq
import Derived.Test.YtahhjhhnjpbocabDoorOpenParts
import Derived.Test.YtahhjhhnjpbocabDoorOpenPart
import Derived.Test.YtahhjhhnjpbocabDoorFoldFold
namespace Go.Proofs.YtahhjhhnjpbocabDoor
open Go.RowKit

theorem getName_le (s : ByteArray) : (getHost s).1.size ≤ s.size := by
  unfold getHost
  split
  · rw [getName_size]
    have := lead_le s.data.toList
    have h : s.data.toList.length = s.size := by simp
    omega
  · simp

theorem part_names (t : List UInt8) (k : Nat) (ht : t.length ≤ k) (out : Hs) (ho : ∀ h ∈ out, h.1.size ≤ k) : ∀ h ∈ partL t out, h.1.size ≤ k := by
  unfold partL
  split
  · rename_i a c r tl ha
    refine rangeAll_names _ k ?_ _ out ho
    have := cut_size 91 1 [] t a (by rw [ha]; simp)
    rw [mkB_size]; simp at this; omega
  · intro h hh
    rcases List.mem_append.1 hh with h1 | h1
    · exact ho h h1
    · rw [List.mem_singleton] at h1
      have := getName_le (mkB t)
      rw [mkB_size] at this
      rw [h1]; omega

theorem part_len (t : List UInt8) (out : Hs) : (partL t out).length ≤ max out.length 31 + 1 := by
  unfold partL
  split
  · rename_i a c r tl ha
    have := fold_len (mkB a) (cutL 44 30 [] (c :: r).dropLast) out
    omega
  · simp; omega

theorem parts_count (d : Int) (cur t : List UInt8) : (partsL d cur t).length ≤ t.length + 1 := by
  induction t generalizing d cur with
  | nil => simp [partsL]
  | cons c t ih =>
    rw [partsL]
    split
    · have := ih (d + 1) (cur ++ [c]); simp; omega
    · split
      · have := ih (d - 1) (cur ++ [c]); simp; omega
      · split
        · have := ih d []; simp; exact this
        · have := ih d (cur ++ [c]); simp; omega

theorem parts_pos (d : Int) (cur t : List UInt8) : 1 ≤ (partsL d cur t).length := by
  induction t generalizing d cur with
  | nil => simp [partsL]
  | cons c t ih =>
    rw [partsL]
    split
    · exact ih _ _
    · split
      · exact ih _ _
      · split
        · simp
        · exact ih _ _

theorem rowAt_of {w : World} {base g cp : Nat} {o : Hs} (h : w.ownsRow base 41 2 (.slice (some ⟨g, 0, none⟩) o.length cp) o.length (hcells o)) (hn : ∀ x ∈ o, x.1.size ≤ 400) : RowAt w g 0 o.length (Sof o) (Mof o) := by
  have hc : ∀ j x, (hcells o)[j]? = some x → w.cell? ⟨g, 0 + j, none⟩ = some x := by
    intro j x hx
    have := h.cells (g := g) rfl j x hx
    rw [Go.WideShapes.add_plain] at this
    exact this
  have hs : ∀ i, (hi : i < o.length) → Sof o i = o[i].1 ∧ Mof o i = o[i].2 := by
    intro i hi
    simp [Sof, Mof, List.getD, List.getElem?_eq_getElem hi]
  constructor
  · exact (h.lt g rfl).2
  · intro i hi
    rw [(hs i hi).1]; exact hc _ _ (hcells_at o i hi).1
  · intro i hi
    rw [(hs i hi).2, Nat.add_assoc]; exact hc _ _ (hcells_at o i hi).2
  · intro i hi
    rw [(hs i hi).1]
    exact Nat.le_trans (hn _ (List.getElem_mem hi)) (by unfold maxLen; omega)

set_option maxHeartbeats 400000 in
theorem listOk_zero (oa : Option Addr) (cap : Nat) (w : World) :
    Calls Tryd.prog 19 #[.slice oa 0 cap] w fun e w' => e = .returned (.bool true) ∧ w' = w := by
  go_enter Tryd.func19, Tryd.ntmps19
  go_wp2
  go_loop [3] (fun i => i = .int .i64 0) (fun _ => 0)
  case atStart => rfl
  case round =>
    subst hrel
    go_wp2
    go_ret
    exact ⟨rfl, rfl⟩

set_option maxHeartbeats 400000 in
theorem fold_zero (oa : Option Addr) (cap : Nat) (w : World) :
    Calls Tryd.prog 14 #[.slice oa 0 cap] w fun e w' => e = .returned (.string ⟨#[]⟩) ∧ w' = w := by
  go_enter Tryd.func14, Tryd.ntmps14
  go_wp2
  go_loop [3, 4] (fun s i => s = .string ⟨#[]⟩ ∧ i = .int .i64 0) (fun _ _ => 0)
  case atStart => exact ⟨rfl, rfl⟩
  case round =>
    obtain ⟨rfl, rfl⟩ := hrel
    go_wp2
    go_ret
    exact ⟨rfl, rfl⟩

/-- What HostsOpen leaves. -/
def OpenOut (r : Option Hs) (w : World) (e : Ending) (w' : World) : Prop :=
  ∃ v, e = .returned (.tuple #[v, .bool r.isSome]) ∧ w'.ownsRow w.heap.size 41 2 v (r.getD []).length (hcells (r.getD [])) ∧ Below w.heap.size w w'

theorem openOut_none {w w' : World} (h : Below w.heap.size w w') : OpenOut none w (.returned (.tuple #[.slice none 0 0, .bool false])) w' :=
  ⟨_, rfl, World.ownsRow_nil _ _ _ _, h⟩

theorem mkS_eq (l : List UInt8) : mkS l = mkB l := rfl

theorem eq_mkB (l : List UInt8) (s : ByteArray) : ((mkB l).toList == s.toList) = true ↔ l = s.data.toList := by
  rw [beq_iff_eq, ByteArray.toList_eq, ByteArray.toList_eq]
  simp [mkB]

set_option maxRecDepth 100000 in
set_option maxHeartbeats 1600000 in
theorem open_core (s : ByteArray) (w : World) (h0 : s.size ≠ 0) (h4 : s.size ≤ 400) :
    Calls Tryd.prog 6 #[.string s] w fun e w' => OpenOut (if okH (readS s.data.toList) = true ∧ foldH (readS s.data.toList) = s.data.toList then some (readS s.data.toList) else none) w e w' := by
  have hse : s.toList.isEmpty = false := by
    rw [List.isEmpty_eq_false_iff]; intro e; have e2 := len_toList s; rw [e] at e2; simp at e2; omega
  have h4' : ¬ (400 : Int) < (s.size : Int) := by omega
  have hlen : s.data.toList.length = s.size := by simp
  obtain ⟨L, hL⟩ : ∃ L, L = partsL 0 [] s.data.toList := ⟨_, rfl⟩
  have hL1 : 1 ≤ L.length := by rw [hL]; exact parts_pos _ _ _
  have hL2 : L.length ≤ 401 := by rw [hL]; have := parts_count 0 [] s.data.toList; omega
  have hLs : ∀ y ∈ L, y.length ≤ 400 := by
    intro y hy
    have := parts_size 0 [] s.data.toList y (by rw [← hL]; exact hy)
    simp only [List.length_nil] at this
    omega
  have HCP : Hid (∀ W, Calls Tryd.prog 17 #[.string s] W fun e w' => ∃ v, e = .returned v ∧ w'.ownsRow W.heap.size 9 1 v L.length (L.map strV) ∧ Below W.heap.size W w') := fun W => by rw [hL]; exact parts_spec s W h4
  obtain ⟨T, hT⟩ : ∃ T, T = readS s.data.toList := ⟨_, rfl⟩
  have HT : Hid (T = L.foldl (fun o x => partL x o) []) := by show T = _; rw [hT, readS, hL]
  rw [← hT]
  have HLS := hid hLs
  have HSE := hid (eq_mkB (foldH T) s)
  obtain ⟨R, hR⟩ : ∃ R : Option Hs, R = if okH T = true ∧ foldH T = s.data.toList then some T else none := ⟨_, rfl⟩
  rw [← hR]
  have HR := hid hR
  clear hT hL hLs hlen hR
  go_enter Tryd.func6, Tryd.ntmps6
  go_wp2_with fail
  refine (HCP.out _).mono ?_
  rintro e w2 ⟨v2, rfl, hrow2, hb2⟩
  have HROW2 := hid hrow2
  have HB2 : Hid (Below w.heap.size w w2) := ((Below.refl _ _).alloc (Nat.le_refl _) _).trans (hb2.mono (by simp))
  have HO2 : Hid (w2.ownsRow w.heap.size 41 2 (.slice (some ⟨w.heap.size, 0, none⟩) 0 0) 0 []) := row_ownBelow (World.ownsRow_made w #[] 0 (Nat.le_refl _) (by decide) rfl) hb2
  obtain ⟨g2, cp2, rfl, hbg2, hg2, hcp2, hcm2, _⟩ := srow_cells HROW2.out hL1
  clear hrow2 hb2 HCP
  go_wp2
  go_loopw [4, 6] (fun v i wr => Below w.heap.size w wr ∧ KeepT 41 w2 wr ∧ ∃ (k : Nat) (o : Hs), k ≤ L.length ∧ i = .int .i64 k ∧ o.length ≤ 31 + k ∧ (∀ h ∈ o, h.1.size ≤ 400) ∧ wr.ownsRow w.heap.size 41 2 v o.length (hcells o) ∧ T = (L.drop k).foldl (fun o x => partL x o) o) (fun _ i _ => L.length - (intOf i).toNat)
  case atStart => exact ⟨HB2.out, KeepT.refl _ _, 0, [], Nat.zero_le _, rfl, by simp, by simp, HO2.out, HT.out⟩
  case round =>
    obtain ⟨hB, hKT, k, o, hk, rfl, hol, hnam, hown, hr⟩ := hrel
    have HB := hid hB
    have HKT := hid hKT
    have HRR := hid hr
    have HN := hid hnam
    have HS : Hid (w.heap.size ≤ wr.heap.size) := hB.size
    clear hr hB hKT hnam
    obtain ⟨oa, cp3, rfl⟩ := row_shape hown
    have HOWN2 := hid hown
    clear hown
    by_cases hlt : k < L.length
    · obtain ⟨y, hy⟩ : ∃ y, y = mkB L[k] := ⟨_, rfl⟩
      have cy : wr.cell? ⟨g2, k, none⟩ = some (.string y) := by
        have := (ownsRow_keepT HROW2.out (by decide) HKT.out).cells (g := g2) rfl k (.string y) (by rw [List.getElem?_map, List.getElem?_eq_getElem hlt, hy]; rfl)
        rw [Go.WideShapes.add_plain, Nat.zero_add] at this
        exact this
      have hys : y.size ≤ maxLen := by
        rw [hy, mkB_size]
        exact Nat.le_trans (HLS.out _ (List.getElem_mem hlt)) (by unfold maxLen; omega)
      have HCR : Hid (Calls Tryd.prog 18 #[.string y, .slice oa o.length cp3] wr fun e w' => HostsOut w.heap.size wr (partL L[k] o) e w') := by
        have h := part_any y (.slice oa o.length cp3) o w.heap.size wr hys (by omega) HS.out HOWN2.out
        rw [hy, mkB_list] at h
        rw [hy]
        exact h
      have hki : (0 : Int) ≤ (k : Int) := by omega
      have hki2 : (k : Int) < (L.length : Int) := by omega
      have HLEN := hid (part_len L[k] o)
      have HNAM := hid (part_names L[k] 400 (HLS.out _ (List.getElem_mem hlt)) o HN.out)
      have HNEXT : Hid (T = (L.drop (k + 1)).foldl (fun o x => partL x o) (partL L[k] o)) := by
        show T = _
        rw [HRR.out, List.drop_eq_getElem_cons hlt, List.foldl_cons]
      obtain ⟨o2, ho2⟩ : ∃ o2, o2 = partL L[k] o := ⟨_, rfl⟩
      rw [← ho2] at HCR HLEN HNEXT HNAM
      clear hy ho2
      go_wp2_with fail
      refine HCR.out.mono ?_
      rintro e w3 ⟨v3, rfl, hrow3, hb3, hk3⟩
      have HROW3 := hid hrow3
      have HB3 := hid hb3
      have HK3 := hid hk3
      clear hrow3 hb3 hk3
      go_wp2
      go_roundw
      case rel => exact ⟨HB.out.trans HB3.out, HKT.out.trans HK3.out, k + 1, o2, by omega, by go_num, by have := HLEN.out; omega, HNAM.out, HROW3.out, HNEXT.out⟩
      case measure => simp [intOf]; omega
    · have HE : Hid (T = o) := by
        show T = o
        rw [HRR.out, List.drop_of_length_le (by omega)]; rfl
      have hTo := HE.out
      subst hTo
      clear HE
      by_cases hz : T.length = 0
      · have hTn : T = [] := List.eq_nil_of_length_eq_zero hz
        have HRN : Hid (R = none) := by
          show R = none
          rw [HR.out, if_neg]
          intro c
          have := c.2
          rw [hTn, foldH_nil] at this
          exact h0 (by have e : s.data.toList.length = s.size := by simp
                       rw [← e, ← this]; rfl)
        subst hTn
        have hq : ((⟨#[]⟩ : ByteArray).toList == s.toList) = false := by
          rw [beq_eq_false_iff_ne]
          intro e
          have := congrArg List.length e
          rw [len_toList, len_toList] at this
          exact h0 this.symm
        simp only [List.length_nil] at hol
        clear hz
        go_wp2_with fail
        refine (listOk_zero _ _ _).mono ?_
        rintro e w3 ⟨rfl, rfl⟩
        go_wp2_with fail
        refine (fold_zero _ _ _).mono ?_
        rintro e w3 ⟨rfl, rfl⟩
        go_wp2
        go_ret2
        rw [HRN.out]
        exact openOut_none HB.out
      · obtain ⟨g, cp, he, hbg, hg, hcp, hcm, _⟩ := srow_cells HOWN2.out (by omega)
        obtain ⟨rfl, rfl⟩ : oa = some ⟨g, 0, none⟩ ∧ cp3 = cp := by injection he with a b c; exact ⟨a, c⟩
        clear he
        have HROW := hid (rowAt_of HOWN2.out HN.out)
        have CO := hid (listOk_spec g 0 T.length cp3 (Sof T) (Mof T) wr hcp hcm HROW.out)
        cases hok : okH T
        · have HRN : Hid (R = none) := by
            show R = none
            rw [HR.out, if_neg]
            intro c
            rw [hok] at c
            exact absurd c.1 (by decide)
          rw [show listOk (Sof T) (Mof T) T.length = false from hok] at CO
          clear hok
          go_wp2_with fail
          refine CO.out.mono ?_
          rintro e w3 ⟨rfl, hb3⟩
          have HB3 : Hid (Below w.heap.size w w3) := HB.out.trans (hb3.mono HS.out)
          clear hb3
          go_wp2
          go_ret2
          rw [HRN.out]
          exact openOut_none HB3.out
        · rw [show listOk (Sof T) (Mof T) T.length = true from hok] at CO
          obtain ⟨h30, heach⟩ := okH_each T hok
          have CF : Hid (∀ W, RowAt W g 0 T.length (Sof T) (Mof T) → Calls Tryd.prog 14 #[.slice (some ⟨g, 0, none⟩) T.length cp3] W fun e w' => e = .returned (.string (mkB (foldH T))) ∧ Below W.heap.size W w') := fun W h =>
            fold_spec g 0 T.length cp3 (Sof T) (Mof T) W hcp hcm h30 h (fun i hi => (okB_num (heach i hi)).1) (fun i hi => (okB_num (heach i hi)).2)
          obtain ⟨z, hzz⟩ : ∃ z, z = mkB (foldH T) := ⟨_, rfl⟩
          rw [← hzz] at CF HSE
          clear hzz
          cases hq : (z.toList == s.toList)
          · have HRN : Hid (R = none) := by
              show R = none
              rw [HR.out, if_neg]
              intro c
              have := HSE.out.2 c.2
              rw [hq] at this; cases this
            clear hok heach
            go_wp2_with fail
            refine CO.out.mono ?_
            rintro e w3 ⟨rfl, hb3⟩
            have HB3 : Hid (Below w.heap.size w w3) := HB.out.trans (hb3.mono HS.out)
            have HROW3 := hid (HROW.out.below hb3)
            clear hb3
            go_wp2_with fail
            refine (CF.out _ HROW3.out).mono ?_
            rintro e w4 ⟨rfl, hb4⟩
            have HB4 : Hid (Below w.heap.size w w4) := HB3.out.trans (hb4.mono HB3.out.size)
            clear hb4
            go_wp2
            go_ret2
            rw [HRN.out]
            exact openOut_none HB4.out
          · have HRN : Hid (R = some T) := by
              show R = some T
              rw [HR.out, if_pos]
              exact ⟨hok, HSE.out.1 hq⟩
            clear hok heach
            go_wp2_with fail
            refine CO.out.mono ?_
            rintro e w3 ⟨rfl, hb3⟩
            have HB3 : Hid (Below w.heap.size w w3) := HB.out.trans (hb3.mono HS.out)
            have HROW3 := hid (HROW.out.below hb3)
            have HO3 := hid (row_ownBelow HOWN2.out hb3)
            clear hb3
            go_wp2_with fail
            refine (CF.out _ HROW3.out).mono ?_
            rintro e w4 ⟨rfl, hb4⟩
            have HB4 : Hid (Below w.heap.size w w4) := HB3.out.trans (hb4.mono HB3.out.size)
            have HO4 := hid (row_ownBelow HO3.out hb4)
            clear hb4
            go_wp2
            go_ret2
            rw [HRN.out]
            exact ⟨_, rfl, HO4.out, HB4.out⟩

set_option maxHeartbeats 600000 in
theorem open_spec (s : ByteArray) (w : World) (hs : s.size ≤ maxLen) :
    Calls Tryd.prog 6 #[.string s] w fun e w' => OpenOut (openS s) w e w' := by
  have hs' : s.size ≤ 2 ^ 63 - 1 := hs
  by_cases h0 : s.size = 0
  · have hse : s.toList.isEmpty = true := by
      rw [List.isEmpty_iff, ← List.length_eq_zero_iff, len_toList]; exact h0
    have HR : Hid (openS s = some []) := by show openS s = _; unfold openS; rw [if_pos h0]
    clear h0
    go_enter Tryd.func6, Tryd.ntmps6
    go_wp2
    go_ret2
    rw [HR.out]
    exact ⟨_, rfl, World.ownsRow_nil _ _ _ _, Below.refl _ _⟩
  · by_cases h4 : 400 < s.size
    · have hse : s.toList.isEmpty = false := by
        rw [List.isEmpty_eq_false_iff]; intro e; have e2 := len_toList s; rw [e] at e2; simp at e2; omega
      have h4' : (400 : Int) < (s.size : Int) := by omega
      have HR : Hid (openS s = none) := by show openS s = _; unfold openS; rw [if_neg h0, if_pos h4]
      clear h0 h4
      go_enter Tryd.func6, Tryd.ntmps6
      go_wp2
      go_ret2
      rw [HR.out]
      exact openOut_none (Below.refl _ _)
    · have := open_core s w h0 (by omega)
      unfold openS
      rw [if_neg h0, if_neg h4]
      exact this

end Go.Proofs.YtahhjhhnjpbocabDoor
