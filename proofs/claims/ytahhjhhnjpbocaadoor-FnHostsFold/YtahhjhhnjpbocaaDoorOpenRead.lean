/- DERIVED. The walk of the program's readLoosely. -/
import Derived.Test.YtahhjhhnjpbocaaDoorOpenLib
import Derived.Test.YtahhjhhnjpbocaaDoorOpenSpec
namespace Go.Proofs.YtahhjhhnjpbocaaDoor
open Go.RowKit

theorem cut_sum (t : List UInt8) (c : UInt8) : (Lib.cut t [c]).1.length + (Lib.cut t [c]).2.1.length ≤ t.length := by
  have := index_bd t c
  unfold Lib.cut
  rw [Lib.index_one]
  split
  · simp; omega
  · simp

theorem cutI_sum (t : List UInt8) : (cutI t).1.length + (cutI t).2.length ≤ t.length := by
  unfold cutI
  split
  · have h1 := cut_sum (Lib.trimPrefix t [91]) 93
    have h2 := trim_len t [91]
    have h3 := trim_len (Lib.cut (Lib.trimPrefix t [91]) [93]).2.1 [44]
    dsimp only
    omega
  · exact cut_sum t 44

theorem splitK_len (sep : List UInt8) (k : Nat) (t : List UInt8) : (Lib.splitK sep 0 k t).length ≤ k + 1 := by
  induction k generalizing t with
  | zero => simp [Lib.splitK]
  | succ k ih =>
    rw [Lib.splitK]
    split
    · simp
    · have := ih (t.drop ((Lib.index t sep).toNat + sep.length))
      simp only [List.length_cons]; omega

theorem split_len (t : List UInt8) (c : UInt8) : (Lib.split t [c]).length ≤ t.length + 1 := by
  have h := splitK_len [c] (Lib.count t [c]) t
  have h2 : Lib.count t [c] ≤ t.length := by rw [Lib.count_one]; exact List.count_le_length
  unfold Lib.split
  omega

theorem splitK_size (sep : List UInt8) (k : Nat) (t x : List UInt8) (h : x ∈ Lib.splitK sep 0 k t) : x.length ≤ t.length := by
  induction k generalizing t with
  | zero => simp [Lib.splitK] at h; rw [h]; exact Nat.le_refl _
  | succ k ih =>
    rw [Lib.splitK] at h
    split at h
    · simp at h; rw [h]; exact Nat.le_refl _
    · rcases List.mem_cons.1 h with e | h
      · rw [e]; simp; omega
      · have := ih _ h
        simp at this; omega

theorem split_pos (t : List UInt8) (c : UInt8) : 1 ≤ (Lib.split t [c]).length := by
  unfold Lib.split
  cases Lib.count t [c] with
  | zero => simp [Lib.splitK]
  | succ k => rw [Lib.splitK]; split <;> simp

/-- Ahead of the parts of a name, from a place on. -/
def goOn (nm : ByteArray) (f : Nat) (behind : List UInt8) (L : List (List UInt8)) (o : Hs) : Option Hs :=
  match addAll nm L o with
  | none => none
  | some o' => readI f behind o'

theorem goOn_nil (nm : ByteArray) (f : Nat) (behind : List UInt8) (o : Hs) : goOn nm f behind [] o = readI f behind o := rfl

theorem goOn_none (nm : ByteArray) (f : Nat) (behind x : List UInt8) (L : List (List UInt8)) (o : Hs) (h : addI nm o x = none) : goOn nm f behind (x :: L) o = none := by
  unfold goOn; rw [addAll, h]

theorem goOn_some (nm : ByteArray) (f : Nat) (behind x : List UInt8) (L : List (List UInt8)) (o o' : Hs) (h : addI nm o x = some o') : goOn nm f behind (x :: L) o = goOn nm f behind L o' := by
  unfold goOn; rw [addAll, h]

theorem readI_step (f : Nat) (t : List UInt8) (o : Hs) (h : t ≠ []) : readI (f + 1) t o = goOn (mkB (t.take (lead t))) f (cutI (t.drop (lead t))).2 (Lib.split (cutI (t.drop (lead t))).1 [44]) o := by
  rw [readI, if_neg h]; rfl

def strLen : Value → Nat
  | .string t => t.size
  | _ => 0

theorem numsI_bd (t : List UInt8) (a b : Int) (h : numsI t = some (a, b)) : 0 ≤ a ∧ a ≤ 999999 ∧ 0 ≤ b ∧ b ≤ 999999 := by
  unfold numsI at h
  split at h
  · rename_i h1
    have y1 := numOf_yes _ h1
    split at h
    · split at h
      · rename_i h2
        have y2 := numOf_yes _ h2
        injection h with h
        injection h with ha hb
        omega
      · cases h
    · injection h with h
      injection h with ha hb
      omega
  · cases h

theorem row_made (w : World) (xs : List Value) (n : Nat) (e : TypeId) (hn : xs.length = n) (hm : n ≤ maxLen) : (w.alloc (.cells xs.toArray e)).ownsRow w.heap.size e 1 (.slice (some ⟨w.heap.size, 0, none⟩) n n) n xs := by
  refine ⟨by omega, Or.inr ⟨w.heap.size, n, xs.toArray, rfl, Nat.le_refl _, ?_, Nat.le_refl _, hm, by simp [hn], ?_⟩⟩
  · exact heap_alloc_new w _
  · rw [← hn]; simp

set_option maxRecDepth 100000 in
set_option maxHeartbeats 3200000 in
theorem read_impl (s : ByteArray) (w : World) (h4 : s.size ≤ 400) :
    Calls Tryd.prog 22 #[.string s] w fun e w' => OpenOut (readI (s.data.toList.length + 1) s.data.toList []) w e w' := by
  obtain ⟨i0, hi, hz0, hz1, hz2⟩ := info_parts infoHost
  obtain ⟨T, hT⟩ : ∃ T, T = readI (s.data.toList.length + 1) s.data.toList [] := ⟨_, rfl⟩
  rw [← hT]
  have HT := hid hT
  clear hT
  go_enter Tryd.func22, Tryd.ntmps22
  go_wp2
  go_loopw [4, 5] (fun v r wr => Below w.heap.size w wr ∧ ∃ (t : ByteArray) (o : Hs) (f : Nat), r = .string t ∧ t.size ≤ s.size ∧ t.data.toList.length < f ∧ o.length + 60 * t.size ≤ 60 * s.size ∧ wr.ownsRow w.heap.size 31 2 v o.length (hcells o) ∧ T = readI f t.data.toList o) (fun _ r _ => strLen r)
  case atStart => exact ⟨Below.refl _ _, s, [], s.data.toList.length + 1, rfl, Nat.le_refl _, by omega, by simp, World.ownsRow_nil _ _ _ _, HT.out⟩
  case round =>
    obtain ⟨hB, t, o, f, rfl, hts, htf, hol, hown, hr⟩ := hrel
    have HB := hid hB
    have HRR := hid hr
    have HS : Hid (w.heap.size ≤ wr.heap.size) := hB.size
    have HTF := hid htf
    have htl : t.data.toList.length = t.size := by simp
    clear hr hB htf
    obtain ⟨oa, cp, rfl⟩ := row_shape hown
    have HOWN := hid hown
    clear hown
    by_cases hz : t.size = 0
    · have hte : t.toList.isEmpty = true := by
        rw [List.isEmpty_iff, ← List.length_eq_zero_iff, len_toList]; exact hz
      have HE : Hid (T = some o) := by
        show T = _
        rw [HRR.out, List.eq_nil_of_length_eq_zero (by omega : t.data.toList.length = 0), readI_nil]
      clear hz htl
      go_wp2
      go_ret2
      rw [HE.out]
      exact ⟨_, rfl, HOWN.out, HB.out⟩
    · have hte : t.toList.isEmpty = false := by
        rw [List.isEmpty_eq_false_iff]; intro e; have e2 := len_toList t; rw [e] at e2; simp at e2; omega
      have hne : t.data.toList ≠ [] := fun e => hz (by rw [← htl, e]; rfl)
      obtain ⟨g, hg⟩ : ∃ g, f = g + 1 := ⟨f - 1, by have := HTF.out; omega⟩
      have hlead := lead_le t.data.toList
      obtain ⟨r, hrr⟩ : ∃ r, r = t.extract 0 (lead t.data.toList) := ⟨_, rfl⟩
      have hrs : r.size = lead t.data.toList := by rw [hrr, ByteArray.size_extract]; omega
      have hrt : r.size ≤ t.size := by omega
      have hmk : mkB (t.data.toList.take (lead t.data.toList)) = r := by
        rw [hrr, ← mkB_extract]; rfl
      obtain ⟨D, hD⟩ : ∃ D, D = t.data.toList.drop (lead t.data.toList) := ⟨_, rfl⟩
      have hDx : (t.extract r.size t.size).data.toList = D := by
        rw [hrs, ← mkB_tail, mkB_list, hD]
      obtain ⟨nums, hnums⟩ : ∃ nums, nums = (cutI D).1 := ⟨_, rfl⟩
      obtain ⟨behind, hbehind⟩ : ∃ behind, behind = (cutI D).2 := ⟨_, rfl⟩
      obtain ⟨L, hL⟩ : ∃ L, L = Lib.split nums [44] := ⟨_, rfl⟩
      have hstep : T = goOn r g behind L o := by
        rw [HRR.out, hg, readI_step g _ o hne, hmk, ← hD, ← hnums, ← hbehind, ← hL]
      have hsum : nums.length + behind.length ≤ t.size := by
        have := cutI_sum D
        have hDl : D.length ≤ t.size := by rw [hD, List.length_drop]; omega
        rw [hnums, hbehind]; omega
      have hlt : behind.length < t.size := by
        have := behind_lt t.data.toList hne
        rw [← hD, ← hbehind, htl] at this; exact this
      have hLl : L.length ≤ nums.length + 1 := by rw [hL]; exact split_len _ _
      have hL1 : 1 ≤ L.length := by rw [hL]; exact split_pos _ _
      have hLs : ∀ y ∈ L, y.length ≤ 400 := by
        intro y hy
        rw [hL] at hy
        have := splitK_size [44] _ nums y hy
        omega
      have hgf : behind.length < g := by have := HTF.out; omega
      have HCN : Hid (∀ W, Calls Tryd.prog 43 #[.string (t.extract r.size t.size)] W fun e w' => e = .returned (.tuple #[.string (mkB nums), .string (mkB behind)]) ∧ Below W.heap.size W w') := fun W => by
        have h := cutNums_any (t.extract r.size t.size) W (by rw [ByteArray.size_extract]; unfold maxLen; omega)
        rw [hDx, ← hnums, ← hbehind] at h
        exact h
      have HSP : Hid (∀ W, Calls Tryd.prog 44 #[.string (mkB nums), .string ⟨#[44]⟩] W fun e w' => e = .returned (.slice (some ⟨W.heap.size, 0, none⟩) L.length L.length) ∧ w' = W.alloc (.cells (L.map strV).toArray 9)) := fun W => by
        have h := split_one (mkB nums) 44 W (by rw [mkB_size]; omega)
        rw [mkB_list, ← hL] at h
        exact h
      have HLD : Hid (∀ W, Calls Tryd.prog 38 #[.string t, .func (.func 39) #[] #[]] W fun e w' => e = .returned (.string r) ∧ w' = W) := fun W => lead_no t W r (by unfold maxLen; omega) hrr
      obtain ⟨bh, hbh⟩ : ∃ bh, bh = mkB behind := ⟨_, rfl⟩
      obtain ⟨nb, hnb⟩ : ∃ nb, nb = mkB nums := ⟨_, rfl⟩
      rw [← hbh, ← hnb] at HCN
      rw [← hnb] at HSP
      have HBH : Hid (bh.data.toList = behind ∧ bh.size = behind.length) := by
        show _ ∧ _
        rw [hbh, mkB_list, mkB_size]; exact ⟨rfl, rfl⟩
      have HSTEP := hid hstep
      have HLS := hid hLs
      have hri : (r.size : Int) ≤ (t.size : Int) := by omega
      have hr0 : (0 : Int) ≤ (r.size : Int) := by omega
      clear hstep hLs hbh hnb hL hnums hbehind hDx hD hmk hrs hrr hlead hg hne htl hz
      go_wp2_with fail
      refine (HLD.out _).mono ?_
      rintro e w1 ⟨rfl, rfl⟩
      go_wp2_with fail
      refine (HCN.out _).mono ?_
      rintro e w1 ⟨rfl, hb1⟩
      have HB1 : Hid (Below w.heap.size w w1) := HB.out.trans (hb1.mono HS.out)
      have HO1 := hid (row_ownBelow HOWN.out hb1)
      clear hb1
      go_wp2_with fail
      refine (HSP.out _).mono ?_
      rintro e w2 ⟨rfl, hw2⟩
      have HROW2 : Hid (w2.ownsRow w1.heap.size 9 1 (.slice (some ⟨w1.heap.size, 0, none⟩) L.length L.length) L.length (L.map strV)) := by
        show World.ownsRow _ _ _ _ _ _ _
        rw [hw2]
        exact row_made w1 (L.map strV) L.length 9 (by simp) (by unfold maxLen; omega)
      have HB2 : Hid (Below w.heap.size w w2) := by
        show Below _ _ _
        rw [hw2]; exact HB1.out.alloc HB1.out.size _
      have HO2 : Hid (w2.ownsRow w.heap.size 31 2 (.slice oa o.length cp) o.length (hcells o)) := by
        show World.ownsRow _ _ _ _ _ _ _
        rw [hw2]; exact HO1.out.alloc _
      obtain ⟨B2, hB2⟩ : ∃ B2, B2 = w1.heap.size := ⟨_, rfl⟩
      rw [← hB2] at HROW2 ⊢
      clear hw2 hB2 HB1 HO1 HCN HSP HLD
      go_wp2
      go_loopw [4, 31] (fun v i wk => Below w.heap.size w wk ∧ KeepT 31 w2 wk ∧ ∃ (k : Nat) (p : Hs), k ≤ L.length ∧ i = .int .i64 k ∧ p.length ≤ o.length + 30 * k ∧ wk.ownsRow w.heap.size 31 2 v p.length (hcells p) ∧ T = goOn r g behind (L.drop k) p) (fun _ i _ => L.length - (intOf i).toNat)
      case atStart => exact ⟨HB2.out, KeepT.refl _ _, 0, o, Nat.zero_le _, rfl, by omega, HO2.out, HSTEP.out⟩
      case round =>
        obtain ⟨hB, hKT, k, p, hk, rfl, hpl, hown, hr⟩ := hrel
        have HBk := hid hB
        have HKT := hid hKT
        have HRk := hid hr
        have HSk : Hid (w.heap.size ≤ wr.heap.size) := hB.size
        clear hr hB hKT
        obtain ⟨oa2, cp2, rfl⟩ := row_shape hown
        have HOWNk := hid hown
        clear hown
        by_cases hkl : k < L.length
        · obtain ⟨x, hx⟩ : ∃ x, x = L[k] := ⟨_, rfl⟩
          obtain ⟨y, hy⟩ : ∃ y, y = mkB x := ⟨_, rfl⟩
          have cy : wr.cell? ⟨B2, k, none⟩ = some (.string y) := by
            have := (ownsRow_keepT HROW2.out (by decide) HKT.out).cells (g := B2) rfl k (.string y) (by rw [List.getElem?_map, List.getElem?_eq_getElem hkl, hy, hx]; rfl)
            rw [Go.WideShapes.add_plain, Nat.zero_add] at this
            exact this
          have hys : y.size ≤ maxLen := by
            rw [hy, mkB_size, hx]
            exact Nat.le_trans (HLS.out _ (List.getElem_mem hkl)) (by unfold maxLen; omega)
          have hyx : y.data.toList = x := by rw [hy, mkB_list]
          have hki : (0 : Int) ≤ (k : Int) := by omega
          have hki2 : (k : Int) < (L.length : Int) := by omega
          have hdrop : L.drop k = x :: L.drop (k + 1) := by rw [List.drop_eq_getElem_cons hkl, hx]
          cases hn : numsI x with
          | none =>
            have HNO := hid (fun W => numsOf_no y W hys (by rw [hyx]; exact hn))
            have HE : Hid (T = none) := by
              show T = none
              rw [HRk.out, hdrop]
              exact goOn_none _ _ _ _ _ _ (by unfold addI; rw [hn])
            clear hn hx hy hyx hdrop
            go_wp2_with fail
            refine (HNO.out _).mono ?_
            rintro e w3 ⟨⟨a, b, rfl⟩, hb3⟩
            have HB3 : Hid (Below w.heap.size w w3) := HBk.out.trans (hb3.mono HSk.out)
            clear hb3
            go_wp2
            go_ret2
            rw [HE.out]
            exact openOut_none HB3.out
          | some ab =>
            obtain ⟨a, b⟩ := ab
            obtain ⟨ha0, ha1, hb0, hb1⟩ := numsI_bd x a b hn
            have HYES := hid (fun W => numsOf_yes y a b W hys (by rw [hyx]; exact hn))
            by_cases h30 : 30 ≤ b - a
            · have HE : Hid (T = none) := by
                show T = none
                rw [HRk.out, hdrop]
                exact goOn_none _ _ _ _ _ _ (by unfold addI; rw [hn]; dsimp only; rw [if_pos h30])
              clear hn hx hy hyx hdrop
              go_wp2_with fail
              refine (HYES.out _).mono ?_
              rintro e w3 ⟨rfl, hb3⟩
              have HB3 : Hid (Below w.heap.size w w3) := HBk.out.trans (hb3.mono HSk.out)
              clear hb3
              go_wp2
              go_ret2
              rw [HE.out]
              exact openOut_none HB3.out
            · obtain ⟨cnt, hcnt⟩ : ∃ cnt, cnt = (b + 1 - a).toNat := ⟨_, rfl⟩
              have hc1 : cnt ≤ 30 := by omega
              have hc2 : b + 1 - a ≤ (cnt : Int) := by omega
              have hc3 : (cnt : Int) = b + 1 - a ∨ cnt = 0 := by omega
              have HNEXT : Hid (T = goOn r g behind (L.drop (k + 1)) (p ++ seqH r a cnt)) := by
                show T = _
                rw [HRk.out, hdrop]
                exact goOn_some _ _ _ _ _ _ _ (by unfold addI; rw [hn]; dsimp only; rw [if_neg h30, hcnt])
              have HC3 := hid hc3
              clear hn hx hy hyx hdrop hcnt hc3
              go_wp2_with fail
              refine (HYES.out _).mono ?_
              rintro e w3 ⟨rfl, hb3⟩
              have HB3 : Hid (Below w.heap.size w w3) := HBk.out.trans (hb3.mono HSk.out)
              have HK3 : Hid (KeepT 31 w2 w3) := HKT.out.trans (KeepT.below hb3)
              have HO3 := hid (row_ownBelow HOWNk.out hb3)
              clear hb3
              go_wp2
              go_loopw [4, 14] (fun v n wj => Below w.heap.size w wj ∧ KeepT 31 w2 wj ∧ ∃ j : Nat, j ≤ cnt ∧ n = .int .i64 (a + j) ∧ wj.ownsRow w.heap.size 31 2 v (p.length + j) (hcells (p ++ seqH r a j))) (fun _ n _ => (b + 1 - intOf n).toNat)
              case atStart =>
                refine ⟨HB3.out, HK3.out, 0, Nat.zero_le _, by simp, ?_⟩
                simpa [seqH] using HO3.out
              case round =>
                obtain ⟨hB, hKT, j, hj, rfl, hown⟩ := hrel
                have HBj := hid hB
                have HKj := hid hKT
                have HSj : Hid (w.heap.size ≤ wr.heap.size) := hB.size
                clear hB hKT
                obtain ⟨oa3, cp3, rfl⟩ := row_shape hown
                by_cases hjb : a + (j : Int) ≤ b
                · go_wp2_with (at_builtin; refine wpList_append_own _ rfl _ _ 23 rfl w.heap.size 31 i0 (.agg #[.string ⟨#[]⟩, .int .i64 0]) 2 24 Tryd.underlying23 hi hz0 hz1 hz2 rfl (by decide) _ _ _ rfl (hown.alloc _) ⟨wr.heap.size, 0, none⟩ 1 1 [.string r, .int .i64 (a + j)] rfl rfl (cell_new2 _ _ _ _) (by simp [Value.oneCell']) (by unfold maxLen; omega) (by omega) (by have := HSj.out; simp; omega) ?_)
                  intro v' w4 hown' hgrow _
                  have HB4 : Hid (Below w.heap.size w w4) := (HBj.out.alloc HSj.out _).trans (below_grown (hown.alloc _) (by have := HSj.out; simp; omega) hgrow)
                  have HK4 : Hid (KeepT 31 w2 w4) := HKj.out.trans ((KeepT.below ((Below.refl _ _).alloc (Nat.le_refl _) _)).trans (KeepT.grown (hown.alloc _) hgrow))
                  have HOWN' := hid hown'
                  clear hown' hgrow hown
                  go_wp2
                  go_roundw
                  case rel =>
                    refine ⟨HB4.out, HK4.out, j + 1, by have := HC3.out; omega, by go_num, ?_⟩
                    have := HOWN'.out
                    rw [seqH_snoc, ← List.append_assoc, hcells_append, ← Nat.add_assoc]
                    simpa [hcells] using this
                  case measure => simp [intOf]; omega
                · have HJ : Hid (j = cnt) := by show j = cnt; have := HC3.out; omega
                  have HOWN' := hid hown
                  clear hown
                  go_wp2
                  go_roundw
                  case rel =>
                    refine ⟨HBj.out, HKj.out, k + 1, p ++ seqH r a cnt, by omega, by go_num, by rw [List.length_append, seqH_len]; omega, ?_, HNEXT.out⟩
                    have := HOWN'.out
                    rw [HJ.out] at this
                    rw [List.length_append, seqH_len]
                    have e := HJ.out
                    subst e
                    exact this
                  case measure => simp [intOf]; omega
        · have HE : Hid (T = readI g behind p) := by
            show T = _
            rw [HRk.out, List.drop_of_length_le (by omega), goOn_nil]
          have hbs : bh.size = behind.length := HBH.out.2
          have HBS := hid hbs
          clear hbs
          go_wp2
          go_roundw
          case rel =>
            have e1 := HBH.out.1
            have e2 := HBS.out
            exact ⟨HBk.out, bh, p, g, rfl, by omega, by rw [e1]; exact hgf, by omega, HOWNk.out, by rw [e1]; exact HE.out⟩
          case measure =>
            have e2 := HBS.out
            simp [strLen]; omega

end Go.Proofs.YtahhjhhnjpbocaaDoor
