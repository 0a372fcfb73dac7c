/- DERIVED. The walk of the model's part: l1Part. -/
import Derived.Test.YtahhjhhnjpbocabDoorOpenRange
import Derived.Deep.RegionHeld3
namespace Go.Proofs.YtahhjhhnjpbocabDoor
open Go.RowKit

theorem rangeOf_len (nm : ByteArray) (t : List UInt8) (out : Hs) : (rangeOf nm t out).length ≤ max out.length 31 := by
  unfold rangeOf
  split
  · exact range_len _ _ _ _ _
  · exact range_len _ _ _ _ _
  · omega

theorem below_drew1 (w : World) : Below w.heap.size w w.drew := (Below.refl _ _).drew

theorem getHost_val (s : ByteArray) : ∃ b, getVal s = .tuple #[.agg #[.string (getHost s).1, .int .i64 (getHost s).2], .bool b] := by
  unfold getVal getHost
  by_cases h : getOk s = true
  · exact ⟨true, by rw [if_pos h, if_pos h]⟩
  · exact ⟨false, by rw [if_neg h, if_neg h]⟩

set_option maxRecDepth 100000 in
set_option maxHeartbeats 1600000 in
theorem part_one (s : ByteArray) (v : Value) (out : Hs) (base : Nat) (w : World) (hs : s.size ≤ maxLen) (hl : out.length ≤ 900) (hbase : base ≤ w.heap.size) (hown : w.ownsRow base 41 2 v out.length (hcells out))
    (hone : ∀ a c r, cutL 91 1 [] s.data.toList ≠ [a, c :: r]) :
    Calls Tryd.prog 18 #[.string s, v] w fun e w' => HostsOut base w (out ++ [getHost (mkB s.data.toList)]) e w' := by
  obtain ⟨i0, hi, hz0, hz1, hz2⟩ := info_parts infoHost
  have hcut := fun W => cut_spec s 91 91 1 W hs rfl (by decide)
  rw [mkB_data]
  obtain ⟨b, hb⟩ := getHost_val s
  obtain ⟨h, hh⟩ : ∃ h, h = getHost s := ⟨_, rfl⟩
  rw [← hh] at hb ⊢
  obtain ⟨hn, hm⟩ := h
  dsimp only at hb
  have CG : Hid (∀ W, Calls Tryd.prog 38 #[.string s] W fun e w' => e = .returned (.tuple #[.agg #[.string hn, .int .i64 hm], .bool b]) ∧ Below W.heap.size W w') := fun W => by rw [← hb]; exact specGet_any s W hs
  clear hb hh
  have HOWN := hid hown
  have HBASE := hid hbase
  clear hown hbase
  have hcase : (∃ a, cutL 91 1 [] s.data.toList = [a]) ∨ ∃ a, cutL 91 1 [] s.data.toList = [a, []] := by
    rcases cut1_cases 91 [] s.data.toList with ⟨a, ha⟩ | ⟨a, c, ha⟩
    · exact Or.inl ⟨a, ha⟩
    · cases c with
      | nil => exact Or.inr ⟨a, ha⟩
      | cons x r => exact absurd ha (hone a x r)
  have hs' : s.size ≤ 2 ^ 63 - 1 := hs
  clear hone
  rcases hcase with ⟨a, ha⟩ | ⟨a, ha⟩
  · simp only [ha, List.length_cons, List.length_nil, List.map_cons, List.map_nil] at hcut
    have HC := hid hcut
    clear hcut ha
    go_enter Tryd.func18, Tryd.ntmps18
    go_wp2_with fail
    refine (HC.out _).mono ?_
    rintro e w1 ⟨v1, rfl, hrow1, hb1⟩
    obtain ⟨g, cp, rfl, hbg, hg, hcp, hcm, hcell⟩ := srow_cells hrow1 (by decide)
    have HB1 := hid hb1
    have HOWN1 := hid (row_ownBelow HOWN.out hb1)
    clear hcell hrow1 hb1 HC
    go_wp2_with fail
    refine (CG.out _).mono ?_
    rintro e w2 ⟨rfl, hb2⟩
    have HB2 : Hid (Below w.heap.size w w2) := HB1.out.trans (hb2.mono HB1.out.size)
    have hown2 := row_ownBelow HOWN1.out hb2
    have HS2 : Hid (base ≤ w2.heap.size) := Nat.le_trans HBASE.out HB2.out.size
    clear hb2
    obtain ⟨oa, cp2, rfl⟩ := row_shape hown2
    have HOWN2 := hid hown2
    clear hown2
    go_wp2_with (at_builtin; refine wpList_append_own _ rfl _ _ 24 rfl base 41 i0 (.agg #[.string ⟨#[]⟩, .int .i64 0]) 2 24 Tryd.underlying24 hi hz0 hz1 hz2 rfl (by decide) _ _ _ rfl (row_ownBelow HOWN2.out ?below) ⟨w2.heap.size + 1, 0, none⟩ 1 1 [.string hn, .int .i64 hm] rfl rfl ?news (by simp [Value.oneCell']) (by unfold maxLen; omega) (by omega) (by have := HS2.out; simp; omega) ?_)
    case below => repeat (first | exact Below.refl _ _ | refine Below.setCell ?_ (Nat.le_refl _) _ | refine Below.alloc ?_ (by simp) _)
    case news =>
      intro j x hj
      match j, hj with
      | 0, hj => simp at hj; subst hj; simp [Addr.add]
      | 1, hj => simp at hj; subst hj; simp [Addr.add]
      | n + 2, hj => simp at hj
    intro v' w3 hown' hgrow _
    have hX : Below w2.heap.size w2 ((w2.alloc (.cells #[.string hn, .int .i64 hm] 41)).alloc (.cells #[.string hn, .int .i64 hm] 41)) := ((Below.refl _ _).alloc (Nat.le_refl _) _).alloc (by simp) _
    have HB3 : Hid (Below base w w3) := (HB2.out.mono HBASE.out).trans ((hX.mono HS2.out).trans (below_grown (row_ownBelow HOWN2.out hX) (by have := HS2.out; simp; omega) hgrow))
    have HK3 : Hid (KeepT 41 w w3) := (KeepT.below HB2.out).trans ((KeepT.below hX).trans (KeepT.grown (row_ownBelow HOWN2.out hX) hgrow))
    have HOWN' := hid hown'
    clear hown' hgrow hX
    go_wp2
    refine bodyPost_ret (v := v') (by simp [results, Tryd.results18, go_sem]) rfl ⟨v', rfl, ?_, HB3.out, HK3.out⟩
    rw [hcells_append]
    simpa [hcells] using HOWN'.out
  · simp only [ha, List.length_cons, List.length_nil, List.map_cons, List.map_nil] at hcut
    have HC := hid hcut
    clear hcut ha
    go_enter Tryd.func18, Tryd.ntmps18
    go_wp2_with fail
    refine (HC.out _).mono ?_
    rintro e w1 ⟨v1, rfl, hrow1, hb1⟩
    obtain ⟨g, cp, rfl, hbg, hg, hcp, hcm, hcell⟩ := srow_cells hrow1 (by decide)
    have c1 : w1.cell? ⟨g, 1, none⟩ = some (.string ⟨#[]⟩) := hcell 1 _ rfl
    have HB1 := hid hb1
    have HOWN1 := hid (row_ownBelow HOWN.out hb1)
    clear hcell hrow1 hb1 HC
    go_wp2_with fail
    refine (CG.out _).mono ?_
    rintro e w2 ⟨rfl, hb2⟩
    have HB2 : Hid (Below w.heap.size w w2) := HB1.out.trans (hb2.mono HB1.out.size)
    have hown2 := row_ownBelow HOWN1.out hb2
    have HS2 : Hid (base ≤ w2.heap.size) := Nat.le_trans HBASE.out HB2.out.size
    clear hb2
    obtain ⟨oa, cp2, rfl⟩ := row_shape hown2
    have HOWN2 := hid hown2
    clear hown2
    go_wp2_with (at_builtin; refine wpList_append_own _ rfl _ _ 24 rfl base 41 i0 (.agg #[.string ⟨#[]⟩, .int .i64 0]) 2 24 Tryd.underlying24 hi hz0 hz1 hz2 rfl (by decide) _ _ _ rfl (row_ownBelow HOWN2.out ?below) ⟨w2.heap.size + 1, 0, none⟩ 1 1 [.string hn, .int .i64 hm] rfl rfl ?news (by simp [Value.oneCell']) (by unfold maxLen; omega) (by omega) (by have := HS2.out; simp; omega) ?_)
    case below => repeat (first | exact Below.refl _ _ | refine Below.setCell ?_ (Nat.le_refl _) _ | refine Below.alloc ?_ (by simp) _)
    case news =>
      intro j x hj
      match j, hj with
      | 0, hj => simp at hj; subst hj; simp [Addr.add]
      | 1, hj => simp at hj; subst hj; simp [Addr.add]
      | n + 2, hj => simp at hj
    intro v' w3 hown' hgrow _
    have hX : Below w2.heap.size w2 ((w2.alloc (.cells #[.string hn, .int .i64 hm] 41)).alloc (.cells #[.string hn, .int .i64 hm] 41)) := ((Below.refl _ _).alloc (Nat.le_refl _) _).alloc (by simp) _
    have HB3 : Hid (Below base w w3) := (HB2.out.mono HBASE.out).trans ((hX.mono HS2.out).trans (below_grown (row_ownBelow HOWN2.out hX) (by have := HS2.out; simp; omega) hgrow))
    have HK3 : Hid (KeepT 41 w w3) := (KeepT.below HB2.out).trans ((KeepT.below hX).trans (KeepT.grown (row_ownBelow HOWN2.out hX) hgrow))
    have HOWN' := hid hown'
    clear hown' hgrow hX
    go_wp2
    refine bodyPost_ret (v := v') (by simp [results, Tryd.results18, go_sem]) rfl ⟨v', rfl, ?_, HB3.out, HK3.out⟩
    rw [hcells_append]
    simpa [hcells] using HOWN'.out

theorem fold_len (nm : ByteArray) (L : List (List UInt8)) (out : Hs) : (L.foldl (fun o x => rangeOf nm x o) out).length ≤ max out.length 31 := by
  induction L generalizing out with
  | nil => simp; omega
  | cons x L ih =>
    have h1 := ih (rangeOf nm x out)
    have h2 := rangeOf_len nm x out
    rw [List.foldl_cons]
    omega

set_option maxRecDepth 100000 in
set_option maxHeartbeats 1600000 in
theorem part_many (s : ByteArray) (v : Value) (out : Hs) (base : Nat) (w : World) (hs : s.size ≤ maxLen) (hl : out.length ≤ 900) (hbase : base ≤ w.heap.size) (hown : w.ownsRow base 41 2 v out.length (hcells out))
    (a r : List UInt8) (c : UInt8) (ha : cutL 91 1 [] s.data.toList = [a, c :: r]) :
    Calls Tryd.prog 18 #[.string s, v] w fun e w' => HostsOut base w ((cutL 44 30 [] (c :: r).dropLast).foldl (fun o x => rangeOf (mkB a) x o) out) e w' := by
  have hcut := fun W => cut_spec s 91 91 1 W hs rfl (by decide)
  have hx : (c :: r).length ≤ s.size := by
    have := cut_size 91 1 [] s.data.toList (c :: r) (by rw [ha]; simp)
    simpa using this
  have hs' : s.size ≤ 2 ^ 63 - 1 := hs
  simp only [ha, List.length_cons, List.length_nil, List.map_cons, List.map_nil] at hcut
  clear ha
  obtain ⟨x, hxx⟩ : ∃ x, x = mkB (c :: r) := ⟨_, rfl⟩
  have hxs : x.size = r.length + 1 := by rw [hxx, mkB_size]; rfl
  obtain ⟨nm, hnm⟩ : ∃ nm, nm = mkB a := ⟨_, rfl⟩
  rw [← hnm]
  have hx' : r.length + 1 ≤ s.size := by simpa using hx
  have hcs : (x.extract 0 r.length).data.toList = (c :: r).dropLast := by
    rw [hxx, ← mkB_extract, mkB_list, mkB_list, List.drop_zero, List.dropLast_eq_take]
    simp
  obtain ⟨L, hL⟩ : ∃ L, L = cutL 44 30 [] (c :: r).dropLast := ⟨_, rfl⟩
  rw [← hL]
  have hLs : ∀ y ∈ L, y.length ≤ s.size := by
    intro y hy
    have := cut_size 44 30 [] (c :: r).dropLast y (by rw [← hL]; exact hy)
    simp at this; omega
  have hLl : L.length ≤ 31 := by
    have hg : ∀ m cur t, (cutL 44 m cur t).length ≤ m + 1 := by
      intro m cur t
      induction t generalizing m cur with
      | nil => simp [cutL]
      | cons z t ih =>
        cases m with
        | zero => simp [cutL]
        | succ m =>
          rw [cutL]
          split
          · have := ih m []; simp; exact this
          · exact ih _ _
    rw [hL]; exact hg 30 [] _
  have hL1 : 1 ≤ L.length := by
    have hg : ∀ m cur t, 1 ≤ (cutL 44 m cur t).length := by
      intro m cur t
      induction t generalizing m cur with
      | nil => simp [cutL]
      | cons z t ih =>
        cases m with
        | zero => simp [cutL]
        | succ m =>
          rw [cutL]
          split
          · simp
          · exact ih _ _
    rw [hL]; exact hg 30 [] _
  have HCC : Hid (∀ W, Calls Tryd.prog 37 #[.string (x.extract 0 r.length), .int .u8 44, .int .i64 30] W fun e w' => ∃ v, e = .returned v ∧ w'.ownsRow W.heap.size 9 1 v L.length (L.map strV) ∧ Below W.heap.size W w') := fun W => by
    have h := cut_spec (x.extract 0 r.length) 44 44 30 W (by rw [ByteArray.size_extract]; omega) rfl (by decide)
    rw [hcs, ← hL] at h
    exact h
  have hc1 : strV (c :: r) = .string x := by rw [hxx]; rfl
  have hc0 : strV a = .string nm := by rw [hnm]; rfl
  rw [hc0, hc1] at hcut
  have HOWN := hid hown
  have HBASE := hid hbase
  have HC := hid hcut
  have HLS := hid hLs
  obtain ⟨T, hT⟩ : ∃ T, T = L.foldl (fun o x => rangeOf nm x o) out := ⟨_, rfl⟩
  rw [← hT]
  have HT := hid hT
  clear hT
  have hsz : (x.size : Int) - 1 = (r.length : Int) := by omega
  have hwr : IntKind.i64.wrap ((x.size : Int) - 1) = (r.length : Int) := by
    rw [hsz]; simp [IntKind.wrap, IntKind.bits, IntKind.signed]; omega
  have hne : ((x.size : Int) == 0) = false := by rw [beq_eq_false_iff_ne]; omega
  have hb0 : (0 : Int) ≤ (r.length : Int) := by omega
  have hb1 : (r.length : Int) ≤ (x.size : Int) := by omega
  clear hown hbase hcut hcs hL hxx hnm hc0 hc1 hx hLs hsz hxs hx'
  go_enter Tryd.func18, Tryd.ntmps18
  go_wp2_with fail
  refine (HC.out _).mono ?_
  rintro e w1 ⟨v1, rfl, hrow1, hb1⟩
  obtain ⟨g, cp, rfl, hbg, hg, hcp, hcm, hcell⟩ := srow_cells hrow1 (by decide)
  have c0 : w1.cell? ⟨g, 0, none⟩ = some (.string nm) := hcell 0 _ rfl
  have c1 : w1.cell? ⟨g, 1, none⟩ = some (.string x) := hcell 1 _ rfl
  have HB1 := hid hb1
  have HOWN1 := hid (row_ownBelow HOWN.out hb1)
  have HROW1 := hid hrow1
  clear hcell hrow1 hb1 HC
  go_wp2_with fail
  go_region_held3 (fun w' => w'.cell? ⟨g, 0, none⟩ = some (.string nm) ∧ w'.cell? ⟨g, 1, none⟩ = some (.string x)) (go_keep)
    ((go_at_call 37; refine (HCC.out _).mono ?_; rintro e w2 ⟨v2, rfl, hrow2, hb2⟩; have HROW2 := hid hrow2; have HB2 := hid hb2; have k0 : w2.cell? ⟨g, 0, none⟩ = some (.string nm) := (by rw [hb2.cell (by exact hg)]; exact c0); have k1 : w2.cell? ⟨g, 1, none⟩ = some (.string x) := (by rw [hb2.cell (by exact hg)]; exact c1); clear hrow2 hb2))
  have HR1 : Hid (w2.ownsRow w.heap.size 9 1 (.slice (some ⟨g, 0, none⟩) 2 cp) 2 [.string nm, .string x]) := row_ownBelow (row_ownBelow HROW1.out (below_drew1 w1)) HB2.out
  have HO2 : Hid (w2.ownsRow base 41 2 v out.length (hcells out)) := row_ownBelow (row_ownBelow HOWN1.out (below_drew1 w1)) HB2.out
  have HBW : Hid (Below w.heap.size w w2) := (HB1.out.trans ((below_drew1 w1).mono HB1.out.size)).trans (HB2.out.mono (by have := HB1.out.size; simpa using this))
  obtain ⟨g2, cp2, rfl, hbg2, hg2, hcp2, hcm2, _⟩ := srow_cells HROW2.out hL1
  have HS2 : Hid (base ≤ w2.heap.size) := Nat.le_trans HBASE.out HBW.out.size
  clear HROW1 HOWN1 HB1 HB2 k0 k1
  go_wp2
  go_loopw [1, 9] (fun v i wr => Below base w wr ∧ KeepT 41 w2 wr ∧ ∃ (k : Nat) (o : Hs), k ≤ L.length ∧ i = .int .i64 k ∧ o.length ≤ 900 ∧ wr.ownsRow base 41 2 v o.length (hcells o) ∧ T = (L.drop k).foldl (fun o x => rangeOf nm x o) o) (fun _ i _ => L.length - (intOf i).toNat)
  case atStart => exact ⟨HBW.out.mono HBASE.out, KeepT.refl _ _, 0, out, Nat.zero_le _, rfl, hl, HO2.out, HT.out⟩
  case round =>
    obtain ⟨hB, hKT, k, o, hk, rfl, hol, hown, hr⟩ := hrel
    have HB := hid hB
    have HKT := hid hKT
    have HRR := hid hr
    have HS : Hid (base ≤ wr.heap.size) := Nat.le_trans HS2.out hKT.size
    clear hr hB hKT
    obtain ⟨oa, cp3, rfl⟩ := row_shape hown
    have HOWN2 := hid hown
    clear hown
    by_cases hlt : k < L.length
    · obtain ⟨y, hy⟩ : ∃ y, y = mkB L[k] := ⟨_, rfl⟩
      have cy : wr.cell? ⟨g2, k, none⟩ = some (.string y) := by
        have := (ownsRow_keepT HROW2.out (by decide) HKT.out).cells (g := g2) rfl k (.string y) (by rw [List.getElem?_map, List.getElem?_eq_getElem hlt, hy]; rfl)
        rw [Go.WideShapes.add_plain, Nat.zero_add] at this
        exact this
      have cn : wr.cell? ⟨g, 0, none⟩ = some (.string nm) := by
        have := (ownsRow_keepT HR1.out (by decide) HKT.out).cells (g := g) rfl 0 (.string nm) rfl
        rw [Go.WideShapes.add_plain, Nat.zero_add] at this
        exact this
      have hys : y.size ≤ maxLen := by
        rw [hy, mkB_size]
        exact Nat.le_trans (HLS.out _ (List.getElem_mem hlt)) hs
      have HCR : Hid (∀ W, W.ownsRow base 41 2 (.slice oa o.length cp3) o.length (hcells o) → base ≤ W.heap.size → Calls Tryd.prog 39 #[.string nm, .string y, .slice oa o.length cp3] W fun e w' => HostsOut base W (rangeOf nm L[k] o) e w') := fun W h1 h2 => by
        have h := range_core nm y (.slice oa o.length cp3) o base W hys (by omega) h2 h1
        rw [hy, mkB_list] at h
        rw [hy]
        exact h
      have HY := hid hy
      have hgw : g < wr.heap.size := World.block_lt_of_cell? wr _ cn
      have hgw2 : g2 < wr.heap.size := World.block_lt_of_cell? wr _ cy
      have hki : (0 : Int) ≤ (k : Int) := by omega
      have hki2 : (k : Int) < (L.length : Int) := by omega
      have HLEN := hid (rangeOf_len nm L[k] o)
      have HNEXT : Hid (T = (L.drop (k + 1)).foldl (fun o x => rangeOf nm x o) (rangeOf nm L[k] o)) := by
        show T = _
        rw [HRR.out, List.drop_eq_getElem_cons hlt, List.foldl_cons]
      obtain ⟨o2, ho2⟩ : ∃ o2, o2 = rangeOf nm L[k] o := ⟨_, rfl⟩
      rw [← ho2] at HCR HLEN HNEXT
      clear hy ho2
      go_wp2_with fail
      go_region_held3 (fun w' => w'.cell? ⟨g, 0, none⟩ = some (.string nm) ∧ w'.cell? ⟨g2, k, none⟩ = some (.string y)) (go_keep)
        ((go_at_call 39; refine (HCR.out _ (row_ownBelow HOWN2.out (below_drew1 wr)) HS.out).mono ?_; rintro e w3 ⟨v3, rfl, hrow3, hb3, hk3⟩; have HROW3 := hid hrow3; have HB3 := hid hb3; have HK3 := hid hk3; have k0 : w3.cell? ⟨g, 0, none⟩ = some (.string nm) := (by have := (ownsRow_keepT HR1.out (by decide) (HKT.out.trans ((KeepT.below (below_drew1 wr)).trans hk3))).cells (g := g) rfl 0 (.string nm) rfl; rw [Go.WideShapes.add_plain, Nat.zero_add] at this; exact this); have k1 : w3.cell? ⟨g2, k, none⟩ = some (.string y) := (by have := (ownsRow_keepT HROW2.out (by decide) (HKT.out.trans ((KeepT.below (below_drew1 wr)).trans hk3))).cells (g := g2) rfl k (.string y) (by rw [List.getElem?_map, List.getElem?_eq_getElem hlt, HY.out]; rfl); rw [Go.WideShapes.add_plain, Nat.zero_add] at this; exact this); clear hrow3 hb3 hk3))
      go_wp2
      go_roundw
      case rel => exact ⟨HB.out.trans (((below_drew1 wr).mono HS.out).trans HB3.out), HKT.out.trans ((KeepT.below (below_drew1 wr)).trans HK3.out), k + 1, o2, by omega, by go_num, by have := HLEN.out; omega, HROW3.out, HNEXT.out⟩
      case measure => simp [intOf]; omega
    · have HE : Hid (T = o) := by
        show T = o
        rw [HRR.out, List.drop_of_length_le (by omega)]; rfl
      go_wp2
      refine bodyPost_ret (v := _) (by simp [results, Tryd.results18, go_sem]; rfl) rfl ?_
      exact ⟨_, rfl, by rw [HE.out]; exact HOWN2.out, HB.out, (KeepT.below HBW.out).trans HKT.out⟩

theorem part_any (s : ByteArray) (v : Value) (out : Hs) (base : Nat) (w : World) (hs : s.size ≤ maxLen) (hl : out.length ≤ 900) (hbase : base ≤ w.heap.size) (hown : w.ownsRow base 41 2 v out.length (hcells out)) :
    Calls Tryd.prog 18 #[.string s, v] w fun e w' => HostsOut base w (partL s.data.toList out) e w' := by
  unfold partL
  split
  · rename_i a c r tl ha
    have htl : tl = [] := by
      rcases cut1_cases 91 [] s.data.toList with ⟨a', h'⟩ | ⟨a', c', h'⟩
      · rw [h'] at ha; simp at ha
      · rw [h'] at ha; simp at ha; exact ha.2.2
    subst htl
    exact part_many s v out base w hs hl hbase hown a r c ha
  · rename_i hno
    exact part_one s v out base w hs hl hbase hown (fun a c r e => hno a c r [] e)

end Go.Proofs.YtahhjhhnjpbocabDoor
