/- DERIVED. The walks of what draws lists of hosts: l15Hosts, DrawHostsOpen. -/
import Derived.Test.YtahhjhhnjpbocabDoorJoinSpec
import Derived.Test.YtahhjhhnjpbocabDoorBent
namespace Go.Proofs.YtahhjhhnjpbocabDoor
open Go.RowKit

/-- A list of hosts, each ok, not too many. -/
def okO (o : Hs) : Prop := o.length ≤ 30 ∧ ∀ h ∈ o, okB h.1 h.2 = true

theorem okO_join (A B : Hs) : okO (joinH A B) := by
  unfold joinH
  split
  · rename_i h
    refine ⟨h.2.2, fun x hx => ?_⟩
    rcases merge_mem _ _ _ _ hx with h1 | h1
    · obtain ⟨i, hi, e⟩ := List.getElem_of_mem h1
      have := (okH_each A h.1).2 i hi
      rw [← e, sof_at A i hi]; exact this
    · obtain ⟨i, hi, e⟩ := List.getElem_of_mem h1
      have := (okH_each B h.2.1).2 i hi
      rw [← e, sof_at B i hi]; exact this
  · exact ⟨by simp, by simp⟩

theorem okO_names {o : Hs} (h : okO o) : ∀ x ∈ o, x.1.size ≤ 400 := fun x hx => by
  have := (okB_num (h.2 x hx)).1
  omega

theorem InRow.keeps {w w' : World} {R : Nat} {v : Value} {o : Hs} (h : InRow w v o) (hk : Keeps R w w') (hne : ∀ g, v.ownBlock = some g → g ≠ R) : InRow w' v o := by
  obtain ⟨oa, cp, rfl, h1, h2, h3⟩ := h
  refine ⟨oa, cp, rfl, h1, h2, ?_⟩
  rcases h3 with h3 | ⟨g, off, rfl, Rw⟩
  · exact Or.inl h3
  · have hg := hne g rfl
    exact Or.inr ⟨g, off, rfl, ⟨Nat.lt_of_lt_of_le Rw.old hk.size, fun i hi => by rw [hk.cell _ _ Rw.old hg]; exact Rw.name i hi, fun i hi => by rw [hk.cell _ _ Rw.old hg]; exact Rw.num i hi, Rw.small⟩⟩

theorem Drawn.below {R : Nat} {oa : Option Addr} {len cap q : Nat} {w w1 w2 : World} (h : Drawn R oa len cap q w w1) (hb : Below w1.heap.size w1 w2) : Drawn R oa len cap q w w2 :=
  ⟨h.1.keep hb, h.2.trans (Keeps.of_below hb h.1.old)⟩

theorem Drawn.trans {R : Nat} {oa : Option Addr} {len cap q q' : Nat} {w w1 w2 : World} (h : Drawn R oa len cap q w w1) (k : Drawn R oa len cap q' w1 w2) : Drawn R oa len cap q' w w2 :=
  ⟨k.1, h.2.trans k.2⟩

/-- One host in a block of its own. -/
theorem InRow.one (w : World) (s : ByteArray) (z : Int) (hs : s.size ≤ maxLen) : InRow (w.alloc (.cells #[.string s, .int .i64 z] 41)) (.slice (some ⟨w.heap.size, 0, none⟩) 1 1) [(s, z)] := by
  refine ⟨_, 1, rfl, Nat.le_refl _, by decide, Or.inr ⟨w.heap.size, 0, rfl, ?_⟩⟩
  constructor
  · simp
  · intro i hi
    have : i = 0 := by simp at hi; exact hi
    subst this
    simp [Sof]
  · intro i hi
    have : i = 0 := by simp at hi; exact hi
    subst this
    simp [Mof]
  · intro i hi
    have : i = 0 := by simp at hi; exact hi
    subst this
    simpa [Sof] using hs

theorem own_ne {w : World} {base R : Nat} {e : TypeId} {size n : Nat} {v : Value} {xs : List Value} (h : w.ownsRow base e size v n xs) (hR : R < base) : ∀ g, v.ownBlock = some g → g ≠ R := fun g hg => by
  have := (h.lt g hg).1
  omega

set_option maxRecDepth 100000 in
set_option maxHeartbeats 1600000 in
theorem hosts_any (R : Nat) (oa : Option Addr) (len cap p : Nat) (w : World) (h : RdAt w R oa len cap p) (hp : p ≤ 1000) :
    Calls Tryd.prog 15 #[.pointer (some ⟨R, 0, none⟩)] w fun e w' => (∃ v o, e = .returned v ∧ InRow w' v o ∧ okO o) ∧ (∃ q, q ≤ 2000 ∧ Drawn R oa len cap q w w') := by
  have HR := hid h
  have hRo := h.old
  clear h
  go_enter Tryd.func15, Tryd.ntmps15
  go_wp2_with fail
  refine (one_any R _ 6 0 14 oa len cap p _ ?_ (by omega) (by decide) (by decide) ?_ ?_ ?_).mono ?_
  · exact HR.out.keep (((Below.refl _ _).alloc (Nat.le_refl _) _).alloc (by simp) _)
  · simp
  · simp; omega
  · refine ints_new _ _ _ _ 6 0 14 (by simp) (by rfl) ?_
    intro v hv
    simp at hv
    rcases hv with rfl | rfl | rfl | rfl | rfl | rfl <;> simp [intOk]
  rintro e w1 ⟨⟨x, rfl, hx0, hx1⟩, hd⟩
  obtain ⟨m0, rfl⟩ : ∃ m : Nat, x = (m : Int) := ⟨x.toNat, by omega⟩
  have hm0 : m0 ≤ 14 := by omega
  have HD1 : Hid (Drawn R oa len cap (p + 1) w w1) := ⟨hd.1, (Keeps.of_below (((Below.refl _ _).alloc (Nat.le_refl _) _).alloc (by simp) _) hRo).trans hd.2⟩
  clear hd hx0 hx1
  go_wp2
  go_loopw [3, 4] (fun v n wr => ∃ (m q : Nat) (o : Hs), n = .int .i64 (m : Int) ∧ m ≤ 14 ∧ q + 20 * m ≤ p + 1 + 280 ∧ InRow wr v o ∧ okO o ∧ (∀ g, v.ownBlock = some g → g ≠ R) ∧ Drawn R oa len cap q w wr) (fun _ n _ => (intOf n).toNat)
  case atStart =>
    refine ⟨m0, p + 1, [], rfl, hm0, by omega, ⟨_, 0, rfl, Nat.le_refl _, Nat.zero_le _, Or.inl rfl⟩, ⟨by simp, by simp⟩, ?_, HD1.out⟩
    intro g hg
    simp [Value.ownBlock] at hg
    omega
  case round =>
    obtain ⟨m, q, o, rfl, hm, hq, hin, hok, hne, hd⟩ := hrel
    have HIN := hid hin
    have HOK := hid hok
    have HNE := hid hne
    have HD := hid hd
    obtain ⟨ov, cv, rfl, _⟩ := hin
    clear hok hne hd
    by_cases hm0' : m = 0
    · subst hm0'
      go_wp2
      refine bodyPost_ret (v := .slice ov o.length cv) (by simp [results, Tryd.results15, go_sem]) rfl ?_
      exact ⟨⟨_, o, rfl, HIN.out, HOK.out⟩, q, by omega, HD.out⟩
    · have hmI : (0 : Int) < (m : Int) := by omega
      obtain ⟨m', rfl⟩ : ∃ m', m = m' + 1 := ⟨m - 1, by omega⟩
      go_wp2_with fail
      refine (host_any R oa len cap q _ HD.out.1 (by omega)).mono ?_
      rintro e w2 ⟨⟨s, z, rfl, hs, hz0, hz9⟩, hd2⟩
      have HD2 : Hid (Drawn R oa len cap (q + 3) w w2) := HD.out.trans hd2
      have HIN2 : Hid (InRow w2 (.slice ov o.length cv) o) := HIN.out.keeps hd2.2 HNE.out
      have HRw : Hid (R < w2.heap.size) := hd2.1.old
      clear hd2
      have hal : Below w2.heap.size w2 (w2.alloc (.cells #[.string s, .int .i64 z] 41)) := (Below.refl _ _).alloc (Nat.le_refl _) _
      have HAL := hid hal
      clear hal
      have CJ := hid (join_spec (.slice ov o.length cv) (.slice (some ⟨w2.heap.size, 0, none⟩) 1 1) o [(s, z)] _ (HIN2.out.below HAL.out) (InRow.one w2 s z (by unfold maxLen; omega)))
      obtain ⟨o2, ho2⟩ : ∃ o2, o2 = joinH o [(s, z)] := ⟨_, rfl⟩
      have hok2 := okO_join o [(s, z)]
      rw [← ho2] at CJ hok2
      have HOK2 := hid hok2
      clear hok2 ho2
      go_wp2_with fail
      refine CJ.out.mono ?_
      rintro e w3 ⟨v3, rfl, hrow3, hb3⟩
      have HNE3 := hid (own_ne hrow3 (by simp; exact Nat.lt_succ_of_lt HRw.out))
      have HIN3 := hid (InRow.own hrow3 (okO_names HOK2.out))
      have HD3 : Hid (Drawn R oa len cap (q + 3) w w3) := (HD2.out.below HAL.out).below hb3
      obtain ⟨ov3, cv3, rfl⟩ := row_shape hrow3
      clear hrow3 hb3 CJ HAL
      go_wp2_with fail
      refine (pick_any R oa len cap (q + 3) 3 _ HD3.out.1 (by omega) (by decide)).mono ?_
      rintro e w4 ⟨⟨y, rfl, hy0, hy1⟩, hd4⟩
      have HD4 : Hid (Drawn R oa len cap (q + 4) w w4) := HD3.out.trans hd4
      have HIN4 : Hid (InRow w4 (.slice ov3 o2.length cv3) o2) := HIN3.out.keeps hd4.2 HNE3.out
      have HRw4 : Hid (R < w4.heap.size) := hd4.1.old
      clear hd4
      by_cases hy : y = 0
      · subst hy
        by_cases hl : o2.length = 0
        · have hlI : ¬ (0 : Int) < (o2.length : Int) := by omega
          clear hl
          go_wp2
          go_roundw
          case rel => exact ⟨m', q + 4, o2, by go_num, by omega, by omega, HIN4.out, HOK2.out, HNE3.out, HD4.out⟩
          case measure => first | (simp [intOf]; done) | (simp [intOf]; omega)
        · obtain ⟨j, hj⟩ : ∃ j, o2.length = j + 1 := ⟨o2.length - 1, by omega⟩
          have hjl : j < o2.length := by omega
          obtain ⟨ov', cv', e', _, _, h3⟩ := HIN4.out
          injection e' with e1 e2 e3
          subst e1
          subst e3
          clear e2
          rcases h3 with h3 | ⟨g, off, rfl, Rw⟩
          · exact absurd h3 hl
          · have c0 := Rw.name j hjl
            have c1 := Rw.num j hjl
            have hgw := Rw.old
            have hsm : (Sof o2 j).size ≤ 400 ∧ 0 ≤ Mof o2 j ∧ Mof o2 j ≤ 999 := by
              have := okB_num (HOK2.out.2 o2[j] (List.getElem_mem hjl))
              rw [sof_at o2 j hjl] at this
              exact ⟨by have := this.1; dsimp only at this; omega, this.2⟩
            have hsub : (o2.length : Int) - 1 = (j : Int) := by omega
            have hwr : IntKind.i64.wrap (j : Int) = (j : Int) := by rw [IntKind.wrap_i64]; have := HOK2.out.1; omega
            have hjI : (j : Int) < (o2.length : Int) := by omega
            have hj0 : (0 : Int) ≤ (j : Int) := by omega
            have hlI : (0 : Int) < (o2.length : Int) := by omega
            have HJ := hid hj
            clear Rw hj hl
            by_cases h999 : Mof o2 j < 999
            · have hM1 : IntKind.i64.wrap (Mof o2 j + 1) = Mof o2 j + 1 := by rw [IntKind.wrap_i64]; omega
              go_wp2_with fail
              have hX1 : Below w4.heap.size w4 ((w4.alloc (.cells #[.string (Sof o2 j), .int .i64 (Mof o2 j + 1)] 41)).alloc (.cells #[.string (Sof o2 j), .int .i64 (Mof o2 j + 1)] 41)) := ((Below.refl _ _).alloc (Nat.le_refl _) _).alloc (by simp) _
              have hI2 := InRow.one (w4.alloc (.cells #[.string (Sof o2 j), .int .i64 (Mof o2 j + 1)] 41)) (Sof o2 j) (Mof o2 j + 1) (by unfold maxLen; omega)
              rw [World.size_alloc] at hI2
              refine (join_spec _ _ o2 [(Sof o2 j, Mof o2 j + 1)] _ (HIN4.out.below hX1) hI2).mono ?_
              rintro e w6 ⟨v6, rfl, hrow6, hb6⟩
              have hok6 := okO_join o2 [(Sof o2 j, Mof o2 j + 1)]
              obtain ⟨o6, ho6⟩ : ∃ o6, o6 = joinH o2 [(Sof o2 j, Mof o2 j + 1)] := ⟨_, rfl⟩
              rw [← ho6] at hrow6 hok6
              have HNE6 := hid (own_ne hrow6 (Nat.lt_of_lt_of_le HRw4.out hX1.size))
              have HIN6 := hid (InRow.own hrow6 (okO_names hok6))
              have HOK6 := hid hok6
              have HD6 : Hid (Drawn R oa len cap (q + 4) w w6) := (HD4.out.below hX1).below hb6
              clear hrow6 hok6 hb6 ho6 hI2 hX1
              go_wp2
              go_roundw
              case rel => exact ⟨m', q + 4, o6, by go_num, by omega, by omega, HIN6.out, HOK6.out, HNE6.out, HD6.out⟩
              case measure => first | (simp [intOf]; done) | (simp [intOf]; omega)
            · go_wp2
              go_roundw
              case rel => exact ⟨m', q + 4, o2, by go_num, by omega, by omega, HIN4.out, HOK2.out, HNE3.out, HD4.out⟩
              case measure => first | (simp [intOf]; done) | (simp [intOf]; omega)
      · have hyb : (y == 0) = false := by rw [beq_eq_false_iff_ne]; exact hy
        go_wp2
        go_roundw
        case rel => exact ⟨m', q + 4, o2, by go_num, by omega, by omega, HIN4.out, HOK2.out, HNE3.out, HD4.out⟩
        case measure => first | (simp [intOf]; done) | (simp [intOf]; omega)

theorem okO_each {o : Hs} (h : okO o) (i : Nat) (hi : i < o.length) : (Sof o i).size ≤ 6 ∧ 0 ≤ Mof o i ∧ Mof o i ≤ 999 := by
  have := okB_num (h.2 o[i] (List.getElem_mem hi))
  rw [sof_at o i hi] at this
  exact this

/-- The model's fold of a list that was drawn. -/
theorem foldIn_any (v : Value) (o : Hs) (w : World) (h : InRow w v o) (hok : okO o) :
    Calls Tryd.prog 14 #[v] w fun e w' => e = .returned (.string (mkB (foldH o))) ∧ Below w.heap.size w w' := by
  obtain ⟨oa, cp, rfl, h1, h2, h3⟩ := h
  rcases h3 with h3 | ⟨g, off, rfl, R⟩
  · have e : mkB (foldH o) = ⟨#[]⟩ := by rw [List.eq_nil_of_length_eq_zero h3, foldH_nil]; rfl
    rw [h3, e]
    refine (fold_zero oa cp w).mono ?_
    rintro e w' ⟨rfl, rfl⟩
    exact ⟨rfl, Below.refl _ _⟩
  · exact fold_spec g off o.length cp (Sof o) (Mof o) w h1 h2 hok.1 R (fun i hi => (okO_each hok i hi).1) (fun i hi => (okO_each hok i hi).2)

theorem foldH_size (o : Hs) (hok : okO o) : (mkB (foldH o)).size ≤ 100000 := by
  rw [mkB_size]
  unfold foldH
  have := foldL_len (Sof o) (Mof o) 0 o.length (fun j _ h => (okO_each hok j h).1) (fun j _ h => (okO_each hok j h).2.2)
  have := hok.1
  omega

set_option maxRecDepth 100000 in
set_option maxHeartbeats 800000 in
theorem drawOpen_any (oa : Option Addr) (len cap : Nat) (w : World) (h : CodeAt w oa len) (hc : len ≤ cap) (hm : cap ≤ maxLen) :
    Calls Tryd.prog 4 #[.slice oa len cap] w fun e w' => (∃ t : ByteArray, e = .returned (.string t) ∧ t.size ≤ 200010) ∧ Below w.heap.size w w' := by
  have HC := hid h
  clear h
  go_enter Tryd.func4, Tryd.ntmps4
  go_wp2_with fail
  refine (open_any oa len cap _ HC.out hc hm).mono ?_
  rintro e w1 ⟨rfl, ⟨l, c, hrd⟩, hb1⟩
  have HRD := hid hrd
  have HB1 := hid hb1
  clear hrd hb1
  go_wp2_with fail
  refine (pick_any w.heap.size oa l c 0 8 _ HRD.out (by omega) (by decide)).mono ?_
  rintro e w2 ⟨⟨x, rfl, hx0, hx1⟩, hd2⟩
  have HD2 := hid hd2
  clear hd2
  by_cases hx : x = 0
  · subst hx
    go_wp2_with fail
    refine (of_any w.heap.size _ 12 20 oa l c 1 _ ?_ (by omega) (by decide) (by decide) ?_ ?_ ?_).mono ?_
    · exact HD2.out.1.keep ((Below.refl _ _).alloc (Nat.le_refl _) _)
    · simp
    · have := HD2.out.1.old; omega
    · exact strs_new _ _ _ 20 _ 12 (by simp) (by rfl) (by kernel_rfl)
    rintro e w3 ⟨⟨s, rfl, hs⟩, hd3⟩
    have HB3 : Hid (Below w.heap.size w w3) := hd3.2.below _ _ (Nat.le_refl _) ((HD2.out.2.below _ _ (Nat.le_refl _) HB1.out).alloc (by have := HD2.out.1.old; omega) _)
    clear hd3
    go_wp2
    go_ret
    exact ⟨⟨s, rfl, by omega⟩, HB3.out⟩
  · have hxb : (x == 0) = false := by rw [beq_eq_false_iff_ne]; exact hx
    go_wp2_with fail
    refine (hosts_any w.heap.size oa l c 1 _ HD2.out.1 (by omega)).mono ?_
    rintro e w3 ⟨⟨v, o, rfl, hin, hok⟩, q, hq, hd3⟩
    have HIN := hid hin
    have HOK := hid hok
    have HD3 := hid (Drawn.trans HD2.out hd3)
    obtain ⟨ov, cv, rfl, _⟩ := hin
    clear hok hd3
    go_wp2_with fail
    refine (foldIn_any _ o _ HIN.out HOK.out).mono ?_
    rintro e w4 ⟨rfl, hb4⟩
    have HD4 := hid (HD3.out.below hb4)
    have hz := foldH_size o HOK.out
    obtain ⟨z, hzz⟩ : ∃ z, z = mkB (foldH o) := ⟨_, rfl⟩
    rw [← hzz] at hz ⊢
    clear hb4 hzz
    go_wp2_with fail
    refine (bent_any w.heap.size oa l c q z _ HD4.out.1 (by omega) hz).mono ?_
    rintro e w5 ⟨⟨t, rfl, ht⟩, q5, hd5⟩
    have HB5 : Hid (Below w.heap.size w w5) := hd5.2.below _ _ (Nat.le_refl _) (HD4.out.2.below _ _ (Nat.le_refl _) HB1.out)
    clear hd5
    go_wp2
    go_ret
    exact ⟨⟨t, rfl, ht⟩, HB5.out⟩

end Go.Proofs.YtahhjhhnjpbocabDoor
