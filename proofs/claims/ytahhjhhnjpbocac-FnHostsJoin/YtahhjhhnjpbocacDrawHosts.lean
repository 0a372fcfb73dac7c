/- DERIVED. The walks of what draws lists of hosts: l15Hosts, DrawHostsOpen. -/
import Derived.Test.YtahhjhhnjpbocacJoinSpec
import Derived.Test.YtahhjhhnjpbocacDrawHost2
namespace Go.Proofs.Ytahhjhhnjpbocac
open Go.RowKit

/-- A list of hosts, each ok, not too many. -/
def okO (o : Hs) : Prop := o.length ≤ 30 ∧ ∀ h ∈ o, okB h.1 h.2 = true

theorem okO_join (A B : Hs) : okO (joinH A B) := by
  unfold joinH
  split
  · rename_i h
    refine ⟨h.2.2, fun x hx => ?_⟩
    rcases merge_mem _ _ _ _ hx with h1 | h1
    · obtain ⟨i, hi, e⟩ := List.getElem_of_mem h1
      have := (okH_each A h.1).2 i hi
      rw [← e, sof_at A i hi]; exact this
    · obtain ⟨i, hi, e⟩ := List.getElem_of_mem h1
      have := (okH_each B h.2.1).2 i hi
      rw [← e, sof_at B i hi]; exact this
  · exact ⟨by simp, by simp⟩

theorem okO_names {o : Hs} (h : okO o) : ∀ x ∈ o, x.1.size ≤ 400 := fun x hx => by
  have := (okB_num (h.2 x hx)).1
  omega

theorem InRow.keeps {w w' : World} {R : Nat} {v : Value} {o : Hs} (h : InRow w v o) (hk : Keeps R w w') (hne : ∀ g, v.ownBlock = some g → g ≠ R) : InRow w' v o := by
  obtain ⟨oa, cp, rfl, h1, h2, h3⟩ := h
  refine ⟨oa, cp, rfl, h1, h2, ?_⟩
  rcases h3 with h3 | ⟨g, off, rfl, Rw⟩
  · exact Or.inl h3
  · have hg := hne g rfl
    exact Or.inr ⟨g, off, rfl, ⟨Nat.lt_of_lt_of_le Rw.old hk.size, fun i hi => by rw [hk.cell _ _ Rw.old hg]; exact Rw.name i hi, fun i hi => by rw [hk.cell _ _ Rw.old hg]; exact Rw.num i hi, Rw.small⟩⟩

theorem Drawn.below {R : Nat} {oa : Option Addr} {len cap q : Nat} {w w1 w2 : World} (h : Drawn R oa len cap q w w1) (hb : Below w1.heap.size w1 w2) : Drawn R oa len cap q w w2 :=
  ⟨h.1.keep hb, h.2.trans (Keeps.of_below hb h.1.old)⟩

theorem Drawn.trans {R : Nat} {oa : Option Addr} {len cap q q' : Nat} {w w1 w2 : World} (h : Drawn R oa len cap q w w1) (k : Drawn R oa len cap q' w1 w2) : Drawn R oa len cap q' w w2 :=
  ⟨k.1, h.2.trans k.2⟩

/-- One host in a block of its own. -/
theorem InRow.one (w : World) (s : ByteArray) (z : Int) (hs : s.size ≤ maxLen) : InRow (w.alloc (.cells #[.string s, .int .i64 z] 29)) (.slice (some ⟨w.heap.size, 0, none⟩) 1 1) [(s, z)] := by
  refine ⟨_, 1, rfl, Nat.le_refl _, by decide, Or.inr ⟨w.heap.size, 0, rfl, ?_⟩⟩
  constructor
  · simp
  · intro i hi
    have : i = 0 := by simp at hi; exact hi
    subst this
    simp [Sof]
  · intro i hi
    have : i = 0 := by simp at hi; exact hi
    subst this
    simp [Mof]
  · intro i hi
    have : i = 0 := by simp at hi; exact hi
    subst this
    simpa [Sof] using hs

theorem own_ne {w : World} {base R : Nat} {e : TypeId} {size n : Nat} {v : Value} {xs : List Value} (h : w.ownsRow base e size v n xs) (hR : R < base) : ∀ g, v.ownBlock = some g → g ≠ R := fun g hg => by
  have := (h.lt g hg).1
  omega

theorem row_keeps {w w' : World} {base R : Nat} {e : TypeId} {size n : Nat} {v : Value} {xs : List Value} (h : w.ownsRow base e size v n xs) (hk : Keeps R w w') (hR : R < base) : w'.ownsRow base e size v n xs := by
  refine ⟨h.1, ?_⟩
  rcases h.2 with h0 | ⟨g, cap, cur, e1, e2, h3, e3⟩
  · exact Or.inl h0
  · exact Or.inr ⟨g, cap, cur, e1, e2, by rw [hk.block g (Array.getElem?_eq_some_iff.1 h3).1 (by omega)]; exact h3, e3⟩

theorem row_base {w : World} {base b' : Nat} {e : TypeId} {size n : Nat} {v : Value} {xs : List Value} (h : w.ownsRow b' e size v n xs) (hb : base ≤ b') : w.ownsRow base e size v n xs := by
  refine ⟨h.1, ?_⟩
  rcases h.2 with h0 | ⟨g, cap, cur, e1, e2, h3⟩
  · exact Or.inl h0
  · exact Or.inr ⟨g, cap, cur, e1, Nat.le_trans hb e2, h3⟩

set_option maxRecDepth 100000 in
set_option maxHeartbeats 1600000 in
theorem hosts_any (R : Nat) (oa : Option Addr) (len cap p : Nat) (w : World) (h : RdAt w R oa len cap p) (hp : p ≤ 100000) :
    Calls Try.prog 18 #[.pointer (some ⟨R, 0, none⟩)] w fun e w' => (∃ v o, e = .returned v ∧ w'.ownsRow w.heap.size 29 2 v o.length (hcells o) ∧ okO o) ∧ (∃ q, q ≤ p + 1000 ∧ Drawn R oa len cap q w w') := by
  have HR := hid h
  have hRo := h.old
  clear h
  go_enter Try.func18, Try.ntmps18
  go_wp2_with fail
  refine (one_any R _ 6 0 14 oa len cap p _ ?_ (by omega) (by decide) (by decide) ?_ ?_ ?_).mono ?_
  · exact HR.out.keep (((Below.refl _ _).alloc (Nat.le_refl _) _).alloc (by simp) _)
  · simp
  · simp; omega
  · refine ints_new _ _ _ _ 6 0 14 (by simp) (by rfl) ?_
    intro v hv
    simp at hv
    rcases hv with rfl | rfl | rfl | rfl | rfl | rfl <;> simp [intOk]
  rintro e w1 ⟨⟨x, rfl, hx0, hx1⟩, hd⟩
  obtain ⟨m0, rfl⟩ : ∃ m : Nat, x = (m : Int) := ⟨x.toNat, by omega⟩
  have hm0 : m0 ≤ 14 := by omega
  have HD1 : Hid (Drawn R oa len cap (p + 1) w w1) := ⟨hd.1, (Keeps.of_below (((Below.refl _ _).alloc (Nat.le_refl _) _).alloc (by simp) _) hRo).trans hd.2⟩
  have HRW1 : Hid (w1.ownsRow w.heap.size 29 2 (.slice (some ⟨w.heap.size, 0, none⟩) 0 0) 0 []) := row_keeps ((World.ownsRow_made w #[] 0 (Nat.le_refl _) (by decide) rfl).alloc _) hd.2 hRo
  clear hd hx0 hx1
  go_wp2
  go_loopw [3, 4] (fun v n wr => ∃ (m q : Nat) (o : Hs), n = .int .i64 (m : Int) ∧ m ≤ 14 ∧ q + 20 * m ≤ p + 1 + 280 ∧ wr.ownsRow w.heap.size 29 2 v o.length (hcells o) ∧ okO o ∧ Drawn R oa len cap q w wr) (fun _ n _ => (intOf n).toNat)
  case atStart =>
    exact ⟨m0, p + 1, [], rfl, hm0, by omega, HRW1.out, ⟨by simp, by simp⟩, HD1.out⟩
  case round =>
    obtain ⟨m, q, o, rfl, hm, hq, hrow, hok, hd⟩ := hrel
    have HRW := hid hrow
    have HOK := hid hok
    have HD := hid hd
    obtain ⟨ov, cv, rfl⟩ := row_shape hrow
    clear hok hd hrow
    by_cases hm0' : m = 0
    · subst hm0'
      go_wp2
      refine bodyPost_ret (v := .slice ov o.length cv) (by simp [results, Try.results18, go_sem]) rfl ?_
      exact ⟨⟨_, o, rfl, HRW.out, HOK.out⟩, q, by omega, HD.out⟩
    · have hmI : (0 : Int) < (m : Int) := by omega
      obtain ⟨m', rfl⟩ : ∃ m', m = m' + 1 := ⟨m - 1, by omega⟩
      go_wp2_with fail
      refine (host_any R oa len cap q _ HD.out.1 (by omega)).mono ?_
      rintro e w2 ⟨⟨s, z, rfl, hs, hz0, hz9⟩, hd2⟩
      have HD2 : Hid (Drawn R oa len cap (q + 3) w w2) := HD.out.trans hd2
      have HIN2 : Hid (InRow w2 (.slice ov o.length cv) o) := InRow.own (row_keeps HRW.out hd2.2 hRo) (okO_names HOK.out)
      have HZ2 : Hid (w.heap.size ≤ w2.heap.size) := Nat.le_trans HD.out.2.size hd2.2.size
      have HRw : Hid (R < w2.heap.size) := hd2.1.old
      clear hd2
      have hal : Below w2.heap.size w2 (w2.alloc (.cells #[.string s, .int .i64 z] 29)) := (Below.refl _ _).alloc (Nat.le_refl _) _
      have HAL := hid hal
      clear hal
      have CJ := hid (join_spec (.slice ov o.length cv) (.slice (some ⟨w2.heap.size, 0, none⟩) 1 1) o [(s, z)] _ (HIN2.out.below HAL.out) (InRow.one w2 s z (by unfold maxLen; omega)))
      obtain ⟨o2, ho2⟩ : ∃ o2, o2 = joinH o [(s, z)] := ⟨_, rfl⟩
      have hok2 := okO_join o [(s, z)]
      rw [← ho2] at CJ hok2
      have HOK2 := hid hok2
      clear hok2 ho2
      go_wp2_with fail
      refine CJ.out.mono ?_
      rintro e w3 ⟨v3, rfl, hrow3, hb3⟩
      have HRW3 := hid (row_base hrow3 (by have := HZ2.out; simp; omega : w.heap.size ≤ _))
      have HD3 : Hid (Drawn R oa len cap (q + 3) w w3) := (HD2.out.below HAL.out).below hb3
      obtain ⟨ov3, cv3, rfl⟩ := row_shape hrow3
      clear hrow3 hb3 CJ HAL
      go_wp2_with fail
      refine (pick_any R oa len cap (q + 3) 3 _ HD3.out.1 (by omega) (by decide)).mono ?_
      rintro e w4 ⟨⟨y, rfl, hy0, hy1⟩, hd4⟩
      have HD4 : Hid (Drawn R oa len cap (q + 4) w w4) := HD3.out.trans hd4
      have HRW4 := hid (row_keeps HRW3.out hd4.2 hRo)
      have HIN4 : Hid (InRow w4 (.slice ov3 o2.length cv3) o2) := InRow.own HRW4.out (okO_names HOK2.out)
      have HZ4 : Hid (w.heap.size ≤ w4.heap.size) := Nat.le_trans HD3.out.2.size hd4.2.size
      have HRw4 : Hid (R < w4.heap.size) := hd4.1.old
      clear hd4
      by_cases hy : y = 0
      · subst hy
        by_cases hl : o2.length = 0
        · have hlI : ¬ (0 : Int) < (o2.length : Int) := by omega
          clear hl
          go_wp2
          go_roundw
          case rel => exact ⟨m', q + 4, o2, by go_num, by omega, by omega, HRW4.out, HOK2.out, HD4.out⟩
          case measure => first | (simp [intOf]; done) | (simp [intOf]; omega)
        · obtain ⟨j, hj⟩ : ∃ j, o2.length = j + 1 := ⟨o2.length - 1, by omega⟩
          have hjl : j < o2.length := by omega
          obtain ⟨ov', cv', e', _, _, h3⟩ := HIN4.out
          injection e' with e1 e2 e3
          subst e1
          subst e3
          clear e2
          rcases h3 with h3 | ⟨g, off, rfl, Rw⟩
          · exact absurd h3 hl
          · have c0 := Rw.name j hjl
            have c1 := Rw.num j hjl
            have hgw := Rw.old
            have hsm : (Sof o2 j).size ≤ 400 ∧ 0 ≤ Mof o2 j ∧ Mof o2 j ≤ 999 := by
              have := okB_num (HOK2.out.2 o2[j] (List.getElem_mem hjl))
              rw [sof_at o2 j hjl] at this
              exact ⟨by have := this.1; dsimp only at this; omega, this.2⟩
            have hsub : (o2.length : Int) - 1 = (j : Int) := by omega
            have hwr : IntKind.i64.wrap (j : Int) = (j : Int) := by rw [IntKind.wrap_i64]; have := HOK2.out.1; omega
            have hjI : (j : Int) < (o2.length : Int) := by omega
            have hj0 : (0 : Int) ≤ (j : Int) := by omega
            have hlI : (0 : Int) < (o2.length : Int) := by omega
            have HJ := hid hj
            clear Rw hj hl
            by_cases h999 : Mof o2 j < 999
            · have hM1 : IntKind.i64.wrap (Mof o2 j + 1) = Mof o2 j + 1 := by rw [IntKind.wrap_i64]; omega
              go_wp2_with fail
              have hX1 : Below w4.heap.size w4 ((w4.alloc (.cells #[.string (Sof o2 j), .int .i64 (Mof o2 j + 1)] 29)).alloc (.cells #[.string (Sof o2 j), .int .i64 (Mof o2 j + 1)] 29)) := ((Below.refl _ _).alloc (Nat.le_refl _) _).alloc (by simp) _
              have hI2 := InRow.one (w4.alloc (.cells #[.string (Sof o2 j), .int .i64 (Mof o2 j + 1)] 29)) (Sof o2 j) (Mof o2 j + 1) (by unfold maxLen; omega)
              rw [World.size_alloc] at hI2
              refine (join_spec _ _ o2 [(Sof o2 j, Mof o2 j + 1)] _ (HIN4.out.below hX1) hI2).mono ?_
              rintro e w6 ⟨v6, rfl, hrow6, hb6⟩
              have hok6 := okO_join o2 [(Sof o2 j, Mof o2 j + 1)]
              obtain ⟨o6, ho6⟩ : ∃ o6, o6 = joinH o2 [(Sof o2 j, Mof o2 j + 1)] := ⟨_, rfl⟩
              rw [← ho6] at hrow6 hok6
              have HRW6 := hid (row_base hrow6 (Nat.le_trans HZ4.out hX1.size : w.heap.size ≤ _))
              have HOK6 := hid hok6
              have HD6 : Hid (Drawn R oa len cap (q + 4) w w6) := (HD4.out.below hX1).below hb6
              clear hrow6 hok6 hb6 ho6 hI2 hX1
              go_wp2
              go_roundw
              case rel => exact ⟨m', q + 4, o6, by go_num, by omega, by omega, HRW6.out, HOK6.out, HD6.out⟩
              case measure => first | (simp [intOf]; done) | (simp [intOf]; omega)
            · go_wp2
              go_roundw
              case rel => exact ⟨m', q + 4, o2, by go_num, by omega, by omega, HRW4.out, HOK2.out, HD4.out⟩
              case measure => first | (simp [intOf]; done) | (simp [intOf]; omega)
      · have hyb : (y == 0) = false := by rw [beq_eq_false_iff_ne]; exact hy
        go_wp2
        go_roundw
        case rel => exact ⟨m', q + 4, o2, by go_num, by omega, by omega, HRW4.out, HOK2.out, HD4.out⟩
        case measure => first | (simp [intOf]; done) | (simp [intOf]; omega)

theorem okO_each {o : Hs} (h : okO o) (i : Nat) (hi : i < o.length) : (Sof o i).size ≤ 6 ∧ 0 ≤ Mof o i ∧ Mof o i ≤ 999 := by
  have := okB_num (h.2 o[i] (List.getElem_mem hi))
  rw [sof_at o i hi] at this
  exact this

end Go.Proofs.Ytahhjhhnjpbocac
