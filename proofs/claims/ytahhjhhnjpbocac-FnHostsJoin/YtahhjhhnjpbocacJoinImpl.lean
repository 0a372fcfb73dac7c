/- DERIVED. The walk of the program's HostsJoin. -/
import Derived.Test.YtahhjhhnjpbocacConcat
import Derived.Test.YtahhjhhnjpbocacCompact
import Derived.Test.YtahhjhhnjpbocacHsIn
import Derived.Deep.Onto
namespace Go.Proofs.Ytahhjhhnjpbocac
open Go.RowKit Go.Sort Go.Lib

set_option maxHeartbeats 600000 in
theorem compact_zero (oa : Option Addr) (cp : Nat) (w : World) :
    Calls Try.prog 14 #[.slice oa 0 cp] w fun e w' => e = .returned (.slice oa 0 cp) ∧ w' = w := by
  go_enter Try.func14, Try.ntmps14
  go_wp2
  go_ret
  exact ⟨rfl, rfl⟩

/-- Sorted. -/
theorem sort_any (v : Value) (base : Nat) (o : Hs) (w : World) (hl : o.length ≤ 100) (hb : base ≤ w.heap.size) (h : w.ownsRow base 29 2 v o.length (hcells o)) :
    Calls Try.prog 12 #[v, .func (.func 13) #[] #[]] w fun e w' =>
      e = .returned (.tuple #[]) ∧ ∃ o' : Hs, o'.Perm o ∧ (o'.Pairwise fun x y => lessH y x = false) ∧ w'.ownsRow base 29 2 v o'.length (hcells o') ∧ Below base w w' := by
  by_cases h0 : o.length = 0
  · have e0 : o = [] := List.eq_nil_of_length_eq_zero h0
    subst e0
    obtain ⟨oa, cp, rfl⟩ := row_shape h
    have hcon := AnyF.slices_SortFunc_none Go.Proofs.Try.lsort oa cp (.func (.func 13) #[] #[]) w
    refine Calls.mono (show Calls Try.prog 12 _ _ _ from hcon) ?_
    rintro e w' ⟨rfl, rfl⟩
    exact ⟨rfl, [], List.Perm.refl _, List.Pairwise.nil, h, Below.refl _ _⟩
  · obtain ⟨g, cp, rfl, hbg, _⟩ := srow_cells h (by omega)
    refine (sort_row base g cp o w hl h).mono ?_
    rintro e w' ⟨rfl, o', hlo, hp, hs, hr, hg⟩
    refine ⟨rfl, o', hp, hs, by rw [hlo] at hr ⊢; exact hr, (Below.refl _ _).grown hg hb (fun j hj => by injection hj with hj; omega)⟩

/-- Made compact. -/
theorem compact_any (v : Value) (base : Nat) (o : Hs) (w : World) (hl : o.length ≤ 100) (hb : base ≤ w.heap.size) (h : w.ownsRow base 29 2 v o.length (hcells o)) :
    Calls Try.prog 14 #[v] w fun e w' =>
      ∃ v', e = .returned v' ∧ w'.ownsRow base 29 2 v' (cmpct o).length (hcells (cmpct o)) ∧ Below base w w' := by
  by_cases h0 : o.length = 0
  · have e0 : o = [] := List.eq_nil_of_length_eq_zero h0
    subst e0
    obtain ⟨oa, cp, rfl⟩ := row_shape h
    refine (compact_zero oa cp w).mono ?_
    rintro e w' ⟨rfl, rfl⟩
    exact ⟨_, rfl, h, Below.refl _ _⟩
  · obtain ⟨g, cp, rfl, hbg, _⟩ := srow_cells h (by omega)
    refine (compact_row base g cp o w hl h).mono ?_
    rintro e w' ⟨rfl, hr, hg⟩
    exact ⟨_, rfl, hr, (Below.refl _ _).grown hg hb (fun j hj => by injection hj with hj; omega)⟩

set_option maxRecDepth 100000 in
set_option maxHeartbeats 1600000 in
theorem joinImpl_core (oa ob : Option Addr) (ca cb : Nat) (A B : Hs) (w : World) (hA : A.length ≤ 30) (hB : B.length ≤ 30) (hokA : okH A = true) (hokB : okH B = true) (h1 : InRow w (.slice oa A.length ca) A) (h2 : InRow w (.slice ob B.length cb) B) :
    Calls Try.prog 5 #[.slice oa A.length ca, .slice ob B.length cb] w fun e w' => ∃ v, e = .returned v ∧ w'.ownsRow w.heap.size 29 2 v (joinH A B).length (hcells (joinH A B)) ∧ Below w.heap.size w w' := by
  have CO : Hid (∀ W, InRow W (.slice oa A.length ca) A → Calls Try.prog 8 #[.slice oa A.length ca] W fun e w' => e = .returned (.bool true) ∧ Below W.heap.size W w') := fun W h => by rw [← hokA]; exact hostsOk_in _ A W h
  have CP : Hid (∀ W, InRow W (.slice ob B.length cb) B → Calls Try.prog 8 #[.slice ob B.length cb] W fun e w' => e = .returned (.bool true) ∧ Below W.heap.size W w') := fun W h => by rw [← hokB]; exact hostsOk_in _ B W h
  obtain ⟨J, hJ⟩ : ∃ J, J = joinH A B := ⟨_, rfl⟩
  have HJ : Hid (∀ l : Hs, l.Perm (A ++ B) → (l.Pairwise fun x y => lessH y x = false) → J = if (cmpct l).length ≤ 30 then cmpct l else []) := by
    intro l hp hs
    rw [hJ, joinH, ← compact_merge A B l hokA hokB hp hs]
    by_cases hc : (cmpct l).length ≤ 30
    · rw [if_pos ⟨hokA, hokB, hc⟩, if_pos hc]
    · rw [if_neg (fun c => hc c.2.2), if_neg hc]
  rw [← hJ]
  have H1 := hid h1
  have H2 := hid h2
  clear hJ hokA hokB h1 h2
  go_enter Try.func5, Try.ntmps5
  go_wp2_with fail
  refine (CO.out _ H1.out).mono ?_
  rintro e w1 ⟨rfl, hb1⟩
  have HB1 := hid hb1
  have H21 := hid (H2.out.below hb1)
  clear hb1
  go_wp2_with fail
  refine (CP.out _ H21.out).mono ?_
  rintro e w2 ⟨rfl, hb2⟩
  have HB2 : Hid (Below w.heap.size w w2) := HB1.out.trans (hb2.mono HB1.out.size)
  have HS1 : Hid (Src w2 oa A) := (src_of H1.out).below HB2.out
  have HS2 : Hid (Src w2 ob B) := (src_of H2.out).below HB2.out
  clear hb2 CO CP H1 H2 H21
  go_wp2_with fail
  have HAL : Hid (Below w2.heap.size w2 (w2.alloc (.cells #[.slice oa A.length ca, .slice ob B.length cb] 23))) := (Below.refl _ _).alloc (Nat.le_refl _) _
  refine (concat_any w2.heap.size ca cb oa ob A B _ hA hB (by simp) (by simp) (by simp) (HS1.out.below HAL.out) (HS2.out.below HAL.out)).mono ?_
  rintro e w3 ⟨v3, rfl, hr3, hb3⟩
  have HB3 : Hid (Below w.heap.size w w3) := (HB2.out.trans (HAL.out.mono HB2.out.size)).trans (hb3.mono (Nat.le_trans HB2.out.size HAL.out.size))
  have HR3 : Hid (w3.ownsRow w.heap.size 29 2 v3 (A ++ B).length (hcells (A ++ B))) := hr3.mono (Nat.le_trans HB2.out.size HAL.out.size)
  clear hr3 hb3
  go_wp2_with fail
  refine (sort_any v3 w.heap.size (A ++ B) _ (by simp; omega) HB3.out.size HR3.out).mono ?_
  rintro e w4 ⟨rfl, o4, hp4, hs4, hr4, hb4⟩
  have HB4 : Hid (Below w.heap.size w w4) := HB3.out.trans hb4
  have HR4 := hid hr4
  have HJ4 := hid (HJ.out o4 hp4 hs4)
  have hl4 : o4.length ≤ 60 := by rw [hp4.length_eq]; simp; omega
  clear hr4 hb4 hp4 hs4
  go_wp2_with fail
  refine (compact_any v3 w.heap.size o4 _ (by omega) HB4.out.size HR4.out).mono ?_
  rintro e w5 ⟨v5, rfl, hr5, hb5⟩
  have HB5 : Hid (Below w.heap.size w w5) := HB4.out.trans hb5
  obtain ⟨ov, cv, rfl⟩ := row_shape hr5
  have HR5 := hid hr5
  clear hr5 hb5
  obtain ⟨T, hT⟩ : ∃ T, T = cmpct o4 := ⟨_, rfl⟩
  rw [← hT] at HR5 HJ4 ⊢
  clear hT
  by_cases h30 : T.length ≤ 30
  · have h30' : ¬ (30 : Int) < (T.length : Int) := by omega
    have HJ2 : Hid (J = T) := by show J = T; rw [HJ4.out, if_pos h30]
    go_wp2
    refine bodyPost_ret (v := _) (by simp [results, Try.results5, go_sem]; rfl) rfl ?_
    exact ⟨_, rfl, by rw [HJ2.out]; exact HR5.out, HB5.out⟩
  · have h30' : (30 : Int) < (T.length : Int) := by omega
    have HJ2 : Hid (J = []) := by show J = []; rw [HJ4.out, if_neg h30]
    go_wp2
    refine bodyPost_ret (v := .slice none 0 0) (by simp [results, Try.results5, go_sem]) rfl ?_
    exact ⟨_, rfl, by rw [HJ2.out]; exact World.ownsRow_nil _ _ _ _, HB5.out⟩

set_option maxHeartbeats 600000 in
theorem join_impl (v1 v2 : Value) (A B : Hs) (w : World) (h1 : InRow w v1 A) (h2 : InRow w v2 B) :
    Calls Try.prog 5 #[v1, v2] w fun e w' => ∃ v, e = .returned v ∧ w'.ownsRow w.heap.size 29 2 v (joinH A B).length (hcells (joinH A B)) ∧ Below w.heap.size w w' := by
  obtain ⟨oa, ca, rfl, ha⟩ := h1
  obtain ⟨ob, cb, rfl, hb⟩ := h2
  have h1 : InRow w (.slice oa A.length ca) A := ⟨oa, ca, rfl, ha⟩
  have h2 : InRow w (.slice ob B.length cb) B := ⟨ob, cb, rfl, hb⟩
  clear ha hb
  cases hokA : okH A
  · have HJ : Hid (joinH A B = []) := by show joinH A B = []; unfold joinH; rw [if_neg (fun c => by rw [hokA] at c; exact absurd c.1 (by decide))]
    have CO : Hid (Calls Try.prog 8 #[.slice oa A.length ca] w fun e w' => e = .returned (.bool false) ∧ Below w.heap.size w w') := by rw [← hokA]; exact hostsOk_in _ A w h1
    clear hokA h1 h2
    go_enter Try.func5, Try.ntmps5
    go_wp2_with fail
    refine CO.out.mono ?_
    rintro e w1 ⟨rfl, hb1⟩
    have HB1 := hid hb1
    clear hb1
    go_wp2
    refine bodyPost_ret (v := .slice none 0 0) (by simp [results, Try.results5, go_sem]) rfl ?_
    exact ⟨_, rfl, by rw [HJ.out]; exact World.ownsRow_nil _ _ _ _, HB1.out⟩
  · cases hokB : okH B
    · have HJ : Hid (joinH A B = []) := by show joinH A B = []; unfold joinH; rw [if_neg (fun c => by rw [hokB] at c; exact absurd c.2.1 (by decide))]
      have CO : Hid (Calls Try.prog 8 #[.slice oa A.length ca] w fun e w' => e = .returned (.bool true) ∧ Below w.heap.size w w') := by rw [← hokA]; exact hostsOk_in _ A w h1
      have CP : Hid (∀ W, InRow W (.slice ob B.length cb) B → Calls Try.prog 8 #[.slice ob B.length cb] W fun e w' => e = .returned (.bool false) ∧ Below W.heap.size W w') := fun W h => by rw [← hokB]; exact hostsOk_in _ B W h
      have H2 := hid h2
      clear hokA hokB h1 h2
      go_enter Try.func5, Try.ntmps5
      go_wp2_with fail
      refine CO.out.mono ?_
      rintro e w1 ⟨rfl, hb1⟩
      have HB1 := hid hb1
      have H21 := hid (H2.out.below hb1)
      clear hb1
      go_wp2_with fail
      refine (CP.out _ H21.out).mono ?_
      rintro e w2 ⟨rfl, hb2⟩
      have HB2 : Hid (Below w.heap.size w w2) := HB1.out.trans (hb2.mono HB1.out.size)
      clear hb2
      go_wp2
      refine bodyPost_ret (v := .slice none 0 0) (by simp [results, Try.results5, go_sem]) rfl ?_
      exact ⟨_, rfl, by rw [HJ.out]; exact World.ownsRow_nil _ _ _ _, HB2.out⟩
    · exact joinImpl_core oa ob ca cb A B w (okH_each A hokA).1 (okH_each B hokB).1 hokA hokB h1 h2

end Go.Proofs.Ytahhjhhnjpbocac
