/- DERIVED. The walk of the model's HostsJoin. -/
import Derived.Test.YtahhjhhnjpbocacRowCore
import Derived.Test.YtahhjhhnjpbocacMergePlain
import Derived.Test.YtahhjhhnjpbocacReg
namespace Go.Proofs.Ytahhjhhnjpbocac
open Go.RowKit

/-- A list of hosts that came in. -/
def InRow (w : World) (v : Value) (o : Hs) : Prop :=
  ∃ oa cp, v = .slice oa o.length cp ∧ o.length ≤ cp ∧ cp ≤ maxLen ∧ (o.length = 0 ∨ ∃ g off, oa = some ⟨g, off, none⟩ ∧ RowAt w g off o.length (Sof o) (Mof o))

theorem InRow.below {w w' : World} {v : Value} {o : Hs} (h : InRow w v o) (hb : Below w.heap.size w w') : InRow w' v o := by
  obtain ⟨oa, cp, e, h1, h2, h3⟩ := h
  refine ⟨oa, cp, e, h1, h2, ?_⟩
  rcases h3 with h3 | ⟨g, off, e2, R⟩
  · exact Or.inl h3
  · exact Or.inr ⟨g, off, e2, R.below hb⟩

theorem InRow.own {w : World} {base : Nat} {v : Value} {o : Hs} (h : w.ownsRow base 29 2 v o.length (hcells o)) (hn : ∀ x ∈ o, x.1.size ≤ 400) : InRow w v o := by
  by_cases h0 : o.length = 0
  · rcases h.2 with ⟨e1, e2⟩ | ⟨g, cap, cur, e1, _, _, hkc, hcm, _⟩
    · exact ⟨none, 0, by rw [h0]; exact e1, by omega, Nat.zero_le _, Or.inl h0⟩
    · exact ⟨_, cap, e1, hkc, hcm, Or.inl h0⟩
  · obtain ⟨g, cp, rfl, _, _, hcp, hcm, _⟩ := srow_cells h (by omega)
    exact ⟨_, cp, rfl, hcp, hcm, Or.inr ⟨g, 0, rfl, rowAt_of h hn⟩⟩

theorem listOk_in (v : Value) (o : Hs) (w : World) (h : InRow w v o) :
    Calls Try.prog 15 #[v] w fun e w' => e = .returned (.bool (okH o)) ∧ Below w.heap.size w w' := by
  obtain ⟨oa, cp, rfl, h1, h2, h3⟩ := h
  rcases h3 with h3 | ⟨g, off, rfl, R⟩
  · have e : okH o = true := by rw [List.eq_nil_of_length_eq_zero h3]; rfl
    rw [h3, e]
    refine (listOk_zero oa cp w).mono ?_
    rintro e w' ⟨rfl, rfl⟩
    exact ⟨rfl, Below.refl _ _⟩
  · exact listOk_spec g off o.length cp (Sof o) (Mof o) w h1 h2 R

/- How one round of the merging goes on. -/
theorem rel_a (A B P T : Hs) (i k f : Nat) (hi : i < A.length) (hf : (A.length - i) + (B.length - k) ≤ f) (hT : T = P ++ mergeF f (A.drop i) (B.drop k)) (hh : ¬ k < B.length ∨ ∃ hk : k < B.length, lessH A[i] B[k] = true) :
    ∃ g, (A.length - (i + 1)) + (B.length - k) ≤ g ∧ T = (P ++ [(Sof A i, Mof A i)]) ++ mergeF g (A.drop (i + 1)) (B.drop k) := by
  obtain ⟨g, rfl⟩ : ∃ g, f = g + 1 := ⟨f - 1, by omega⟩
  refine ⟨g, by omega, ?_⟩
  rw [hT, List.drop_eq_getElem_cons hi]
  rcases hh with hk | ⟨hk, hl⟩
  · rw [List.drop_of_length_le (by omega : B.length ≤ k), mergeF, sof_at A i hi]; simp
  · rw [List.drop_eq_getElem_cons hk, mergeF, if_pos hl, sof_at A i hi]; simp

theorem rel_b (A B P T : Hs) (i k f : Nat) (hk : k < B.length) (hf : (A.length - i) + (B.length - k) ≤ f) (hT : T = P ++ mergeF f (A.drop i) (B.drop k)) (hh : ¬ i < A.length ∨ ∃ hi : i < A.length, lessH A[i] B[k] = false ∧ lessH B[k] A[i] = true) :
    ∃ g, (A.length - i) + (B.length - (k + 1)) ≤ g ∧ T = (P ++ [(Sof B k, Mof B k)]) ++ mergeF g (A.drop i) (B.drop (k + 1)) := by
  obtain ⟨g, rfl⟩ : ∃ g, f = g + 1 := ⟨f - 1, by omega⟩
  refine ⟨g, by omega, ?_⟩
  rw [hT, List.drop_eq_getElem_cons hk]
  rcases hh with hi | ⟨hi, hl, hl2⟩
  · rw [List.drop_of_length_le (by omega : A.length ≤ i), mergeF, sof_at B k hk]; simp
  · rw [List.drop_eq_getElem_cons hi, mergeF, if_neg (by rw [hl]; decide), if_pos hl2, sof_at B k hk]; simp

theorem rel_ab (A B P T : Hs) (i k f : Nat) (hi : i < A.length) (hk : k < B.length) (hf : (A.length - i) + (B.length - k) ≤ f) (hT : T = P ++ mergeF f (A.drop i) (B.drop k)) (hl : lessH A[i] B[k] = false) (hl2 : lessH B[k] A[i] = false) :
    ∃ g, (A.length - (i + 1)) + (B.length - (k + 1)) ≤ g ∧ T = (P ++ [(Sof A i, Mof A i)]) ++ mergeF g (A.drop (i + 1)) (B.drop (k + 1)) := by
  obtain ⟨g, rfl⟩ : ∃ g, f = g + 1 := ⟨f - 1, by omega⟩
  refine ⟨g, by omega, ?_⟩
  rw [hT, List.drop_eq_getElem_cons hk, List.drop_eq_getElem_cons hi, mergeF, if_neg (by rw [hl]; decide), if_neg (by rw [hl2]; decide), sof_at A i hi]; simp

/-- Where the hosts of a list lie, as far as there are some. -/
def Lies (w : World) (oa : Option Addr) (o : Hs) : Prop := ∀ i, i < o.length → ∃ g off, oa = some ⟨g, off, none⟩ ∧ g < w.heap.size ∧ w.cell? ⟨g, off + i * 2, none⟩ = some (.string (Sof o i)) ∧ w.cell? ⟨g, off + i * 2 + 1, none⟩ = some (.int .i64 (Mof o i))

theorem lies_of {w : World} {oa : Option Addr} {o : Hs} (h : o.length = 0 ∨ ∃ g off, oa = some ⟨g, off, none⟩ ∧ RowAt w g off o.length (Sof o) (Mof o)) : Lies w oa o := by
  intro i hi
  rcases h with h | ⟨g, off, e, R⟩
  · omega
  · exact ⟨g, off, e, R.old, R.name i hi, R.num i hi⟩

theorem Lies.below {w w' : World} {oa : Option Addr} {o : Hs} (h : Lies w oa o) (hb : Below w.heap.size w w') : Lies w' oa o := by
  intro i hi
  obtain ⟨g, off, e, h1, h2, h3⟩ := h i hi
  exact ⟨g, off, e, Nat.lt_of_lt_of_le h1 hb.size, by rw [hb.cell (p := ⟨g, off + i * 2, none⟩) h1]; exact h2, by rw [hb.cell (p := ⟨g, off + i * 2 + 1, none⟩) h1]; exact h3⟩

set_option maxRecDepth 100000 in
set_option maxHeartbeats 3200000 in
theorem join_core (oa ob : Option Addr) (ca cb : Nat) (A B : Hs) (w : World) (hA : A.length ≤ 30) (hB : B.length ≤ 30) (hokA : okH A = true) (hokB : okH B = true) (h1 : InRow w (.slice oa A.length ca) A) (h2 : InRow w (.slice ob B.length cb) B) :
    Calls Try.prog 7 #[.slice oa A.length ca, .slice ob B.length cb] w fun e w' => ∃ v, e = .returned v ∧ w'.ownsRow w.heap.size 29 2 v (joinH A B).length (hcells (joinH A B)) ∧ Below w.heap.size w w' := by
  obtain ⟨i0, hi, hz0, hz1, hz2⟩ := info_parts infoHost
  have CO : Hid (∀ W, InRow W (.slice oa A.length ca) A → Calls Try.prog 15 #[.slice oa A.length ca] W fun e w' => e = .returned (.bool true) ∧ Below W.heap.size W w') := fun W h => by rw [← hokA]; exact listOk_in _ A W h
  have CP : Hid (∀ W, InRow W (.slice ob B.length cb) B → Calls Try.prog 15 #[.slice ob B.length cb] W fun e w' => e = .returned (.bool true) ∧ Below W.heap.size W w') := fun W h => by rw [← hokB]; exact listOk_in _ B W h
  obtain ⟨T, hT⟩ : ∃ T, T = mergeF (A.length + B.length) A B := ⟨_, rfl⟩
  obtain ⟨J, hJ⟩ : ∃ J, J = joinH A B := ⟨_, rfl⟩
  have hJT : J = if T.length ≤ 30 then T else [] := by
    rw [hJ, hT, joinH]
    by_cases hc : (mergeF (A.length + B.length) A B).length ≤ 30
    · rw [if_pos ⟨hokA, hokB, hc⟩, if_pos hc]
    · rw [if_neg (fun c => hc c.2.2), if_neg hc]
  rw [← hJ]
  have HT := hid hT
  have HJ := hid hJT
  have HL1 : Hid (Lies w oa A) := by
    obtain ⟨oa', cp', e, _, _, h3⟩ := h1
    injection e with e1 e2 e3
    subst e1
    exact lies_of h3
  have HL2 : Hid (Lies w ob B) := by
    obtain ⟨ob', cp', e, _, _, h3⟩ := h2
    injection e with e1 e2 e3
    subst e1
    exact lies_of h3
  have H1 := hid h1
  have H2 := hid h2
  clear hT hJ hJT hokA hokB h1 h2
  go_enter Try.func7, Try.ntmps7
  go_wp2_with fail
  refine (CO.out _ H1.out).mono ?_
  rintro e w1 ⟨rfl, hb1⟩
  have HB1 := hid hb1
  have H21 := hid (H2.out.below hb1)
  clear hb1
  go_wp2_with fail
  refine (CP.out _ H21.out).mono ?_
  rintro e w2 ⟨rfl, hb2⟩
  have HB2 : Hid (Below w.heap.size w w2) := HB1.out.trans (hb2.mono HB1.out.size)
  clear hb2 CO CP H1 H2 H21
  go_wp2
  go_loopw [5, 6, 7] (fun v i k wr => Below w.heap.size w wr ∧ ∃ (i' k' f : Nat) (P : Hs), i' ≤ A.length ∧ k' ≤ B.length ∧ i = .int .i64 (i' : Int) ∧ k = .int .i64 (k' : Int) ∧ P.length ≤ i' + k' ∧ wr.ownsRow w.heap.size 29 2 v P.length (hcells P) ∧ (A.length - i') + (B.length - k') ≤ f ∧ T = P ++ mergeF f (A.drop i') (B.drop k')) (fun _ i k _ => (A.length - (intOf i).toNat) + (B.length - (intOf k).toNat))
  case atStart =>
    refine ⟨HB2.out.alloc HB2.out.size _, 0, 0, A.length + B.length, [], Nat.zero_le _, Nat.zero_le _, rfl, rfl, Nat.zero_le _, ?_, by omega, by simpa using HT.out⟩
    exact World.ownsRow_made w2 #[] 0 HB2.out.size (by decide) rfl
  case round =>
    obtain ⟨hB', i, k, f, P, hi', hk', rfl, rfl, hP, hown, hf, hr⟩ := hrel
    have HB := hid hB'
    have HRR := hid hr
    have HF := hid hf
    have HS : Hid (w.heap.size ≤ wr.heap.size) := hB'.size
    clear hr hB' hf
    obtain ⟨ov, cp3, rfl⟩ := row_shape hown
    have HOWN := hid hown
    clear hown
    have HLA := hid (HL1.out.below HB.out)
    have HLB := hid (HL2.out.below HB.out)
    have ii0 : (0 : Int) ≤ (i : Int) := by omega
    have kk0 : (0 : Int) ≤ (k : Int) := by omega
    by_cases hkb : k < B.length
    · have hkI : (k : Int) < (B.length : Int) := by omega
      obtain ⟨bg, bo, be, bl, b0, b1⟩ := HLB.out k hkb
      by_cases hia : i < A.length
      · have hiI : (i : Int) < (A.length : Int) := by omega
        obtain ⟨ag, ao, ae, al, a0, a1⟩ := HLA.out i hia
        subst ae be
        have hA1 : lessH A[i] B[k] = lessB (Sof A i) (Mof A i) (Sof B k) (Mof B k) := by rw [sof_at A i hia, sof_at B k hkb]; rfl
        have hA2 : lessH B[k] A[i] = lessB (Sof B k) (Mof B k) (Sof A i) (Mof A i) := by rw [sof_at A i hia, sof_at B k hkb]; rfl
        cases hl : lessB (Sof A i) (Mof A i) (Sof B k) (Mof B k)
        · have CL : Hid (∀ W, Calls Try.prog 16 #[.agg #[.string (Sof A i), .int .i64 (Mof A i)], .agg #[.string (Sof B k), .int .i64 (Mof B k)]] W fun e w' => e = .returned (.bool false) ∧ Below W.heap.size W w') := fun W => by have h := less_any (Sof A i) (Sof B k) (Mof A i) (Mof B k) W; rw [show lessB (Sof A i) (Mof A i) (Sof B k) (Mof B k) = false from hl] at h; exact h
          cases hl2 : lessB (Sof B k) (Mof B k) (Sof A i) (Mof A i)
          · have CM : Hid (∀ W, Calls Try.prog 16 #[.agg #[.string (Sof B k), .int .i64 (Mof B k)], .agg #[.string (Sof A i), .int .i64 (Mof A i)]] W fun e w' => e = .returned (.bool false) ∧ Below W.heap.size W w') := fun W => by have h := less_any (Sof B k) (Sof A i) (Mof B k) (Mof A i) W; rw [show lessB (Sof B k) (Mof B k) (Sof A i) (Mof A i) = false from hl2] at h; exact h
            have HREL := hid (rel_ab A B P T i k f hia hkb HF.out HRR.out (by rw [hA1]; exact hl) (by rw [hA2]; exact hl2))
            clear hl hl2 hA1 hA2
            go_wp2_with fail
            refine wp_region_any (by kernel_rfl) ?_
            change wpAny _ _ _ _ _ _ _ (World.drew _)
            refine take_on 0 (v := ?_) rfl rfl (by kernel_rfl) (by kernel_rfl) (by kernel_rfl) (fun _ _ _ h => h) (by rfl) (fun w => ?_) ?_
            rotate_left
            · (go_simp; try with_reducible rfl)
            simp only [List.setIfInBounds_toArray, List.set_cons_zero, List.set_cons_succ]
            refine take_on 1 (v := ?_) rfl rfl (by kernel_rfl) (by kernel_rfl) (by kernel_rfl) (fun _ _ _ h => h) (by rfl) (fun w => ?_) ?_
            rotate_left
            · (go_simp; try with_reducible rfl)
            simp only [List.setIfInBounds_toArray, List.set_cons_zero, List.set_cons_succ]
            refine take_on 2 (v := ?_) rfl rfl (by kernel_rfl) (by kernel_rfl) (by kernel_rfl) (fun _ _ _ h => h) (by rfl) (fun w => ?_) ?_
            rotate_left
            · (go_simp; try with_reducible rfl)
            simp only [List.setIfInBounds_toArray, List.set_cons_zero, List.set_cons_succ]
            refine take_on 3 (v := .bool false) rfl rfl (by kernel_rfl) (by kernel_rfl) (by kernel_rfl) (fun _ _ _ h => h) (by rfl) (fun w => ?_) ?_
            · (go_simp; all_goals (first | omega | (intro hh; omega)))
            simp only [List.setIfInBounds_toArray, List.set_cons_zero, List.set_cons_succ]
            refine take_on 4 (v := ?_) rfl rfl (by kernel_rfl) (by kernel_rfl) (by kernel_rfl) (fun _ _ _ h => h) (by rfl) (fun w => ?_) ?_
            rotate_left
            · (go_simp; try with_reducible rfl)
            simp only [List.setIfInBounds_toArray, List.set_cons_zero, List.set_cons_succ]
            refine take_on 5 (v := ?_) rfl rfl (by kernel_rfl) (by kernel_rfl) (by kernel_rfl) (fun _ _ _ h => h) (by rfl) (fun w => ?_) ?_
            rotate_left
            · (go_simp; try with_reducible rfl)
            simp only [List.setIfInBounds_toArray, List.set_cons_zero, List.set_cons_succ]
            refine take_on 6 (v := ?_) rfl rfl (by kernel_rfl) (by kernel_rfl) (by kernel_rfl) (fun _ _ _ h => h) (by rfl) (fun w => ?_) ?_
            rotate_left
            · (go_simp; try with_reducible rfl)
            simp only [List.setIfInBounds_toArray, List.set_cons_zero, List.set_cons_succ]
            refine take_on 7 (v := ?_) rfl rfl (by kernel_rfl) (by kernel_rfl) (by kernel_rfl) (fun _ _ _ h => h) (by rfl) (fun w => ?_) ?_
            rotate_left
            · (go_simp; try with_reducible rfl)
            simp only [List.setIfInBounds_toArray, List.set_cons_zero, List.set_cons_succ]
            refine take_on 8 (v := .bool true) rfl rfl (by kernel_rfl) (by kernel_rfl) (by kernel_rfl) (fun _ _ _ h => h) (by rfl) (fun w => ?_) ?_
            · (go_simp; all_goals (first | omega | (intro hh; omega)))
            simp only [List.setIfInBounds_toArray, List.set_cons_zero, List.set_cons_succ]
            refine take_on 9 (v := ?_) rfl rfl (by kernel_rfl) (by kernel_rfl) (by kernel_rfl) (fun _ _ _ h => h) (by rfl) (fun w => ?_) ?_
            rotate_left
            · (go_simp; try with_reducible rfl)
            simp only [List.setIfInBounds_toArray, List.set_cons_zero, List.set_cons_succ]
            refine take_on 10 (v := ?_) rfl rfl (by kernel_rfl) (by kernel_rfl) (by kernel_rfl) (fun _ _ _ h => h) (by rfl) (fun w => ?_) ?_
            rotate_left
            · (go_simp; try with_reducible rfl)
            simp only [List.setIfInBounds_toArray, List.set_cons_zero, List.set_cons_succ]
            refine take_on 11 (v := ?_) rfl rfl (by kernel_rfl) (by kernel_rfl) (by kernel_rfl) (fun _ _ _ h => h) (by rfl) (fun w => ?_) ?_
            rotate_left
            · (go_simp; try with_reducible rfl)
            simp only [List.setIfInBounds_toArray, List.set_cons_zero, List.set_cons_succ]
            refine take_on 12 (v := ?_) rfl rfl (by kernel_rfl) (by kernel_rfl) (by kernel_rfl) (fun _ _ _ h => h) (by rfl) (fun w => ?_) ?_
            rotate_left
            · (go_simp; try with_reducible rfl)
            simp only [List.setIfInBounds_toArray, List.set_cons_zero, List.set_cons_succ]
            refine take_on 14 (v := ?_) rfl rfl (by kernel_rfl) (by kernel_rfl) (by kernel_rfl) (fun _ _ _ h => h) (by rfl) (fun w => ?_) ?_
            rotate_left
            · (go_simp; try with_reducible rfl)
            simp only [List.setIfInBounds_toArray, List.set_cons_zero, List.set_cons_succ]
            refine take_on 15 (v := ?_) rfl rfl (by kernel_rfl) (by kernel_rfl) (by kernel_rfl) (fun _ _ _ h => h) (by rfl) (fun w => ?_) ?_
            rotate_left
            · (go_simp; try with_reducible rfl)
            simp only [List.setIfInBounds_toArray, List.set_cons_zero, List.set_cons_succ]
            refine take_on 16 (v := ?_) rfl rfl (by kernel_rfl) (by kernel_rfl) (by kernel_rfl) (fun _ _ _ h => h) (by rfl) (fun w => ?_) ?_
            rotate_left
            · (go_simp; try with_reducible rfl)
            simp only [List.setIfInBounds_toArray, List.set_cons_zero, List.set_cons_succ]
            refine wpAny_ready (rs := [13, 17]) (by kernel_rfl) (by simp) (AllReady.cons rfl (fun K hK => ?_) (AllReady.cons rfl (fun K hK => ?_) AllReady.nil))
            · go_simp
              refine hK _ _ ?_
              clear hK K
              refine wpAny_ready (rs := [17]) (by kernel_rfl) (by simp) (AllReady.cons rfl (fun K hK => ?_) AllReady.nil)
              go_simp
              refine hK _ _ ?_
              clear hK K
              refine wpAny_ready (rs := [18]) (by kernel_rfl) (by simp) (AllReady.cons rfl (fun K hK => ?_) AllReady.nil)
              go_simp
              go_wp2_with fail
              refine (CL.out _).mono ?_
              rintro e w3 ⟨rfl, hb3⟩
              have HB3 := hid hb3
              clear hb3
              refine hK _ _ ?_
              clear hK K
              refine take_on 19 (v := ?_) rfl rfl (by kernel_rfl) (by kernel_rfl) (by kernel_rfl) (fun _ _ _ h => h) (by rfl) (fun w => ?_) ?_
              rotate_left
              · (go_simp; try with_reducible rfl)
              simp only [List.setIfInBounds_toArray, List.set_cons_zero, List.set_cons_succ]
              refine take_on 20 (v := ?_) rfl rfl (by kernel_rfl) (by kernel_rfl) (by kernel_rfl) (fun _ _ _ h => h) (by rfl) (fun w => ?_) ?_
              rotate_left
              · (go_simp; try with_reducible rfl)
              simp only [List.setIfInBounds_toArray, List.set_cons_zero, List.set_cons_succ]
              refine wpAny_done (by kernel_rfl) ?_ _
              have HX3 : Hid (Below wr.heap.size wr w3) := (below_drew1 wr).trans (HB3.out.mono (by simp))
              have a30 : w3.cell? ⟨ag, ao + i * 2, none⟩ = some (.string (Sof A i)) := by rw [HX3.out.cell (p := ⟨ag, ao + i * 2, none⟩) al]; exact a0
              have a31 : w3.cell? ⟨ag, ao + i * 2 + 1, none⟩ = some (.int .i64 (Mof A i)) := by rw [HX3.out.cell (p := ⟨ag, ao + i * 2 + 1, none⟩) al]; exact a1
              have b30 : w3.cell? ⟨bg, bo + k * 2, none⟩ = some (.string (Sof B k)) := by rw [HX3.out.cell (p := ⟨bg, bo + k * 2, none⟩) bl]; exact b0
              have b31 : w3.cell? ⟨bg, bo + k * 2 + 1, none⟩ = some (.int .i64 (Mof B k)) := by rw [HX3.out.cell (p := ⟨bg, bo + k * 2 + 1, none⟩) bl]; exact b1
              go_wp2_with fail
              refine wp_region_any (by kernel_rfl) ?_
              change wpAny _ _ _ _ _ _ _ (World.drew _)
              refine take_on 0 (v := ?_) rfl rfl (by kernel_rfl) (by kernel_rfl) (by kernel_rfl) (fun _ _ _ h => h) (by rfl) (fun w => ?_) ?_
              rotate_left
              · (go_simp; try with_reducible rfl)
              simp only [List.setIfInBounds_toArray, List.set_cons_zero, List.set_cons_succ]
              refine take_on 1 (v := ?_) rfl rfl (by kernel_rfl) (by kernel_rfl) (by kernel_rfl) (fun _ _ _ h => h) (by rfl) (fun w => ?_) ?_
              rotate_left
              · (go_simp; try with_reducible rfl)
              simp only [List.setIfInBounds_toArray, List.set_cons_zero, List.set_cons_succ]
              refine take_on 2 (v := ?_) rfl rfl (by kernel_rfl) (by kernel_rfl) (by kernel_rfl) (fun _ _ _ h => h) (by rfl) (fun w => ?_) ?_
              rotate_left
              · (go_simp; try with_reducible rfl)
              simp only [List.setIfInBounds_toArray, List.set_cons_zero, List.set_cons_succ]
              refine take_on 3 (v := .bool false) rfl rfl (by kernel_rfl) (by kernel_rfl) (by kernel_rfl) (fun _ _ _ h => h) (by rfl) (fun w => ?_) ?_
              · (go_simp; all_goals (first | omega | (intro hh; omega)))
              simp only [List.setIfInBounds_toArray, List.set_cons_zero, List.set_cons_succ]
              refine take_on 4 (v := ?_) rfl rfl (by kernel_rfl) (by kernel_rfl) (by kernel_rfl) (fun _ _ _ h => h) (by rfl) (fun w => ?_) ?_
              rotate_left
              · (go_simp; try with_reducible rfl)
              simp only [List.setIfInBounds_toArray, List.set_cons_zero, List.set_cons_succ]
              refine take_on 5 (v := ?_) rfl rfl (by kernel_rfl) (by kernel_rfl) (by kernel_rfl) (fun _ _ _ h => h) (by rfl) (fun w => ?_) ?_
              rotate_left
              · (go_simp; try with_reducible rfl)
              simp only [List.setIfInBounds_toArray, List.set_cons_zero, List.set_cons_succ]
              refine take_on 6 (v := ?_) rfl rfl (by kernel_rfl) (by kernel_rfl) (by kernel_rfl) (fun _ _ _ h => h) (by rfl) (fun w => ?_) ?_
              rotate_left
              · (go_simp; try with_reducible rfl)
              simp only [List.setIfInBounds_toArray, List.set_cons_zero, List.set_cons_succ]
              refine take_on 7 (v := ?_) rfl rfl (by kernel_rfl) (by kernel_rfl) (by kernel_rfl) (fun _ _ _ h => h) (by rfl) (fun w => ?_) ?_
              rotate_left
              · (go_simp; try with_reducible rfl)
              simp only [List.setIfInBounds_toArray, List.set_cons_zero, List.set_cons_succ]
              refine take_on 9 (v := ?_) rfl rfl (by kernel_rfl) (by kernel_rfl) (by kernel_rfl) (fun _ _ _ h => h) (by rfl) (fun w => ?_) ?_
              rotate_left
              · (go_simp; try with_reducible rfl)
              simp only [List.setIfInBounds_toArray, List.set_cons_zero, List.set_cons_succ]
              refine take_on 10 (v := ?_) rfl rfl (by kernel_rfl) (by kernel_rfl) (by kernel_rfl) (fun _ _ _ h => h) (by rfl) (fun w => ?_) ?_
              rotate_left
              · (go_simp; try with_reducible rfl)
              simp only [List.setIfInBounds_toArray, List.set_cons_zero, List.set_cons_succ]
              refine take_on 11 (v := ?_) rfl rfl (by kernel_rfl) (by kernel_rfl) (by kernel_rfl) (fun _ _ _ h => h) (by rfl) (fun w => ?_) ?_
              rotate_left
              · (go_simp; try with_reducible rfl)
              simp only [List.setIfInBounds_toArray, List.set_cons_zero, List.set_cons_succ]
              refine wpAny_ready (rs := [8, 12]) (by kernel_rfl) (by simp) (AllReady.cons rfl (fun K hK => ?_) (AllReady.cons rfl (fun K hK => ?_) AllReady.nil))
              · go_simp
                refine hK _ _ ?_
                clear hK K
                refine wpAny_ready (rs := [12]) (by kernel_rfl) (by simp) (AllReady.cons rfl (fun K hK => ?_) AllReady.nil)
                go_simp
                refine hK _ _ ?_
                clear hK K
                refine wpAny_ready (rs := [13]) (by kernel_rfl) (by simp) (AllReady.cons rfl (fun K hK => ?_) AllReady.nil)
                go_simp
                go_wp2_with fail
                refine (CM.out _).mono ?_
                rintro e w4 ⟨rfl, hb4⟩
                have HB4 := hid hb4
                clear hb4
                refine hK _ _ ?_
                clear hK K
                refine take_on 14 (v := ?_) rfl rfl (by kernel_rfl) (by kernel_rfl) (by kernel_rfl) (fun _ _ _ h => h) (by rfl) (fun w => ?_) ?_
                rotate_left
                · (go_simp; try with_reducible rfl)
                simp only [List.setIfInBounds_toArray, List.set_cons_zero, List.set_cons_succ]
                refine wpAny_done (by kernel_rfl) ?_ _
                clear a30 a31 b30 b31
                have HX : Hid (Below wr.heap.size wr w4) := (below_drew1 wr).trans ((HB3.out.mono (by simp)).trans (((below_drew1 w3).mono (by have := HB3.out.size; simpa using this)).trans (HB4.out.mono (by have := HB3.out.size; simpa using this))))
                have hownX := row_ownBelow HOWN.out HX.out
                have HBX : Hid (Below w.heap.size w w4) := HB.out.trans (HX.out.mono HS.out)
                have HSX : Hid (w.heap.size ≤ (w4).heap.size) := HBX.out.size
                have x0 : (w4).cell? ⟨ag, ao + i * 2, none⟩ = some (.string (Sof A i)) := by rw [HX.out.cell (p := ⟨ag, ao + i * 2, none⟩) al]; exact a0
                have x1 : (w4).cell? ⟨ag, ao + i * 2 + 1, none⟩ = some (.int .i64 (Mof A i)) := by rw [HX.out.cell (p := ⟨ag, ao + i * 2 + 1, none⟩) al]; exact a1
                go_wp2_with (at_builtin; refine wpList_append_own _ rfl _ _ 23 rfl w.heap.size 29 i0 (.agg #[.string ⟨#[]⟩, .int .i64 0]) 2 24 Try.underlying23 hi hz0 hz1 hz2 rfl (by decide) _ _ _ rfl (hownX.alloc _) ⟨(w4).heap.size, 0, none⟩ 1 1 [.string (Sof A i), .int .i64 (Mof A i)] rfl rfl (cell_new2 _ _ _ _) (by simp [Value.oneCell']) (by unfold maxLen; omega) (by omega) (by have := HSX.out; simp at this ⊢; omega) ?_)
                intro v' w5 hown' hgrow _
                have HB5 : Hid (Below w.heap.size w w5) := (HBX.out.alloc HSX.out _).trans (below_grown (hownX.alloc _) (by have := HSX.out; simp at this ⊢; omega) hgrow)
                have HOWN' := hid hown'
                clear hown' hgrow hownX x0 x1
                go_wp2
                go_roundw
                case rel =>
                  obtain ⟨g, hg1, hg2⟩ := HREL.out
                  refine ⟨HB5.out, i + 1, k + 1, g, P ++ [(Sof A i, Mof A i)], by omega, by omega, by go_num, by go_num, by simp; omega, ?_, hg1, hg2⟩
                  have := HOWN'.out
                  rw [hcells_append]
                  simpa [hcells] using this
                case measure => simp [intOf]; omega
              · go_simp
                refine hK _ _ ?_
                clear hK K
                refine wpAny_ready (rs := [8]) (by kernel_rfl) (by simp) (AllReady.cons rfl (fun K hK => ?_) AllReady.nil)
                go_simp
                refine hK _ _ ?_
                clear hK K
                refine wpAny_ready (rs := [13]) (by kernel_rfl) (by simp) (AllReady.cons rfl (fun K hK => ?_) AllReady.nil)
                go_simp
                go_wp2_with fail
                refine (CM.out _).mono ?_
                rintro e w4 ⟨rfl, hb4⟩
                have HB4 := hid hb4
                clear hb4
                refine hK _ _ ?_
                clear hK K
                refine take_on 14 (v := ?_) rfl rfl (by kernel_rfl) (by kernel_rfl) (by kernel_rfl) (fun _ _ _ h => h) (by rfl) (fun w => ?_) ?_
                rotate_left
                · (go_simp; try with_reducible rfl)
                simp only [List.setIfInBounds_toArray, List.set_cons_zero, List.set_cons_succ]
                refine wpAny_done (by kernel_rfl) ?_ _
                clear a30 a31 b30 b31
                have HX : Hid (Below wr.heap.size wr w4) := (below_drew1 wr).trans ((HB3.out.mono (by simp)).trans (((below_drew1 w3).mono (by have := HB3.out.size; simpa using this)).trans (HB4.out.mono (by have := HB3.out.size; simpa using this))))
                have hownX := row_ownBelow HOWN.out HX.out
                have HBX : Hid (Below w.heap.size w w4) := HB.out.trans (HX.out.mono HS.out)
                have HSX : Hid (w.heap.size ≤ (w4).heap.size) := HBX.out.size
                have x0 : (w4).cell? ⟨ag, ao + i * 2, none⟩ = some (.string (Sof A i)) := by rw [HX.out.cell (p := ⟨ag, ao + i * 2, none⟩) al]; exact a0
                have x1 : (w4).cell? ⟨ag, ao + i * 2 + 1, none⟩ = some (.int .i64 (Mof A i)) := by rw [HX.out.cell (p := ⟨ag, ao + i * 2 + 1, none⟩) al]; exact a1
                go_wp2_with (at_builtin; refine wpList_append_own _ rfl _ _ 23 rfl w.heap.size 29 i0 (.agg #[.string ⟨#[]⟩, .int .i64 0]) 2 24 Try.underlying23 hi hz0 hz1 hz2 rfl (by decide) _ _ _ rfl (hownX.alloc _) ⟨(w4).heap.size, 0, none⟩ 1 1 [.string (Sof A i), .int .i64 (Mof A i)] rfl rfl (cell_new2 _ _ _ _) (by simp [Value.oneCell']) (by unfold maxLen; omega) (by omega) (by have := HSX.out; simp at this ⊢; omega) ?_)
                intro v' w5 hown' hgrow _
                have HB5 : Hid (Below w.heap.size w w5) := (HBX.out.alloc HSX.out _).trans (below_grown (hownX.alloc _) (by have := HSX.out; simp at this ⊢; omega) hgrow)
                have HOWN' := hid hown'
                clear hown' hgrow hownX x0 x1
                go_wp2
                go_roundw
                case rel =>
                  obtain ⟨g, hg1, hg2⟩ := HREL.out
                  refine ⟨HB5.out, i + 1, k + 1, g, P ++ [(Sof A i, Mof A i)], by omega, by omega, by go_num, by go_num, by simp; omega, ?_, hg1, hg2⟩
                  have := HOWN'.out
                  rw [hcells_append]
                  simpa [hcells] using this
                case measure => simp [intOf]; omega
            · go_simp
              refine hK _ _ ?_
              clear hK K
              refine wpAny_ready (rs := [13]) (by kernel_rfl) (by simp) (AllReady.cons rfl (fun K hK => ?_) AllReady.nil)
              go_simp
              refine hK _ _ ?_
              clear hK K
              refine wpAny_ready (rs := [18]) (by kernel_rfl) (by simp) (AllReady.cons rfl (fun K hK => ?_) AllReady.nil)
              go_simp
              go_wp2_with fail
              refine (CL.out _).mono ?_
              rintro e w3 ⟨rfl, hb3⟩
              have HB3 := hid hb3
              clear hb3
              refine hK _ _ ?_
              clear hK K
              refine take_on 19 (v := ?_) rfl rfl (by kernel_rfl) (by kernel_rfl) (by kernel_rfl) (fun _ _ _ h => h) (by rfl) (fun w => ?_) ?_
              rotate_left
              · (go_simp; try with_reducible rfl)
              simp only [List.setIfInBounds_toArray, List.set_cons_zero, List.set_cons_succ]
              refine take_on 20 (v := ?_) rfl rfl (by kernel_rfl) (by kernel_rfl) (by kernel_rfl) (fun _ _ _ h => h) (by rfl) (fun w => ?_) ?_
              rotate_left
              · (go_simp; try with_reducible rfl)
              simp only [List.setIfInBounds_toArray, List.set_cons_zero, List.set_cons_succ]
              refine wpAny_done (by kernel_rfl) ?_ _
              have HX3 : Hid (Below wr.heap.size wr w3) := (below_drew1 wr).trans (HB3.out.mono (by simp))
              have a30 : w3.cell? ⟨ag, ao + i * 2, none⟩ = some (.string (Sof A i)) := by rw [HX3.out.cell (p := ⟨ag, ao + i * 2, none⟩) al]; exact a0
              have a31 : w3.cell? ⟨ag, ao + i * 2 + 1, none⟩ = some (.int .i64 (Mof A i)) := by rw [HX3.out.cell (p := ⟨ag, ao + i * 2 + 1, none⟩) al]; exact a1
              have b30 : w3.cell? ⟨bg, bo + k * 2, none⟩ = some (.string (Sof B k)) := by rw [HX3.out.cell (p := ⟨bg, bo + k * 2, none⟩) bl]; exact b0
              have b31 : w3.cell? ⟨bg, bo + k * 2 + 1, none⟩ = some (.int .i64 (Mof B k)) := by rw [HX3.out.cell (p := ⟨bg, bo + k * 2 + 1, none⟩) bl]; exact b1
              go_wp2_with fail
              refine wp_region_any (by kernel_rfl) ?_
              change wpAny _ _ _ _ _ _ _ (World.drew _)
              refine take_on 0 (v := ?_) rfl rfl (by kernel_rfl) (by kernel_rfl) (by kernel_rfl) (fun _ _ _ h => h) (by rfl) (fun w => ?_) ?_
              rotate_left
              · (go_simp; try with_reducible rfl)
              simp only [List.setIfInBounds_toArray, List.set_cons_zero, List.set_cons_succ]
              refine take_on 1 (v := ?_) rfl rfl (by kernel_rfl) (by kernel_rfl) (by kernel_rfl) (fun _ _ _ h => h) (by rfl) (fun w => ?_) ?_
              rotate_left
              · (go_simp; try with_reducible rfl)
              simp only [List.setIfInBounds_toArray, List.set_cons_zero, List.set_cons_succ]
              refine take_on 2 (v := ?_) rfl rfl (by kernel_rfl) (by kernel_rfl) (by kernel_rfl) (fun _ _ _ h => h) (by rfl) (fun w => ?_) ?_
              rotate_left
              · (go_simp; try with_reducible rfl)
              simp only [List.setIfInBounds_toArray, List.set_cons_zero, List.set_cons_succ]
              refine take_on 3 (v := .bool false) rfl rfl (by kernel_rfl) (by kernel_rfl) (by kernel_rfl) (fun _ _ _ h => h) (by rfl) (fun w => ?_) ?_
              · (go_simp; all_goals (first | omega | (intro hh; omega)))
              simp only [List.setIfInBounds_toArray, List.set_cons_zero, List.set_cons_succ]
              refine take_on 4 (v := ?_) rfl rfl (by kernel_rfl) (by kernel_rfl) (by kernel_rfl) (fun _ _ _ h => h) (by rfl) (fun w => ?_) ?_
              rotate_left
              · (go_simp; try with_reducible rfl)
              simp only [List.setIfInBounds_toArray, List.set_cons_zero, List.set_cons_succ]
              refine take_on 5 (v := ?_) rfl rfl (by kernel_rfl) (by kernel_rfl) (by kernel_rfl) (fun _ _ _ h => h) (by rfl) (fun w => ?_) ?_
              rotate_left
              · (go_simp; try with_reducible rfl)
              simp only [List.setIfInBounds_toArray, List.set_cons_zero, List.set_cons_succ]
              refine take_on 6 (v := ?_) rfl rfl (by kernel_rfl) (by kernel_rfl) (by kernel_rfl) (fun _ _ _ h => h) (by rfl) (fun w => ?_) ?_
              rotate_left
              · (go_simp; try with_reducible rfl)
              simp only [List.setIfInBounds_toArray, List.set_cons_zero, List.set_cons_succ]
              refine take_on 7 (v := ?_) rfl rfl (by kernel_rfl) (by kernel_rfl) (by kernel_rfl) (fun _ _ _ h => h) (by rfl) (fun w => ?_) ?_
              rotate_left
              · (go_simp; try with_reducible rfl)
              simp only [List.setIfInBounds_toArray, List.set_cons_zero, List.set_cons_succ]
              refine take_on 9 (v := ?_) rfl rfl (by kernel_rfl) (by kernel_rfl) (by kernel_rfl) (fun _ _ _ h => h) (by rfl) (fun w => ?_) ?_
              rotate_left
              · (go_simp; try with_reducible rfl)
              simp only [List.setIfInBounds_toArray, List.set_cons_zero, List.set_cons_succ]
              refine take_on 10 (v := ?_) rfl rfl (by kernel_rfl) (by kernel_rfl) (by kernel_rfl) (fun _ _ _ h => h) (by rfl) (fun w => ?_) ?_
              rotate_left
              · (go_simp; try with_reducible rfl)
              simp only [List.setIfInBounds_toArray, List.set_cons_zero, List.set_cons_succ]
              refine take_on 11 (v := ?_) rfl rfl (by kernel_rfl) (by kernel_rfl) (by kernel_rfl) (fun _ _ _ h => h) (by rfl) (fun w => ?_) ?_
              rotate_left
              · (go_simp; try with_reducible rfl)
              simp only [List.setIfInBounds_toArray, List.set_cons_zero, List.set_cons_succ]
              refine wpAny_ready (rs := [8, 12]) (by kernel_rfl) (by simp) (AllReady.cons rfl (fun K hK => ?_) (AllReady.cons rfl (fun K hK => ?_) AllReady.nil))
              · go_simp
                refine hK _ _ ?_
                clear hK K
                refine wpAny_ready (rs := [12]) (by kernel_rfl) (by simp) (AllReady.cons rfl (fun K hK => ?_) AllReady.nil)
                go_simp
                refine hK _ _ ?_
                clear hK K
                refine wpAny_ready (rs := [13]) (by kernel_rfl) (by simp) (AllReady.cons rfl (fun K hK => ?_) AllReady.nil)
                go_simp
                go_wp2_with fail
                refine (CM.out _).mono ?_
                rintro e w4 ⟨rfl, hb4⟩
                have HB4 := hid hb4
                clear hb4
                refine hK _ _ ?_
                clear hK K
                refine take_on 14 (v := ?_) rfl rfl (by kernel_rfl) (by kernel_rfl) (by kernel_rfl) (fun _ _ _ h => h) (by rfl) (fun w => ?_) ?_
                rotate_left
                · (go_simp; try with_reducible rfl)
                simp only [List.setIfInBounds_toArray, List.set_cons_zero, List.set_cons_succ]
                refine wpAny_done (by kernel_rfl) ?_ _
                clear a30 a31 b30 b31
                have HX : Hid (Below wr.heap.size wr w4) := (below_drew1 wr).trans ((HB3.out.mono (by simp)).trans (((below_drew1 w3).mono (by have := HB3.out.size; simpa using this)).trans (HB4.out.mono (by have := HB3.out.size; simpa using this))))
                have hownX := row_ownBelow HOWN.out HX.out
                have HBX : Hid (Below w.heap.size w w4) := HB.out.trans (HX.out.mono HS.out)
                have HSX : Hid (w.heap.size ≤ (w4).heap.size) := HBX.out.size
                have x0 : (w4).cell? ⟨ag, ao + i * 2, none⟩ = some (.string (Sof A i)) := by rw [HX.out.cell (p := ⟨ag, ao + i * 2, none⟩) al]; exact a0
                have x1 : (w4).cell? ⟨ag, ao + i * 2 + 1, none⟩ = some (.int .i64 (Mof A i)) := by rw [HX.out.cell (p := ⟨ag, ao + i * 2 + 1, none⟩) al]; exact a1
                go_wp2_with (at_builtin; refine wpList_append_own _ rfl _ _ 23 rfl w.heap.size 29 i0 (.agg #[.string ⟨#[]⟩, .int .i64 0]) 2 24 Try.underlying23 hi hz0 hz1 hz2 rfl (by decide) _ _ _ rfl (hownX.alloc _) ⟨(w4).heap.size, 0, none⟩ 1 1 [.string (Sof A i), .int .i64 (Mof A i)] rfl rfl (cell_new2 _ _ _ _) (by simp [Value.oneCell']) (by unfold maxLen; omega) (by omega) (by have := HSX.out; simp at this ⊢; omega) ?_)
                intro v' w5 hown' hgrow _
                have HB5 : Hid (Below w.heap.size w w5) := (HBX.out.alloc HSX.out _).trans (below_grown (hownX.alloc _) (by have := HSX.out; simp at this ⊢; omega) hgrow)
                have HOWN' := hid hown'
                clear hown' hgrow hownX x0 x1
                go_wp2
                go_roundw
                case rel =>
                  obtain ⟨g, hg1, hg2⟩ := HREL.out
                  refine ⟨HB5.out, i + 1, k + 1, g, P ++ [(Sof A i, Mof A i)], by omega, by omega, by go_num, by go_num, by simp; omega, ?_, hg1, hg2⟩
                  have := HOWN'.out
                  rw [hcells_append]
                  simpa [hcells] using this
                case measure => simp [intOf]; omega
              · go_simp
                refine hK _ _ ?_
                clear hK K
                refine wpAny_ready (rs := [8]) (by kernel_rfl) (by simp) (AllReady.cons rfl (fun K hK => ?_) AllReady.nil)
                go_simp
                refine hK _ _ ?_
                clear hK K
                refine wpAny_ready (rs := [13]) (by kernel_rfl) (by simp) (AllReady.cons rfl (fun K hK => ?_) AllReady.nil)
                go_simp
                go_wp2_with fail
                refine (CM.out _).mono ?_
                rintro e w4 ⟨rfl, hb4⟩
                have HB4 := hid hb4
                clear hb4
                refine hK _ _ ?_
                clear hK K
                refine take_on 14 (v := ?_) rfl rfl (by kernel_rfl) (by kernel_rfl) (by kernel_rfl) (fun _ _ _ h => h) (by rfl) (fun w => ?_) ?_
                rotate_left
                · (go_simp; try with_reducible rfl)
                simp only [List.setIfInBounds_toArray, List.set_cons_zero, List.set_cons_succ]
                refine wpAny_done (by kernel_rfl) ?_ _
                clear a30 a31 b30 b31
                have HX : Hid (Below wr.heap.size wr w4) := (below_drew1 wr).trans ((HB3.out.mono (by simp)).trans (((below_drew1 w3).mono (by have := HB3.out.size; simpa using this)).trans (HB4.out.mono (by have := HB3.out.size; simpa using this))))
                have hownX := row_ownBelow HOWN.out HX.out
                have HBX : Hid (Below w.heap.size w w4) := HB.out.trans (HX.out.mono HS.out)
                have HSX : Hid (w.heap.size ≤ (w4).heap.size) := HBX.out.size
                have x0 : (w4).cell? ⟨ag, ao + i * 2, none⟩ = some (.string (Sof A i)) := by rw [HX.out.cell (p := ⟨ag, ao + i * 2, none⟩) al]; exact a0
                have x1 : (w4).cell? ⟨ag, ao + i * 2 + 1, none⟩ = some (.int .i64 (Mof A i)) := by rw [HX.out.cell (p := ⟨ag, ao + i * 2 + 1, none⟩) al]; exact a1
                go_wp2_with (at_builtin; refine wpList_append_own _ rfl _ _ 23 rfl w.heap.size 29 i0 (.agg #[.string ⟨#[]⟩, .int .i64 0]) 2 24 Try.underlying23 hi hz0 hz1 hz2 rfl (by decide) _ _ _ rfl (hownX.alloc _) ⟨(w4).heap.size, 0, none⟩ 1 1 [.string (Sof A i), .int .i64 (Mof A i)] rfl rfl (cell_new2 _ _ _ _) (by simp [Value.oneCell']) (by unfold maxLen; omega) (by omega) (by have := HSX.out; simp at this ⊢; omega) ?_)
                intro v' w5 hown' hgrow _
                have HB5 : Hid (Below w.heap.size w w5) := (HBX.out.alloc HSX.out _).trans (below_grown (hownX.alloc _) (by have := HSX.out; simp at this ⊢; omega) hgrow)
                have HOWN' := hid hown'
                clear hown' hgrow hownX x0 x1
                go_wp2
                go_roundw
                case rel =>
                  obtain ⟨g, hg1, hg2⟩ := HREL.out
                  refine ⟨HB5.out, i + 1, k + 1, g, P ++ [(Sof A i, Mof A i)], by omega, by omega, by go_num, by go_num, by simp; omega, ?_, hg1, hg2⟩
                  have := HOWN'.out
                  rw [hcells_append]
                  simpa [hcells] using this
                case measure => simp [intOf]; omega
          · have CM : Hid (∀ W, Calls Try.prog 16 #[.agg #[.string (Sof B k), .int .i64 (Mof B k)], .agg #[.string (Sof A i), .int .i64 (Mof A i)]] W fun e w' => e = .returned (.bool true) ∧ Below W.heap.size W w') := fun W => by have h := less_any (Sof B k) (Sof A i) (Mof B k) (Mof A i) W; rw [show lessB (Sof B k) (Mof B k) (Sof A i) (Mof A i) = true from hl2] at h; exact h
            have HREL := hid (rel_b A B P T i k f hkb HF.out HRR.out (Or.inr ⟨hia, by rw [hA1]; exact hl, by rw [hA2]; exact hl2⟩))
            clear hl hl2 hA1 hA2
            go_wp2_with fail
            refine wp_region_any (by kernel_rfl) ?_
            change wpAny _ _ _ _ _ _ _ (World.drew _)
            refine take_on 0 (v := ?_) rfl rfl (by kernel_rfl) (by kernel_rfl) (by kernel_rfl) (fun _ _ _ h => h) (by rfl) (fun w => ?_) ?_
            rotate_left
            · (go_simp; try with_reducible rfl)
            simp only [List.setIfInBounds_toArray, List.set_cons_zero, List.set_cons_succ]
            refine take_on 1 (v := ?_) rfl rfl (by kernel_rfl) (by kernel_rfl) (by kernel_rfl) (fun _ _ _ h => h) (by rfl) (fun w => ?_) ?_
            rotate_left
            · (go_simp; try with_reducible rfl)
            simp only [List.setIfInBounds_toArray, List.set_cons_zero, List.set_cons_succ]
            refine take_on 2 (v := ?_) rfl rfl (by kernel_rfl) (by kernel_rfl) (by kernel_rfl) (fun _ _ _ h => h) (by rfl) (fun w => ?_) ?_
            rotate_left
            · (go_simp; try with_reducible rfl)
            simp only [List.setIfInBounds_toArray, List.set_cons_zero, List.set_cons_succ]
            refine take_on 3 (v := .bool false) rfl rfl (by kernel_rfl) (by kernel_rfl) (by kernel_rfl) (fun _ _ _ h => h) (by rfl) (fun w => ?_) ?_
            · (go_simp; all_goals (first | omega | (intro hh; omega)))
            simp only [List.setIfInBounds_toArray, List.set_cons_zero, List.set_cons_succ]
            refine take_on 4 (v := ?_) rfl rfl (by kernel_rfl) (by kernel_rfl) (by kernel_rfl) (fun _ _ _ h => h) (by rfl) (fun w => ?_) ?_
            rotate_left
            · (go_simp; try with_reducible rfl)
            simp only [List.setIfInBounds_toArray, List.set_cons_zero, List.set_cons_succ]
            refine take_on 5 (v := ?_) rfl rfl (by kernel_rfl) (by kernel_rfl) (by kernel_rfl) (fun _ _ _ h => h) (by rfl) (fun w => ?_) ?_
            rotate_left
            · (go_simp; try with_reducible rfl)
            simp only [List.setIfInBounds_toArray, List.set_cons_zero, List.set_cons_succ]
            refine take_on 6 (v := ?_) rfl rfl (by kernel_rfl) (by kernel_rfl) (by kernel_rfl) (fun _ _ _ h => h) (by rfl) (fun w => ?_) ?_
            rotate_left
            · (go_simp; try with_reducible rfl)
            simp only [List.setIfInBounds_toArray, List.set_cons_zero, List.set_cons_succ]
            refine take_on 7 (v := ?_) rfl rfl (by kernel_rfl) (by kernel_rfl) (by kernel_rfl) (fun _ _ _ h => h) (by rfl) (fun w => ?_) ?_
            rotate_left
            · (go_simp; try with_reducible rfl)
            simp only [List.setIfInBounds_toArray, List.set_cons_zero, List.set_cons_succ]
            refine take_on 8 (v := .bool true) rfl rfl (by kernel_rfl) (by kernel_rfl) (by kernel_rfl) (fun _ _ _ h => h) (by rfl) (fun w => ?_) ?_
            · (go_simp; all_goals (first | omega | (intro hh; omega)))
            simp only [List.setIfInBounds_toArray, List.set_cons_zero, List.set_cons_succ]
            refine take_on 9 (v := ?_) rfl rfl (by kernel_rfl) (by kernel_rfl) (by kernel_rfl) (fun _ _ _ h => h) (by rfl) (fun w => ?_) ?_
            rotate_left
            · (go_simp; try with_reducible rfl)
            simp only [List.setIfInBounds_toArray, List.set_cons_zero, List.set_cons_succ]
            refine take_on 10 (v := ?_) rfl rfl (by kernel_rfl) (by kernel_rfl) (by kernel_rfl) (fun _ _ _ h => h) (by rfl) (fun w => ?_) ?_
            rotate_left
            · (go_simp; try with_reducible rfl)
            simp only [List.setIfInBounds_toArray, List.set_cons_zero, List.set_cons_succ]
            refine take_on 11 (v := ?_) rfl rfl (by kernel_rfl) (by kernel_rfl) (by kernel_rfl) (fun _ _ _ h => h) (by rfl) (fun w => ?_) ?_
            rotate_left
            · (go_simp; try with_reducible rfl)
            simp only [List.setIfInBounds_toArray, List.set_cons_zero, List.set_cons_succ]
            refine take_on 12 (v := ?_) rfl rfl (by kernel_rfl) (by kernel_rfl) (by kernel_rfl) (fun _ _ _ h => h) (by rfl) (fun w => ?_) ?_
            rotate_left
            · (go_simp; try with_reducible rfl)
            simp only [List.setIfInBounds_toArray, List.set_cons_zero, List.set_cons_succ]
            refine take_on 14 (v := ?_) rfl rfl (by kernel_rfl) (by kernel_rfl) (by kernel_rfl) (fun _ _ _ h => h) (by rfl) (fun w => ?_) ?_
            rotate_left
            · (go_simp; try with_reducible rfl)
            simp only [List.setIfInBounds_toArray, List.set_cons_zero, List.set_cons_succ]
            refine take_on 15 (v := ?_) rfl rfl (by kernel_rfl) (by kernel_rfl) (by kernel_rfl) (fun _ _ _ h => h) (by rfl) (fun w => ?_) ?_
            rotate_left
            · (go_simp; try with_reducible rfl)
            simp only [List.setIfInBounds_toArray, List.set_cons_zero, List.set_cons_succ]
            refine take_on 16 (v := ?_) rfl rfl (by kernel_rfl) (by kernel_rfl) (by kernel_rfl) (fun _ _ _ h => h) (by rfl) (fun w => ?_) ?_
            rotate_left
            · (go_simp; try with_reducible rfl)
            simp only [List.setIfInBounds_toArray, List.set_cons_zero, List.set_cons_succ]
            refine wpAny_ready (rs := [13, 17]) (by kernel_rfl) (by simp) (AllReady.cons rfl (fun K hK => ?_) (AllReady.cons rfl (fun K hK => ?_) AllReady.nil))
            · go_simp
              refine hK _ _ ?_
              clear hK K
              refine wpAny_ready (rs := [17]) (by kernel_rfl) (by simp) (AllReady.cons rfl (fun K hK => ?_) AllReady.nil)
              go_simp
              refine hK _ _ ?_
              clear hK K
              refine wpAny_ready (rs := [18]) (by kernel_rfl) (by simp) (AllReady.cons rfl (fun K hK => ?_) AllReady.nil)
              go_simp
              go_wp2_with fail
              refine (CL.out _).mono ?_
              rintro e w3 ⟨rfl, hb3⟩
              have HB3 := hid hb3
              clear hb3
              refine hK _ _ ?_
              clear hK K
              refine take_on 19 (v := ?_) rfl rfl (by kernel_rfl) (by kernel_rfl) (by kernel_rfl) (fun _ _ _ h => h) (by rfl) (fun w => ?_) ?_
              rotate_left
              · (go_simp; try with_reducible rfl)
              simp only [List.setIfInBounds_toArray, List.set_cons_zero, List.set_cons_succ]
              refine take_on 20 (v := ?_) rfl rfl (by kernel_rfl) (by kernel_rfl) (by kernel_rfl) (fun _ _ _ h => h) (by rfl) (fun w => ?_) ?_
              rotate_left
              · (go_simp; try with_reducible rfl)
              simp only [List.setIfInBounds_toArray, List.set_cons_zero, List.set_cons_succ]
              refine wpAny_done (by kernel_rfl) ?_ _
              have HX3 : Hid (Below wr.heap.size wr w3) := (below_drew1 wr).trans (HB3.out.mono (by simp))
              have a30 : w3.cell? ⟨ag, ao + i * 2, none⟩ = some (.string (Sof A i)) := by rw [HX3.out.cell (p := ⟨ag, ao + i * 2, none⟩) al]; exact a0
              have a31 : w3.cell? ⟨ag, ao + i * 2 + 1, none⟩ = some (.int .i64 (Mof A i)) := by rw [HX3.out.cell (p := ⟨ag, ao + i * 2 + 1, none⟩) al]; exact a1
              have b30 : w3.cell? ⟨bg, bo + k * 2, none⟩ = some (.string (Sof B k)) := by rw [HX3.out.cell (p := ⟨bg, bo + k * 2, none⟩) bl]; exact b0
              have b31 : w3.cell? ⟨bg, bo + k * 2 + 1, none⟩ = some (.int .i64 (Mof B k)) := by rw [HX3.out.cell (p := ⟨bg, bo + k * 2 + 1, none⟩) bl]; exact b1
              go_wp2_with fail
              refine wp_region_any (by kernel_rfl) ?_
              change wpAny _ _ _ _ _ _ _ (World.drew _)
              refine take_on 0 (v := ?_) rfl rfl (by kernel_rfl) (by kernel_rfl) (by kernel_rfl) (fun _ _ _ h => h) (by rfl) (fun w => ?_) ?_
              rotate_left
              · (go_simp; try with_reducible rfl)
              simp only [List.setIfInBounds_toArray, List.set_cons_zero, List.set_cons_succ]
              refine take_on 1 (v := ?_) rfl rfl (by kernel_rfl) (by kernel_rfl) (by kernel_rfl) (fun _ _ _ h => h) (by rfl) (fun w => ?_) ?_
              rotate_left
              · (go_simp; try with_reducible rfl)
              simp only [List.setIfInBounds_toArray, List.set_cons_zero, List.set_cons_succ]
              refine take_on 2 (v := ?_) rfl rfl (by kernel_rfl) (by kernel_rfl) (by kernel_rfl) (fun _ _ _ h => h) (by rfl) (fun w => ?_) ?_
              rotate_left
              · (go_simp; try with_reducible rfl)
              simp only [List.setIfInBounds_toArray, List.set_cons_zero, List.set_cons_succ]
              refine take_on 3 (v := .bool false) rfl rfl (by kernel_rfl) (by kernel_rfl) (by kernel_rfl) (fun _ _ _ h => h) (by rfl) (fun w => ?_) ?_
              · (go_simp; all_goals (first | omega | (intro hh; omega)))
              simp only [List.setIfInBounds_toArray, List.set_cons_zero, List.set_cons_succ]
              refine take_on 4 (v := ?_) rfl rfl (by kernel_rfl) (by kernel_rfl) (by kernel_rfl) (fun _ _ _ h => h) (by rfl) (fun w => ?_) ?_
              rotate_left
              · (go_simp; try with_reducible rfl)
              simp only [List.setIfInBounds_toArray, List.set_cons_zero, List.set_cons_succ]
              refine take_on 5 (v := ?_) rfl rfl (by kernel_rfl) (by kernel_rfl) (by kernel_rfl) (fun _ _ _ h => h) (by rfl) (fun w => ?_) ?_
              rotate_left
              · (go_simp; try with_reducible rfl)
              simp only [List.setIfInBounds_toArray, List.set_cons_zero, List.set_cons_succ]
              refine take_on 6 (v := ?_) rfl rfl (by kernel_rfl) (by kernel_rfl) (by kernel_rfl) (fun _ _ _ h => h) (by rfl) (fun w => ?_) ?_
              rotate_left
              · (go_simp; try with_reducible rfl)
              simp only [List.setIfInBounds_toArray, List.set_cons_zero, List.set_cons_succ]
              refine take_on 7 (v := ?_) rfl rfl (by kernel_rfl) (by kernel_rfl) (by kernel_rfl) (fun _ _ _ h => h) (by rfl) (fun w => ?_) ?_
              rotate_left
              · (go_simp; try with_reducible rfl)
              simp only [List.setIfInBounds_toArray, List.set_cons_zero, List.set_cons_succ]
              refine take_on 9 (v := ?_) rfl rfl (by kernel_rfl) (by kernel_rfl) (by kernel_rfl) (fun _ _ _ h => h) (by rfl) (fun w => ?_) ?_
              rotate_left
              · (go_simp; try with_reducible rfl)
              simp only [List.setIfInBounds_toArray, List.set_cons_zero, List.set_cons_succ]
              refine take_on 10 (v := ?_) rfl rfl (by kernel_rfl) (by kernel_rfl) (by kernel_rfl) (fun _ _ _ h => h) (by rfl) (fun w => ?_) ?_
              rotate_left
              · (go_simp; try with_reducible rfl)
              simp only [List.setIfInBounds_toArray, List.set_cons_zero, List.set_cons_succ]
              refine take_on 11 (v := ?_) rfl rfl (by kernel_rfl) (by kernel_rfl) (by kernel_rfl) (fun _ _ _ h => h) (by rfl) (fun w => ?_) ?_
              rotate_left
              · (go_simp; try with_reducible rfl)
              simp only [List.setIfInBounds_toArray, List.set_cons_zero, List.set_cons_succ]
              refine wpAny_ready (rs := [8, 12]) (by kernel_rfl) (by simp) (AllReady.cons rfl (fun K hK => ?_) (AllReady.cons rfl (fun K hK => ?_) AllReady.nil))
              · go_simp
                refine hK _ _ ?_
                clear hK K
                refine wpAny_ready (rs := [12]) (by kernel_rfl) (by simp) (AllReady.cons rfl (fun K hK => ?_) AllReady.nil)
                go_simp
                refine hK _ _ ?_
                clear hK K
                refine wpAny_ready (rs := [13]) (by kernel_rfl) (by simp) (AllReady.cons rfl (fun K hK => ?_) AllReady.nil)
                go_simp
                go_wp2_with fail
                refine (CM.out _).mono ?_
                rintro e w4 ⟨rfl, hb4⟩
                have HB4 := hid hb4
                clear hb4
                refine hK _ _ ?_
                clear hK K
                refine take_on 14 (v := ?_) rfl rfl (by kernel_rfl) (by kernel_rfl) (by kernel_rfl) (fun _ _ _ h => h) (by rfl) (fun w => ?_) ?_
                rotate_left
                · (go_simp; try with_reducible rfl)
                simp only [List.setIfInBounds_toArray, List.set_cons_zero, List.set_cons_succ]
                refine wpAny_done (by kernel_rfl) ?_ _
                clear a30 a31 b30 b31
                have HX : Hid (Below wr.heap.size wr w4) := (below_drew1 wr).trans ((HB3.out.mono (by simp)).trans (((below_drew1 w3).mono (by have := HB3.out.size; simpa using this)).trans (HB4.out.mono (by have := HB3.out.size; simpa using this))))
                have hownX := row_ownBelow HOWN.out HX.out
                have HBX : Hid (Below w.heap.size w w4) := HB.out.trans (HX.out.mono HS.out)
                have HSX : Hid (w.heap.size ≤ (w4).heap.size) := HBX.out.size
                have x0 : (w4).cell? ⟨bg, bo + k * 2, none⟩ = some (.string (Sof B k)) := by rw [HX.out.cell (p := ⟨bg, bo + k * 2, none⟩) bl]; exact b0
                have x1 : (w4).cell? ⟨bg, bo + k * 2 + 1, none⟩ = some (.int .i64 (Mof B k)) := by rw [HX.out.cell (p := ⟨bg, bo + k * 2 + 1, none⟩) bl]; exact b1
                go_wp2_with (at_builtin; refine wpList_append_own _ rfl _ _ 23 rfl w.heap.size 29 i0 (.agg #[.string ⟨#[]⟩, .int .i64 0]) 2 24 Try.underlying23 hi hz0 hz1 hz2 rfl (by decide) _ _ _ rfl (hownX.alloc _) ⟨(w4).heap.size, 0, none⟩ 1 1 [.string (Sof B k), .int .i64 (Mof B k)] rfl rfl (cell_new2 _ _ _ _) (by simp [Value.oneCell']) (by unfold maxLen; omega) (by omega) (by have := HSX.out; simp at this ⊢; omega) ?_)
                intro v' w5 hown' hgrow _
                have HB5 : Hid (Below w.heap.size w w5) := (HBX.out.alloc HSX.out _).trans (below_grown (hownX.alloc _) (by have := HSX.out; simp at this ⊢; omega) hgrow)
                have HOWN' := hid hown'
                clear hown' hgrow hownX x0 x1
                go_wp2
                go_roundw
                case rel =>
                  obtain ⟨g, hg1, hg2⟩ := HREL.out
                  refine ⟨HB5.out, i, k + 1, g, P ++ [(Sof B k, Mof B k)], by omega, by omega, by go_num, by go_num, by simp; omega, ?_, hg1, hg2⟩
                  have := HOWN'.out
                  rw [hcells_append]
                  simpa [hcells] using this
                case measure => simp [intOf]; omega
              · go_simp
                refine hK _ _ ?_
                clear hK K
                refine wpAny_ready (rs := [8]) (by kernel_rfl) (by simp) (AllReady.cons rfl (fun K hK => ?_) AllReady.nil)
                go_simp
                refine hK _ _ ?_
                clear hK K
                refine wpAny_ready (rs := [13]) (by kernel_rfl) (by simp) (AllReady.cons rfl (fun K hK => ?_) AllReady.nil)
                go_simp
                go_wp2_with fail
                refine (CM.out _).mono ?_
                rintro e w4 ⟨rfl, hb4⟩
                have HB4 := hid hb4
                clear hb4
                refine hK _ _ ?_
                clear hK K
                refine take_on 14 (v := ?_) rfl rfl (by kernel_rfl) (by kernel_rfl) (by kernel_rfl) (fun _ _ _ h => h) (by rfl) (fun w => ?_) ?_
                rotate_left
                · (go_simp; try with_reducible rfl)
                simp only [List.setIfInBounds_toArray, List.set_cons_zero, List.set_cons_succ]
                refine wpAny_done (by kernel_rfl) ?_ _
                clear a30 a31 b30 b31
                have HX : Hid (Below wr.heap.size wr w4) := (below_drew1 wr).trans ((HB3.out.mono (by simp)).trans (((below_drew1 w3).mono (by have := HB3.out.size; simpa using this)).trans (HB4.out.mono (by have := HB3.out.size; simpa using this))))
                have hownX := row_ownBelow HOWN.out HX.out
                have HBX : Hid (Below w.heap.size w w4) := HB.out.trans (HX.out.mono HS.out)
                have HSX : Hid (w.heap.size ≤ (w4).heap.size) := HBX.out.size
                have x0 : (w4).cell? ⟨bg, bo + k * 2, none⟩ = some (.string (Sof B k)) := by rw [HX.out.cell (p := ⟨bg, bo + k * 2, none⟩) bl]; exact b0
                have x1 : (w4).cell? ⟨bg, bo + k * 2 + 1, none⟩ = some (.int .i64 (Mof B k)) := by rw [HX.out.cell (p := ⟨bg, bo + k * 2 + 1, none⟩) bl]; exact b1
                go_wp2_with (at_builtin; refine wpList_append_own _ rfl _ _ 23 rfl w.heap.size 29 i0 (.agg #[.string ⟨#[]⟩, .int .i64 0]) 2 24 Try.underlying23 hi hz0 hz1 hz2 rfl (by decide) _ _ _ rfl (hownX.alloc _) ⟨(w4).heap.size, 0, none⟩ 1 1 [.string (Sof B k), .int .i64 (Mof B k)] rfl rfl (cell_new2 _ _ _ _) (by simp [Value.oneCell']) (by unfold maxLen; omega) (by omega) (by have := HSX.out; simp at this ⊢; omega) ?_)
                intro v' w5 hown' hgrow _
                have HB5 : Hid (Below w.heap.size w w5) := (HBX.out.alloc HSX.out _).trans (below_grown (hownX.alloc _) (by have := HSX.out; simp at this ⊢; omega) hgrow)
                have HOWN' := hid hown'
                clear hown' hgrow hownX x0 x1
                go_wp2
                go_roundw
                case rel =>
                  obtain ⟨g, hg1, hg2⟩ := HREL.out
                  refine ⟨HB5.out, i, k + 1, g, P ++ [(Sof B k, Mof B k)], by omega, by omega, by go_num, by go_num, by simp; omega, ?_, hg1, hg2⟩
                  have := HOWN'.out
                  rw [hcells_append]
                  simpa [hcells] using this
                case measure => simp [intOf]; omega
            · go_simp
              refine hK _ _ ?_
              clear hK K
              refine wpAny_ready (rs := [13]) (by kernel_rfl) (by simp) (AllReady.cons rfl (fun K hK => ?_) AllReady.nil)
              go_simp
              refine hK _ _ ?_
              clear hK K
              refine wpAny_ready (rs := [18]) (by kernel_rfl) (by simp) (AllReady.cons rfl (fun K hK => ?_) AllReady.nil)
              go_simp
              go_wp2_with fail
              refine (CL.out _).mono ?_
              rintro e w3 ⟨rfl, hb3⟩
              have HB3 := hid hb3
              clear hb3
              refine hK _ _ ?_
              clear hK K
              refine take_on 19 (v := ?_) rfl rfl (by kernel_rfl) (by kernel_rfl) (by kernel_rfl) (fun _ _ _ h => h) (by rfl) (fun w => ?_) ?_
              rotate_left
              · (go_simp; try with_reducible rfl)
              simp only [List.setIfInBounds_toArray, List.set_cons_zero, List.set_cons_succ]
              refine take_on 20 (v := ?_) rfl rfl (by kernel_rfl) (by kernel_rfl) (by kernel_rfl) (fun _ _ _ h => h) (by rfl) (fun w => ?_) ?_
              rotate_left
              · (go_simp; try with_reducible rfl)
              simp only [List.setIfInBounds_toArray, List.set_cons_zero, List.set_cons_succ]
              refine wpAny_done (by kernel_rfl) ?_ _
              have HX3 : Hid (Below wr.heap.size wr w3) := (below_drew1 wr).trans (HB3.out.mono (by simp))
              have a30 : w3.cell? ⟨ag, ao + i * 2, none⟩ = some (.string (Sof A i)) := by rw [HX3.out.cell (p := ⟨ag, ao + i * 2, none⟩) al]; exact a0
              have a31 : w3.cell? ⟨ag, ao + i * 2 + 1, none⟩ = some (.int .i64 (Mof A i)) := by rw [HX3.out.cell (p := ⟨ag, ao + i * 2 + 1, none⟩) al]; exact a1
              have b30 : w3.cell? ⟨bg, bo + k * 2, none⟩ = some (.string (Sof B k)) := by rw [HX3.out.cell (p := ⟨bg, bo + k * 2, none⟩) bl]; exact b0
              have b31 : w3.cell? ⟨bg, bo + k * 2 + 1, none⟩ = some (.int .i64 (Mof B k)) := by rw [HX3.out.cell (p := ⟨bg, bo + k * 2 + 1, none⟩) bl]; exact b1
              go_wp2_with fail
              refine wp_region_any (by kernel_rfl) ?_
              change wpAny _ _ _ _ _ _ _ (World.drew _)
              refine take_on 0 (v := ?_) rfl rfl (by kernel_rfl) (by kernel_rfl) (by kernel_rfl) (fun _ _ _ h => h) (by rfl) (fun w => ?_) ?_
              rotate_left
              · (go_simp; try with_reducible rfl)
              simp only [List.setIfInBounds_toArray, List.set_cons_zero, List.set_cons_succ]
              refine take_on 1 (v := ?_) rfl rfl (by kernel_rfl) (by kernel_rfl) (by kernel_rfl) (fun _ _ _ h => h) (by rfl) (fun w => ?_) ?_
              rotate_left
              · (go_simp; try with_reducible rfl)
              simp only [List.setIfInBounds_toArray, List.set_cons_zero, List.set_cons_succ]
              refine take_on 2 (v := ?_) rfl rfl (by kernel_rfl) (by kernel_rfl) (by kernel_rfl) (fun _ _ _ h => h) (by rfl) (fun w => ?_) ?_
              rotate_left
              · (go_simp; try with_reducible rfl)
              simp only [List.setIfInBounds_toArray, List.set_cons_zero, List.set_cons_succ]
              refine take_on 3 (v := .bool false) rfl rfl (by kernel_rfl) (by kernel_rfl) (by kernel_rfl) (fun _ _ _ h => h) (by rfl) (fun w => ?_) ?_
              · (go_simp; all_goals (first | omega | (intro hh; omega)))
              simp only [List.setIfInBounds_toArray, List.set_cons_zero, List.set_cons_succ]
              refine take_on 4 (v := ?_) rfl rfl (by kernel_rfl) (by kernel_rfl) (by kernel_rfl) (fun _ _ _ h => h) (by rfl) (fun w => ?_) ?_
              rotate_left
              · (go_simp; try with_reducible rfl)
              simp only [List.setIfInBounds_toArray, List.set_cons_zero, List.set_cons_succ]
              refine take_on 5 (v := ?_) rfl rfl (by kernel_rfl) (by kernel_rfl) (by kernel_rfl) (fun _ _ _ h => h) (by rfl) (fun w => ?_) ?_
              rotate_left
              · (go_simp; try with_reducible rfl)
              simp only [List.setIfInBounds_toArray, List.set_cons_zero, List.set_cons_succ]
              refine take_on 6 (v := ?_) rfl rfl (by kernel_rfl) (by kernel_rfl) (by kernel_rfl) (fun _ _ _ h => h) (by rfl) (fun w => ?_) ?_
              rotate_left
              · (go_simp; try with_reducible rfl)
              simp only [List.setIfInBounds_toArray, List.set_cons_zero, List.set_cons_succ]
              refine take_on 7 (v := ?_) rfl rfl (by kernel_rfl) (by kernel_rfl) (by kernel_rfl) (fun _ _ _ h => h) (by rfl) (fun w => ?_) ?_
              rotate_left
              · (go_simp; try with_reducible rfl)
              simp only [List.setIfInBounds_toArray, List.set_cons_zero, List.set_cons_succ]
              refine take_on 9 (v := ?_) rfl rfl (by kernel_rfl) (by kernel_rfl) (by kernel_rfl) (fun _ _ _ h => h) (by rfl) (fun w => ?_) ?_
              rotate_left
              · (go_simp; try with_reducible rfl)
              simp only [List.setIfInBounds_toArray, List.set_cons_zero, List.set_cons_succ]
              refine take_on 10 (v := ?_) rfl rfl (by kernel_rfl) (by kernel_rfl) (by kernel_rfl) (fun _ _ _ h => h) (by rfl) (fun w => ?_) ?_
              rotate_left
              · (go_simp; try with_reducible rfl)
              simp only [List.setIfInBounds_toArray, List.set_cons_zero, List.set_cons_succ]
              refine take_on 11 (v := ?_) rfl rfl (by kernel_rfl) (by kernel_rfl) (by kernel_rfl) (fun _ _ _ h => h) (by rfl) (fun w => ?_) ?_
              rotate_left
              · (go_simp; try with_reducible rfl)
              simp only [List.setIfInBounds_toArray, List.set_cons_zero, List.set_cons_succ]
              refine wpAny_ready (rs := [8, 12]) (by kernel_rfl) (by simp) (AllReady.cons rfl (fun K hK => ?_) (AllReady.cons rfl (fun K hK => ?_) AllReady.nil))
              · go_simp
                refine hK _ _ ?_
                clear hK K
                refine wpAny_ready (rs := [12]) (by kernel_rfl) (by simp) (AllReady.cons rfl (fun K hK => ?_) AllReady.nil)
                go_simp
                refine hK _ _ ?_
                clear hK K
                refine wpAny_ready (rs := [13]) (by kernel_rfl) (by simp) (AllReady.cons rfl (fun K hK => ?_) AllReady.nil)
                go_simp
                go_wp2_with fail
                refine (CM.out _).mono ?_
                rintro e w4 ⟨rfl, hb4⟩
                have HB4 := hid hb4
                clear hb4
                refine hK _ _ ?_
                clear hK K
                refine take_on 14 (v := ?_) rfl rfl (by kernel_rfl) (by kernel_rfl) (by kernel_rfl) (fun _ _ _ h => h) (by rfl) (fun w => ?_) ?_
                rotate_left
                · (go_simp; try with_reducible rfl)
                simp only [List.setIfInBounds_toArray, List.set_cons_zero, List.set_cons_succ]
                refine wpAny_done (by kernel_rfl) ?_ _
                clear a30 a31 b30 b31
                have HX : Hid (Below wr.heap.size wr w4) := (below_drew1 wr).trans ((HB3.out.mono (by simp)).trans (((below_drew1 w3).mono (by have := HB3.out.size; simpa using this)).trans (HB4.out.mono (by have := HB3.out.size; simpa using this))))
                have hownX := row_ownBelow HOWN.out HX.out
                have HBX : Hid (Below w.heap.size w w4) := HB.out.trans (HX.out.mono HS.out)
                have HSX : Hid (w.heap.size ≤ (w4).heap.size) := HBX.out.size
                have x0 : (w4).cell? ⟨bg, bo + k * 2, none⟩ = some (.string (Sof B k)) := by rw [HX.out.cell (p := ⟨bg, bo + k * 2, none⟩) bl]; exact b0
                have x1 : (w4).cell? ⟨bg, bo + k * 2 + 1, none⟩ = some (.int .i64 (Mof B k)) := by rw [HX.out.cell (p := ⟨bg, bo + k * 2 + 1, none⟩) bl]; exact b1
                go_wp2_with (at_builtin; refine wpList_append_own _ rfl _ _ 23 rfl w.heap.size 29 i0 (.agg #[.string ⟨#[]⟩, .int .i64 0]) 2 24 Try.underlying23 hi hz0 hz1 hz2 rfl (by decide) _ _ _ rfl (hownX.alloc _) ⟨(w4).heap.size, 0, none⟩ 1 1 [.string (Sof B k), .int .i64 (Mof B k)] rfl rfl (cell_new2 _ _ _ _) (by simp [Value.oneCell']) (by unfold maxLen; omega) (by omega) (by have := HSX.out; simp at this ⊢; omega) ?_)
                intro v' w5 hown' hgrow _
                have HB5 : Hid (Below w.heap.size w w5) := (HBX.out.alloc HSX.out _).trans (below_grown (hownX.alloc _) (by have := HSX.out; simp at this ⊢; omega) hgrow)
                have HOWN' := hid hown'
                clear hown' hgrow hownX x0 x1
                go_wp2
                go_roundw
                case rel =>
                  obtain ⟨g, hg1, hg2⟩ := HREL.out
                  refine ⟨HB5.out, i, k + 1, g, P ++ [(Sof B k, Mof B k)], by omega, by omega, by go_num, by go_num, by simp; omega, ?_, hg1, hg2⟩
                  have := HOWN'.out
                  rw [hcells_append]
                  simpa [hcells] using this
                case measure => simp [intOf]; omega
              · go_simp
                refine hK _ _ ?_
                clear hK K
                refine wpAny_ready (rs := [8]) (by kernel_rfl) (by simp) (AllReady.cons rfl (fun K hK => ?_) AllReady.nil)
                go_simp
                refine hK _ _ ?_
                clear hK K
                refine wpAny_ready (rs := [13]) (by kernel_rfl) (by simp) (AllReady.cons rfl (fun K hK => ?_) AllReady.nil)
                go_simp
                go_wp2_with fail
                refine (CM.out _).mono ?_
                rintro e w4 ⟨rfl, hb4⟩
                have HB4 := hid hb4
                clear hb4
                refine hK _ _ ?_
                clear hK K
                refine take_on 14 (v := ?_) rfl rfl (by kernel_rfl) (by kernel_rfl) (by kernel_rfl) (fun _ _ _ h => h) (by rfl) (fun w => ?_) ?_
                rotate_left
                · (go_simp; try with_reducible rfl)
                simp only [List.setIfInBounds_toArray, List.set_cons_zero, List.set_cons_succ]
                refine wpAny_done (by kernel_rfl) ?_ _
                clear a30 a31 b30 b31
                have HX : Hid (Below wr.heap.size wr w4) := (below_drew1 wr).trans ((HB3.out.mono (by simp)).trans (((below_drew1 w3).mono (by have := HB3.out.size; simpa using this)).trans (HB4.out.mono (by have := HB3.out.size; simpa using this))))
                have hownX := row_ownBelow HOWN.out HX.out
                have HBX : Hid (Below w.heap.size w w4) := HB.out.trans (HX.out.mono HS.out)
                have HSX : Hid (w.heap.size ≤ (w4).heap.size) := HBX.out.size
                have x0 : (w4).cell? ⟨bg, bo + k * 2, none⟩ = some (.string (Sof B k)) := by rw [HX.out.cell (p := ⟨bg, bo + k * 2, none⟩) bl]; exact b0
                have x1 : (w4).cell? ⟨bg, bo + k * 2 + 1, none⟩ = some (.int .i64 (Mof B k)) := by rw [HX.out.cell (p := ⟨bg, bo + k * 2 + 1, none⟩) bl]; exact b1
                go_wp2_with (at_builtin; refine wpList_append_own _ rfl _ _ 23 rfl w.heap.size 29 i0 (.agg #[.string ⟨#[]⟩, .int .i64 0]) 2 24 Try.underlying23 hi hz0 hz1 hz2 rfl (by decide) _ _ _ rfl (hownX.alloc _) ⟨(w4).heap.size, 0, none⟩ 1 1 [.string (Sof B k), .int .i64 (Mof B k)] rfl rfl (cell_new2 _ _ _ _) (by simp [Value.oneCell']) (by unfold maxLen; omega) (by omega) (by have := HSX.out; simp at this ⊢; omega) ?_)
                intro v' w5 hown' hgrow _
                have HB5 : Hid (Below w.heap.size w w5) := (HBX.out.alloc HSX.out _).trans (below_grown (hownX.alloc _) (by have := HSX.out; simp at this ⊢; omega) hgrow)
                have HOWN' := hid hown'
                clear hown' hgrow hownX x0 x1
                go_wp2
                go_roundw
                case rel =>
                  obtain ⟨g, hg1, hg2⟩ := HREL.out
                  refine ⟨HB5.out, i, k + 1, g, P ++ [(Sof B k, Mof B k)], by omega, by omega, by go_num, by go_num, by simp; omega, ?_, hg1, hg2⟩
                  have := HOWN'.out
                  rw [hcells_append]
                  simpa [hcells] using this
                case measure => simp [intOf]; omega
        · have CL : Hid (∀ W, Calls Try.prog 16 #[.agg #[.string (Sof A i), .int .i64 (Mof A i)], .agg #[.string (Sof B k), .int .i64 (Mof B k)]] W fun e w' => e = .returned (.bool true) ∧ Below W.heap.size W w') := fun W => by have h := less_any (Sof A i) (Sof B k) (Mof A i) (Mof B k) W; rw [show lessB (Sof A i) (Mof A i) (Sof B k) (Mof B k) = true from hl] at h; exact h
          have HREL := hid (rel_a A B P T i k f hia HF.out HRR.out (Or.inr ⟨hkb, by rw [hA1]; exact hl⟩))
          clear hl hA1 hA2
          go_wp2_with fail
          refine wp_region_any (by kernel_rfl) ?_
          change wpAny _ _ _ _ _ _ _ (World.drew _)
          refine take_on 0 (v := ?_) rfl rfl (by kernel_rfl) (by kernel_rfl) (by kernel_rfl) (fun _ _ _ h => h) (by rfl) (fun w => ?_) ?_
          rotate_left
          · (go_simp; try with_reducible rfl)
          simp only [List.setIfInBounds_toArray, List.set_cons_zero, List.set_cons_succ]
          refine take_on 1 (v := ?_) rfl rfl (by kernel_rfl) (by kernel_rfl) (by kernel_rfl) (fun _ _ _ h => h) (by rfl) (fun w => ?_) ?_
          rotate_left
          · (go_simp; try with_reducible rfl)
          simp only [List.setIfInBounds_toArray, List.set_cons_zero, List.set_cons_succ]
          refine take_on 2 (v := ?_) rfl rfl (by kernel_rfl) (by kernel_rfl) (by kernel_rfl) (fun _ _ _ h => h) (by rfl) (fun w => ?_) ?_
          rotate_left
          · (go_simp; try with_reducible rfl)
          simp only [List.setIfInBounds_toArray, List.set_cons_zero, List.set_cons_succ]
          refine take_on 3 (v := .bool false) rfl rfl (by kernel_rfl) (by kernel_rfl) (by kernel_rfl) (fun _ _ _ h => h) (by rfl) (fun w => ?_) ?_
          · (go_simp; all_goals (first | omega | (intro hh; omega)))
          simp only [List.setIfInBounds_toArray, List.set_cons_zero, List.set_cons_succ]
          refine take_on 4 (v := ?_) rfl rfl (by kernel_rfl) (by kernel_rfl) (by kernel_rfl) (fun _ _ _ h => h) (by rfl) (fun w => ?_) ?_
          rotate_left
          · (go_simp; try with_reducible rfl)
          simp only [List.setIfInBounds_toArray, List.set_cons_zero, List.set_cons_succ]
          refine take_on 5 (v := ?_) rfl rfl (by kernel_rfl) (by kernel_rfl) (by kernel_rfl) (fun _ _ _ h => h) (by rfl) (fun w => ?_) ?_
          rotate_left
          · (go_simp; try with_reducible rfl)
          simp only [List.setIfInBounds_toArray, List.set_cons_zero, List.set_cons_succ]
          refine take_on 6 (v := ?_) rfl rfl (by kernel_rfl) (by kernel_rfl) (by kernel_rfl) (fun _ _ _ h => h) (by rfl) (fun w => ?_) ?_
          rotate_left
          · (go_simp; try with_reducible rfl)
          simp only [List.setIfInBounds_toArray, List.set_cons_zero, List.set_cons_succ]
          refine take_on 7 (v := ?_) rfl rfl (by kernel_rfl) (by kernel_rfl) (by kernel_rfl) (fun _ _ _ h => h) (by rfl) (fun w => ?_) ?_
          rotate_left
          · (go_simp; try with_reducible rfl)
          simp only [List.setIfInBounds_toArray, List.set_cons_zero, List.set_cons_succ]
          refine take_on 8 (v := .bool true) rfl rfl (by kernel_rfl) (by kernel_rfl) (by kernel_rfl) (fun _ _ _ h => h) (by rfl) (fun w => ?_) ?_
          · (go_simp; all_goals (first | omega | (intro hh; omega)))
          simp only [List.setIfInBounds_toArray, List.set_cons_zero, List.set_cons_succ]
          refine take_on 9 (v := ?_) rfl rfl (by kernel_rfl) (by kernel_rfl) (by kernel_rfl) (fun _ _ _ h => h) (by rfl) (fun w => ?_) ?_
          rotate_left
          · (go_simp; try with_reducible rfl)
          simp only [List.setIfInBounds_toArray, List.set_cons_zero, List.set_cons_succ]
          refine take_on 10 (v := ?_) rfl rfl (by kernel_rfl) (by kernel_rfl) (by kernel_rfl) (fun _ _ _ h => h) (by rfl) (fun w => ?_) ?_
          rotate_left
          · (go_simp; try with_reducible rfl)
          simp only [List.setIfInBounds_toArray, List.set_cons_zero, List.set_cons_succ]
          refine take_on 11 (v := ?_) rfl rfl (by kernel_rfl) (by kernel_rfl) (by kernel_rfl) (fun _ _ _ h => h) (by rfl) (fun w => ?_) ?_
          rotate_left
          · (go_simp; try with_reducible rfl)
          simp only [List.setIfInBounds_toArray, List.set_cons_zero, List.set_cons_succ]
          refine take_on 12 (v := ?_) rfl rfl (by kernel_rfl) (by kernel_rfl) (by kernel_rfl) (fun _ _ _ h => h) (by rfl) (fun w => ?_) ?_
          rotate_left
          · (go_simp; try with_reducible rfl)
          simp only [List.setIfInBounds_toArray, List.set_cons_zero, List.set_cons_succ]
          refine take_on 14 (v := ?_) rfl rfl (by kernel_rfl) (by kernel_rfl) (by kernel_rfl) (fun _ _ _ h => h) (by rfl) (fun w => ?_) ?_
          rotate_left
          · (go_simp; try with_reducible rfl)
          simp only [List.setIfInBounds_toArray, List.set_cons_zero, List.set_cons_succ]
          refine take_on 15 (v := ?_) rfl rfl (by kernel_rfl) (by kernel_rfl) (by kernel_rfl) (fun _ _ _ h => h) (by rfl) (fun w => ?_) ?_
          rotate_left
          · (go_simp; try with_reducible rfl)
          simp only [List.setIfInBounds_toArray, List.set_cons_zero, List.set_cons_succ]
          refine take_on 16 (v := ?_) rfl rfl (by kernel_rfl) (by kernel_rfl) (by kernel_rfl) (fun _ _ _ h => h) (by rfl) (fun w => ?_) ?_
          rotate_left
          · (go_simp; try with_reducible rfl)
          simp only [List.setIfInBounds_toArray, List.set_cons_zero, List.set_cons_succ]
          refine wpAny_ready (rs := [13, 17]) (by kernel_rfl) (by simp) (AllReady.cons rfl (fun K hK => ?_) (AllReady.cons rfl (fun K hK => ?_) AllReady.nil))
          · go_simp
            refine hK _ _ ?_
            clear hK K
            refine wpAny_ready (rs := [17]) (by kernel_rfl) (by simp) (AllReady.cons rfl (fun K hK => ?_) AllReady.nil)
            go_simp
            refine hK _ _ ?_
            clear hK K
            refine wpAny_ready (rs := [18]) (by kernel_rfl) (by simp) (AllReady.cons rfl (fun K hK => ?_) AllReady.nil)
            go_simp
            go_wp2_with fail
            refine (CL.out _).mono ?_
            rintro e w3 ⟨rfl, hb3⟩
            have HB3 := hid hb3
            clear hb3
            refine hK _ _ ?_
            clear hK K
            refine take_on 19 (v := ?_) rfl rfl (by kernel_rfl) (by kernel_rfl) (by kernel_rfl) (fun _ _ _ h => h) (by rfl) (fun w => ?_) ?_
            rotate_left
            · (go_simp; try with_reducible rfl)
            simp only [List.setIfInBounds_toArray, List.set_cons_zero, List.set_cons_succ]
            refine take_on 20 (v := ?_) rfl rfl (by kernel_rfl) (by kernel_rfl) (by kernel_rfl) (fun _ _ _ h => h) (by rfl) (fun w => ?_) ?_
            rotate_left
            · (go_simp; try with_reducible rfl)
            simp only [List.setIfInBounds_toArray, List.set_cons_zero, List.set_cons_succ]
            refine wpAny_done (by kernel_rfl) ?_ _
            have HX : Hid (Below wr.heap.size wr w3) := (below_drew1 wr).trans (HB3.out.mono (by simp))
            have hownX := row_ownBelow HOWN.out HX.out
            have HBX : Hid (Below w.heap.size w w3) := HB.out.trans (HX.out.mono HS.out)
            have HSX : Hid (w.heap.size ≤ (w3).heap.size) := HBX.out.size
            have x0 : (w3).cell? ⟨ag, ao + i * 2, none⟩ = some (.string (Sof A i)) := by rw [HX.out.cell (p := ⟨ag, ao + i * 2, none⟩) al]; exact a0
            have x1 : (w3).cell? ⟨ag, ao + i * 2 + 1, none⟩ = some (.int .i64 (Mof A i)) := by rw [HX.out.cell (p := ⟨ag, ao + i * 2 + 1, none⟩) al]; exact a1
            go_wp2_with (at_builtin; refine wpList_append_own _ rfl _ _ 23 rfl w.heap.size 29 i0 (.agg #[.string ⟨#[]⟩, .int .i64 0]) 2 24 Try.underlying23 hi hz0 hz1 hz2 rfl (by decide) _ _ _ rfl (hownX.alloc _) ⟨(w3).heap.size, 0, none⟩ 1 1 [.string (Sof A i), .int .i64 (Mof A i)] rfl rfl (cell_new2 _ _ _ _) (by simp [Value.oneCell']) (by unfold maxLen; omega) (by omega) (by have := HSX.out; simp at this ⊢; omega) ?_)
            intro v' w5 hown' hgrow _
            have HB5 : Hid (Below w.heap.size w w5) := (HBX.out.alloc HSX.out _).trans (below_grown (hownX.alloc _) (by have := HSX.out; simp at this ⊢; omega) hgrow)
            have HOWN' := hid hown'
            clear hown' hgrow hownX x0 x1
            go_wp2
            go_roundw
            case rel =>
              obtain ⟨g, hg1, hg2⟩ := HREL.out
              refine ⟨HB5.out, i + 1, k, g, P ++ [(Sof A i, Mof A i)], by omega, by omega, by go_num, by go_num, by simp; omega, ?_, hg1, hg2⟩
              have := HOWN'.out
              rw [hcells_append]
              simpa [hcells] using this
            case measure => simp [intOf]; omega
          · go_simp
            refine hK _ _ ?_
            clear hK K
            refine wpAny_ready (rs := [13]) (by kernel_rfl) (by simp) (AllReady.cons rfl (fun K hK => ?_) AllReady.nil)
            go_simp
            refine hK _ _ ?_
            clear hK K
            refine wpAny_ready (rs := [18]) (by kernel_rfl) (by simp) (AllReady.cons rfl (fun K hK => ?_) AllReady.nil)
            go_simp
            go_wp2_with fail
            refine (CL.out _).mono ?_
            rintro e w3 ⟨rfl, hb3⟩
            have HB3 := hid hb3
            clear hb3
            refine hK _ _ ?_
            clear hK K
            refine take_on 19 (v := ?_) rfl rfl (by kernel_rfl) (by kernel_rfl) (by kernel_rfl) (fun _ _ _ h => h) (by rfl) (fun w => ?_) ?_
            rotate_left
            · (go_simp; try with_reducible rfl)
            simp only [List.setIfInBounds_toArray, List.set_cons_zero, List.set_cons_succ]
            refine take_on 20 (v := ?_) rfl rfl (by kernel_rfl) (by kernel_rfl) (by kernel_rfl) (fun _ _ _ h => h) (by rfl) (fun w => ?_) ?_
            rotate_left
            · (go_simp; try with_reducible rfl)
            simp only [List.setIfInBounds_toArray, List.set_cons_zero, List.set_cons_succ]
            refine wpAny_done (by kernel_rfl) ?_ _
            have HX : Hid (Below wr.heap.size wr w3) := (below_drew1 wr).trans (HB3.out.mono (by simp))
            have hownX := row_ownBelow HOWN.out HX.out
            have HBX : Hid (Below w.heap.size w w3) := HB.out.trans (HX.out.mono HS.out)
            have HSX : Hid (w.heap.size ≤ (w3).heap.size) := HBX.out.size
            have x0 : (w3).cell? ⟨ag, ao + i * 2, none⟩ = some (.string (Sof A i)) := by rw [HX.out.cell (p := ⟨ag, ao + i * 2, none⟩) al]; exact a0
            have x1 : (w3).cell? ⟨ag, ao + i * 2 + 1, none⟩ = some (.int .i64 (Mof A i)) := by rw [HX.out.cell (p := ⟨ag, ao + i * 2 + 1, none⟩) al]; exact a1
            go_wp2_with (at_builtin; refine wpList_append_own _ rfl _ _ 23 rfl w.heap.size 29 i0 (.agg #[.string ⟨#[]⟩, .int .i64 0]) 2 24 Try.underlying23 hi hz0 hz1 hz2 rfl (by decide) _ _ _ rfl (hownX.alloc _) ⟨(w3).heap.size, 0, none⟩ 1 1 [.string (Sof A i), .int .i64 (Mof A i)] rfl rfl (cell_new2 _ _ _ _) (by simp [Value.oneCell']) (by unfold maxLen; omega) (by omega) (by have := HSX.out; simp at this ⊢; omega) ?_)
            intro v' w5 hown' hgrow _
            have HB5 : Hid (Below w.heap.size w w5) := (HBX.out.alloc HSX.out _).trans (below_grown (hownX.alloc _) (by have := HSX.out; simp at this ⊢; omega) hgrow)
            have HOWN' := hid hown'
            clear hown' hgrow hownX x0 x1
            go_wp2
            go_roundw
            case rel =>
              obtain ⟨g, hg1, hg2⟩ := HREL.out
              refine ⟨HB5.out, i + 1, k, g, P ++ [(Sof A i, Mof A i)], by omega, by omega, by go_num, by go_num, by simp; omega, ?_, hg1, hg2⟩
              have := HOWN'.out
              rw [hcells_append]
              simpa [hcells] using this
            case measure => simp [intOf]; omega
      · have hiI : ¬ (i : Int) < (A.length : Int) := by omega
        subst be
        have HREL := hid (rel_b A B P T i k f hkb HF.out HRR.out (Or.inl hia))
        go_wp2_with fail
        refine wp_region_any (by kernel_rfl) ?_
        change wpAny _ _ _ _ _ _ _ (World.drew _)
        refine take_on 0 (v := ?_) rfl rfl (by kernel_rfl) (by kernel_rfl) (by kernel_rfl) (fun _ _ _ h => h) (by rfl) (fun w => ?_) ?_
        rotate_left
        · (go_simp; try with_reducible rfl)
        simp only [List.setIfInBounds_toArray, List.set_cons_zero, List.set_cons_succ]
        refine take_on 1 (v := ?_) rfl rfl (by kernel_rfl) (by kernel_rfl) (by kernel_rfl) (fun _ _ _ h => h) (by rfl) (fun w => ?_) ?_
        rotate_left
        · (go_simp; try with_reducible rfl)
        simp only [List.setIfInBounds_toArray, List.set_cons_zero, List.set_cons_succ]
        refine take_on 2 (v := ?_) rfl rfl (by kernel_rfl) (by kernel_rfl) (by kernel_rfl) (fun _ _ _ h => h) (by rfl) (fun w => ?_) ?_
        rotate_left
        · (go_simp; try with_reducible rfl)
        simp only [List.setIfInBounds_toArray, List.set_cons_zero, List.set_cons_succ]
        refine take_on 3 (v := .bool false) rfl rfl (by kernel_rfl) (by kernel_rfl) (by kernel_rfl) (fun _ _ _ h => h) (by rfl) (fun w => ?_) ?_
        · (go_simp; all_goals (first | omega | (intro hh; omega)))
        simp only [List.setIfInBounds_toArray, List.set_cons_zero, List.set_cons_succ]
        refine take_on 4 (v := ?_) rfl rfl (by kernel_rfl) (by kernel_rfl) (by kernel_rfl) (fun _ _ _ h => h) (by rfl) (fun w => ?_) ?_
        rotate_left
        · (go_simp; try with_reducible rfl)
        simp only [List.setIfInBounds_toArray, List.set_cons_zero, List.set_cons_succ]
        refine take_on 5 (v := ?_) rfl rfl (by kernel_rfl) (by kernel_rfl) (by kernel_rfl) (fun _ _ _ h => h) (by rfl) (fun w => ?_) ?_
        rotate_left
        · (go_simp; try with_reducible rfl)
        simp only [List.setIfInBounds_toArray, List.set_cons_zero, List.set_cons_succ]
        refine take_on 6 (v := ?_) rfl rfl (by kernel_rfl) (by kernel_rfl) (by kernel_rfl) (fun _ _ _ h => h) (by rfl) (fun w => ?_) ?_
        rotate_left
        · (go_simp; try with_reducible rfl)
        simp only [List.setIfInBounds_toArray, List.set_cons_zero, List.set_cons_succ]
        refine take_on 7 (v := ?_) rfl rfl (by kernel_rfl) (by kernel_rfl) (by kernel_rfl) (fun _ _ _ h => h) (by rfl) (fun w => ?_) ?_
        rotate_left
        · (go_simp; try with_reducible rfl)
        simp only [List.setIfInBounds_toArray, List.set_cons_zero, List.set_cons_succ]
        refine take_on 8 (v := .bool false) rfl rfl (by kernel_rfl) (by kernel_rfl) (by kernel_rfl) (fun _ _ _ h => h) (by rfl) (fun w => ?_) ?_
        · (go_simp; all_goals (first | omega | (intro hh; omega)))
        simp only [List.setIfInBounds_toArray, List.set_cons_zero, List.set_cons_succ]
        refine take_on 9 (v := ?_) rfl rfl (by kernel_rfl) (by kernel_rfl) (by kernel_rfl) (fun _ _ _ h => h) (by rfl) (fun w => ?_) ?_
        rotate_left
        · (go_simp; try with_reducible rfl)
        simp only [List.setIfInBounds_toArray, List.set_cons_zero, List.set_cons_succ]
        refine take_off 10 rfl rfl (by kernel_rfl) (by kernel_rfl) (by kernel_rfl) (fun _ _ _ h => h) (by rfl) ?_
        simp only [List.setIfInBounds_toArray, List.set_cons_zero, List.set_cons_succ]
        refine take_off 11 rfl rfl (by kernel_rfl) (by kernel_rfl) (by kernel_rfl) (fun _ _ _ h => h) (by rfl) ?_
        simp only [List.setIfInBounds_toArray, List.set_cons_zero, List.set_cons_succ]
        refine take_off 12 rfl rfl (by kernel_rfl) (by kernel_rfl) (by kernel_rfl) (fun _ _ _ h => h) (by rfl) ?_
        simp only [List.setIfInBounds_toArray, List.set_cons_zero, List.set_cons_succ]
        refine take_off 13 rfl rfl (by kernel_rfl) (by kernel_rfl) (by kernel_rfl) (fun _ _ _ h => h) (by rfl) ?_
        simp only [List.setIfInBounds_toArray, List.set_cons_zero, List.set_cons_succ]
        refine take_off 14 rfl rfl (by kernel_rfl) (by kernel_rfl) (by kernel_rfl) (fun _ _ _ h => h) (by rfl) ?_
        simp only [List.setIfInBounds_toArray, List.set_cons_zero, List.set_cons_succ]
        refine take_off 15 rfl rfl (by kernel_rfl) (by kernel_rfl) (by kernel_rfl) (fun _ _ _ h => h) (by rfl) ?_
        simp only [List.setIfInBounds_toArray, List.set_cons_zero, List.set_cons_succ]
        refine take_off 16 rfl rfl (by kernel_rfl) (by kernel_rfl) (by kernel_rfl) (fun _ _ _ h => h) (by rfl) ?_
        simp only [List.setIfInBounds_toArray, List.set_cons_zero, List.set_cons_succ]
        refine take_off 17 rfl rfl (by kernel_rfl) (by kernel_rfl) (by kernel_rfl) (fun _ _ _ h => h) (by rfl) ?_
        simp only [List.setIfInBounds_toArray, List.set_cons_zero, List.set_cons_succ]
        refine take_off 18 rfl rfl (by kernel_rfl) (by kernel_rfl) (by kernel_rfl) (fun _ _ _ h => h) (by rfl) ?_
        simp only [List.setIfInBounds_toArray, List.set_cons_zero, List.set_cons_succ]
        refine take_on 19 (v := ?_) rfl rfl (by kernel_rfl) (by kernel_rfl) (by kernel_rfl) (fun _ _ _ h => h) (by rfl) (fun w => ?_) ?_
        rotate_left
        · (go_simp; try with_reducible rfl)
        simp only [List.setIfInBounds_toArray, List.set_cons_zero, List.set_cons_succ]
        refine take_on 20 (v := ?_) rfl rfl (by kernel_rfl) (by kernel_rfl) (by kernel_rfl) (fun _ _ _ h => h) (by rfl) (fun w => ?_) ?_
        rotate_left
        · (go_simp; try with_reducible rfl)
        simp only [List.setIfInBounds_toArray, List.set_cons_zero, List.set_cons_succ]
        refine wpAny_done (by kernel_rfl) ?_ _
        go_wp2_with fail
        refine wp_region_any (by kernel_rfl) ?_
        change wpAny _ _ _ _ _ _ _ (World.drew _)
        refine take_on 0 (v := ?_) rfl rfl (by kernel_rfl) (by kernel_rfl) (by kernel_rfl) (fun _ _ _ h => h) (by rfl) (fun w => ?_) ?_
        rotate_left
        · (go_simp; try with_reducible rfl)
        simp only [List.setIfInBounds_toArray, List.set_cons_zero, List.set_cons_succ]
        refine take_on 1 (v := ?_) rfl rfl (by kernel_rfl) (by kernel_rfl) (by kernel_rfl) (fun _ _ _ h => h) (by rfl) (fun w => ?_) ?_
        rotate_left
        · (go_simp; try with_reducible rfl)
        simp only [List.setIfInBounds_toArray, List.set_cons_zero, List.set_cons_succ]
        refine take_on 2 (v := ?_) rfl rfl (by kernel_rfl) (by kernel_rfl) (by kernel_rfl) (fun _ _ _ h => h) (by rfl) (fun w => ?_) ?_
        rotate_left
        · (go_simp; try with_reducible rfl)
        simp only [List.setIfInBounds_toArray, List.set_cons_zero, List.set_cons_succ]
        refine take_on 3 (v := .bool true) rfl rfl (by kernel_rfl) (by kernel_rfl) (by kernel_rfl) (fun _ _ _ h => h) (by rfl) (fun w => ?_) ?_
        · (go_simp; all_goals (first | omega | (intro hh; omega)))
        simp only [List.setIfInBounds_toArray, List.set_cons_zero, List.set_cons_succ]
        refine take_on 4 (v := ?_) rfl rfl (by kernel_rfl) (by kernel_rfl) (by kernel_rfl) (fun _ _ _ h => h) (by rfl) (fun w => ?_) ?_
        rotate_left
        · (go_simp; try with_reducible rfl)
        simp only [List.setIfInBounds_toArray, List.set_cons_zero, List.set_cons_succ]
        refine take_off 5 rfl rfl (by kernel_rfl) (by kernel_rfl) (by kernel_rfl) (fun _ _ _ h => h) (by rfl) ?_
        simp only [List.setIfInBounds_toArray, List.set_cons_zero, List.set_cons_succ]
        refine take_off 6 rfl rfl (by kernel_rfl) (by kernel_rfl) (by kernel_rfl) (fun _ _ _ h => h) (by rfl) ?_
        simp only [List.setIfInBounds_toArray, List.set_cons_zero, List.set_cons_succ]
        refine take_off 7 rfl rfl (by kernel_rfl) (by kernel_rfl) (by kernel_rfl) (fun _ _ _ h => h) (by rfl) ?_
        simp only [List.setIfInBounds_toArray, List.set_cons_zero, List.set_cons_succ]
        refine take_off 8 rfl rfl (by kernel_rfl) (by kernel_rfl) (by kernel_rfl) (fun _ _ _ h => h) (by rfl) ?_
        simp only [List.setIfInBounds_toArray, List.set_cons_zero, List.set_cons_succ]
        refine take_off 9 rfl rfl (by kernel_rfl) (by kernel_rfl) (by kernel_rfl) (fun _ _ _ h => h) (by rfl) ?_
        simp only [List.setIfInBounds_toArray, List.set_cons_zero, List.set_cons_succ]
        refine take_off 10 rfl rfl (by kernel_rfl) (by kernel_rfl) (by kernel_rfl) (fun _ _ _ h => h) (by rfl) ?_
        simp only [List.setIfInBounds_toArray, List.set_cons_zero, List.set_cons_succ]
        refine take_off 11 rfl rfl (by kernel_rfl) (by kernel_rfl) (by kernel_rfl) (fun _ _ _ h => h) (by rfl) ?_
        simp only [List.setIfInBounds_toArray, List.set_cons_zero, List.set_cons_succ]
        refine take_off 12 rfl rfl (by kernel_rfl) (by kernel_rfl) (by kernel_rfl) (fun _ _ _ h => h) (by rfl) ?_
        simp only [List.setIfInBounds_toArray, List.set_cons_zero, List.set_cons_succ]
        refine take_off 13 rfl rfl (by kernel_rfl) (by kernel_rfl) (by kernel_rfl) (fun _ _ _ h => h) (by rfl) ?_
        simp only [List.setIfInBounds_toArray, List.set_cons_zero, List.set_cons_succ]
        refine take_on 14 (v := ?_) rfl rfl (by kernel_rfl) (by kernel_rfl) (by kernel_rfl) (fun _ _ _ h => h) (by rfl) (fun w => ?_) ?_
        rotate_left
        · (go_simp; try with_reducible rfl)
        simp only [List.setIfInBounds_toArray, List.set_cons_zero, List.set_cons_succ]
        refine wpAny_done (by kernel_rfl) ?_ _
        have HX : Hid (Below wr.heap.size wr wr.drew.drew) := (below_drew1 wr).trans (below_drew1 wr.drew)
        have hownX := row_ownBelow HOWN.out HX.out
        have HBX : Hid (Below w.heap.size w wr.drew.drew) := HB.out.trans (HX.out.mono HS.out)
        have HSX : Hid (w.heap.size ≤ (wr.drew.drew).heap.size) := HBX.out.size
        have x0 : (wr.drew.drew).cell? ⟨bg, bo + k * 2, none⟩ = some (.string (Sof B k)) := by rw [HX.out.cell (p := ⟨bg, bo + k * 2, none⟩) bl]; exact b0
        have x1 : (wr.drew.drew).cell? ⟨bg, bo + k * 2 + 1, none⟩ = some (.int .i64 (Mof B k)) := by rw [HX.out.cell (p := ⟨bg, bo + k * 2 + 1, none⟩) bl]; exact b1
        go_wp2_with (at_builtin; refine wpList_append_own _ rfl _ _ 23 rfl w.heap.size 29 i0 (.agg #[.string ⟨#[]⟩, .int .i64 0]) 2 24 Try.underlying23 hi hz0 hz1 hz2 rfl (by decide) _ _ _ rfl (hownX.alloc _) ⟨(wr.drew.drew).heap.size, 0, none⟩ 1 1 [.string (Sof B k), .int .i64 (Mof B k)] rfl rfl (cell_new2 _ _ _ _) (by simp [Value.oneCell']) (by unfold maxLen; omega) (by omega) (by have := HSX.out; simp at this ⊢; omega) ?_)
        intro v' w5 hown' hgrow _
        have HB5 : Hid (Below w.heap.size w w5) := (HBX.out.alloc HSX.out _).trans (below_grown (hownX.alloc _) (by have := HSX.out; simp at this ⊢; omega) hgrow)
        have HOWN' := hid hown'
        clear hown' hgrow hownX x0 x1
        go_wp2
        go_roundw
        case rel =>
          obtain ⟨g, hg1, hg2⟩ := HREL.out
          refine ⟨HB5.out, i, k + 1, g, P ++ [(Sof B k, Mof B k)], by omega, by omega, by go_num, by go_num, by simp; omega, ?_, hg1, hg2⟩
          have := HOWN'.out
          rw [hcells_append]
          simpa [hcells] using this
        case measure => simp [intOf]; omega
    · by_cases hia : i < A.length
      · have hiI : (i : Int) < (A.length : Int) := by omega
        obtain ⟨ag, ao, ae, al, a0, a1⟩ := HLA.out i hia
        subst ae
        have hkI : ¬ (k : Int) < (B.length : Int) := by omega
        have HREL := hid (rel_a A B P T i k f hia HF.out HRR.out (Or.inl hkb))
        go_wp2_with fail
        refine wp_region_any (by kernel_rfl) ?_
        change wpAny _ _ _ _ _ _ _ (World.drew _)
        refine take_on 0 (v := ?_) rfl rfl (by kernel_rfl) (by kernel_rfl) (by kernel_rfl) (fun _ _ _ h => h) (by rfl) (fun w => ?_) ?_
        rotate_left
        · (go_simp; try with_reducible rfl)
        simp only [List.setIfInBounds_toArray, List.set_cons_zero, List.set_cons_succ]
        refine take_on 1 (v := ?_) rfl rfl (by kernel_rfl) (by kernel_rfl) (by kernel_rfl) (fun _ _ _ h => h) (by rfl) (fun w => ?_) ?_
        rotate_left
        · (go_simp; try with_reducible rfl)
        simp only [List.setIfInBounds_toArray, List.set_cons_zero, List.set_cons_succ]
        refine take_on 2 (v := ?_) rfl rfl (by kernel_rfl) (by kernel_rfl) (by kernel_rfl) (fun _ _ _ h => h) (by rfl) (fun w => ?_) ?_
        rotate_left
        · (go_simp; try with_reducible rfl)
        simp only [List.setIfInBounds_toArray, List.set_cons_zero, List.set_cons_succ]
        refine take_on 3 (v := .bool true) rfl rfl (by kernel_rfl) (by kernel_rfl) (by kernel_rfl) (fun _ _ _ h => h) (by rfl) (fun w => ?_) ?_
        · (go_simp; all_goals (first | omega | (intro hh; omega)))
        simp only [List.setIfInBounds_toArray, List.set_cons_zero, List.set_cons_succ]
        refine take_on 4 (v := ?_) rfl rfl (by kernel_rfl) (by kernel_rfl) (by kernel_rfl) (fun _ _ _ h => h) (by rfl) (fun w => ?_) ?_
        rotate_left
        · (go_simp; try with_reducible rfl)
        simp only [List.setIfInBounds_toArray, List.set_cons_zero, List.set_cons_succ]
        refine take_off 5 rfl rfl (by kernel_rfl) (by kernel_rfl) (by kernel_rfl) (fun _ _ _ h => h) (by rfl) ?_
        simp only [List.setIfInBounds_toArray, List.set_cons_zero, List.set_cons_succ]
        refine take_off 6 rfl rfl (by kernel_rfl) (by kernel_rfl) (by kernel_rfl) (fun _ _ _ h => h) (by rfl) ?_
        simp only [List.setIfInBounds_toArray, List.set_cons_zero, List.set_cons_succ]
        refine take_off 7 rfl rfl (by kernel_rfl) (by kernel_rfl) (by kernel_rfl) (fun _ _ _ h => h) (by rfl) ?_
        simp only [List.setIfInBounds_toArray, List.set_cons_zero, List.set_cons_succ]
        refine take_off 8 rfl rfl (by kernel_rfl) (by kernel_rfl) (by kernel_rfl) (fun _ _ _ h => h) (by rfl) ?_
        simp only [List.setIfInBounds_toArray, List.set_cons_zero, List.set_cons_succ]
        refine take_off 9 rfl rfl (by kernel_rfl) (by kernel_rfl) (by kernel_rfl) (fun _ _ _ h => h) (by rfl) ?_
        simp only [List.setIfInBounds_toArray, List.set_cons_zero, List.set_cons_succ]
        refine take_off 10 rfl rfl (by kernel_rfl) (by kernel_rfl) (by kernel_rfl) (fun _ _ _ h => h) (by rfl) ?_
        simp only [List.setIfInBounds_toArray, List.set_cons_zero, List.set_cons_succ]
        refine take_off 11 rfl rfl (by kernel_rfl) (by kernel_rfl) (by kernel_rfl) (fun _ _ _ h => h) (by rfl) ?_
        simp only [List.setIfInBounds_toArray, List.set_cons_zero, List.set_cons_succ]
        refine take_off 12 rfl rfl (by kernel_rfl) (by kernel_rfl) (by kernel_rfl) (fun _ _ _ h => h) (by rfl) ?_
        simp only [List.setIfInBounds_toArray, List.set_cons_zero, List.set_cons_succ]
        refine take_off 13 rfl rfl (by kernel_rfl) (by kernel_rfl) (by kernel_rfl) (fun _ _ _ h => h) (by rfl) ?_
        simp only [List.setIfInBounds_toArray, List.set_cons_zero, List.set_cons_succ]
        refine take_off 14 rfl rfl (by kernel_rfl) (by kernel_rfl) (by kernel_rfl) (fun _ _ _ h => h) (by rfl) ?_
        simp only [List.setIfInBounds_toArray, List.set_cons_zero, List.set_cons_succ]
        refine take_off 15 rfl rfl (by kernel_rfl) (by kernel_rfl) (by kernel_rfl) (fun _ _ _ h => h) (by rfl) ?_
        simp only [List.setIfInBounds_toArray, List.set_cons_zero, List.set_cons_succ]
        refine take_off 16 rfl rfl (by kernel_rfl) (by kernel_rfl) (by kernel_rfl) (fun _ _ _ h => h) (by rfl) ?_
        simp only [List.setIfInBounds_toArray, List.set_cons_zero, List.set_cons_succ]
        refine take_off 17 rfl rfl (by kernel_rfl) (by kernel_rfl) (by kernel_rfl) (fun _ _ _ h => h) (by rfl) ?_
        simp only [List.setIfInBounds_toArray, List.set_cons_zero, List.set_cons_succ]
        refine take_off 18 rfl rfl (by kernel_rfl) (by kernel_rfl) (by kernel_rfl) (fun _ _ _ h => h) (by rfl) ?_
        simp only [List.setIfInBounds_toArray, List.set_cons_zero, List.set_cons_succ]
        refine take_off 19 rfl rfl (by kernel_rfl) (by kernel_rfl) (by kernel_rfl) (fun _ _ _ h => h) (by rfl) ?_
        simp only [List.setIfInBounds_toArray, List.set_cons_zero, List.set_cons_succ]
        refine take_on 20 (v := ?_) rfl rfl (by kernel_rfl) (by kernel_rfl) (by kernel_rfl) (fun _ _ _ h => h) (by rfl) (fun w => ?_) ?_
        rotate_left
        · (go_simp; try with_reducible rfl)
        simp only [List.setIfInBounds_toArray, List.set_cons_zero, List.set_cons_succ]
        refine wpAny_done (by kernel_rfl) ?_ _
        have HX : Hid (Below wr.heap.size wr wr.drew) := below_drew1 wr
        have hownX := row_ownBelow HOWN.out HX.out
        have HBX : Hid (Below w.heap.size w wr.drew) := HB.out.trans (HX.out.mono HS.out)
        have HSX : Hid (w.heap.size ≤ (wr.drew).heap.size) := HBX.out.size
        have x0 : (wr.drew).cell? ⟨ag, ao + i * 2, none⟩ = some (.string (Sof A i)) := by rw [HX.out.cell (p := ⟨ag, ao + i * 2, none⟩) al]; exact a0
        have x1 : (wr.drew).cell? ⟨ag, ao + i * 2 + 1, none⟩ = some (.int .i64 (Mof A i)) := by rw [HX.out.cell (p := ⟨ag, ao + i * 2 + 1, none⟩) al]; exact a1
        go_wp2_with (at_builtin; refine wpList_append_own _ rfl _ _ 23 rfl w.heap.size 29 i0 (.agg #[.string ⟨#[]⟩, .int .i64 0]) 2 24 Try.underlying23 hi hz0 hz1 hz2 rfl (by decide) _ _ _ rfl (hownX.alloc _) ⟨(wr.drew).heap.size, 0, none⟩ 1 1 [.string (Sof A i), .int .i64 (Mof A i)] rfl rfl (cell_new2 _ _ _ _) (by simp [Value.oneCell']) (by unfold maxLen; omega) (by omega) (by have := HSX.out; simp at this ⊢; omega) ?_)
        intro v' w5 hown' hgrow _
        have HB5 : Hid (Below w.heap.size w w5) := (HBX.out.alloc HSX.out _).trans (below_grown (hownX.alloc _) (by have := HSX.out; simp at this ⊢; omega) hgrow)
        have HOWN' := hid hown'
        clear hown' hgrow hownX x0 x1
        go_wp2
        go_roundw
        case rel =>
          obtain ⟨g, hg1, hg2⟩ := HREL.out
          refine ⟨HB5.out, i + 1, k, g, P ++ [(Sof A i, Mof A i)], by omega, by omega, by go_num, by go_num, by simp; omega, ?_, hg1, hg2⟩
          have := HOWN'.out
          rw [hcells_append]
          simpa [hcells] using this
        case measure => simp [intOf]; omega
      · have hiI : ¬ (i : Int) < (A.length : Int) := by omega
        have hkI : ¬ (k : Int) < (B.length : Int) := by omega
        have HE : Hid (T = P) := by
          show T = P
          rw [HRR.out, List.drop_of_length_le (by omega : A.length ≤ i), List.drop_of_length_le (by omega : B.length ≤ k), merge_end]
          simp
        have hTP := HE.out
        subst hTP
        by_cases h30 : T.length ≤ 30
        · have h30' : ¬ (30 : Int) < (T.length : Int) := by omega
          have HJ2 : Hid (J = T) := by show J = T; rw [HJ.out, if_pos h30]
          clear HE
          go_wp2
          refine bodyPost_ret (v := _) (by simp [results, Try.results7, go_sem]; rfl) rfl ?_
          exact ⟨_, rfl, by rw [HJ2.out]; exact HOWN.out, HB.out⟩
        · have h30' : (30 : Int) < (T.length : Int) := by omega
          have HJ2 : Hid (J = []) := by show J = []; rw [HJ.out, if_neg h30]
          clear HE
          go_wp2
          refine bodyPost_ret (v := .slice none 0 0) (by simp [results, Try.results7, go_sem]) rfl ?_
          exact ⟨_, rfl, by rw [HJ2.out]; exact World.ownsRow_nil _ _ _ _, HB.out⟩

set_option maxHeartbeats 600000 in
theorem join_spec (v1 v2 : Value) (A B : Hs) (w : World) (h1 : InRow w v1 A) (h2 : InRow w v2 B) :
    Calls Try.prog 7 #[v1, v2] w fun e w' => ∃ v, e = .returned v ∧ w'.ownsRow w.heap.size 29 2 v (joinH A B).length (hcells (joinH A B)) ∧ Below w.heap.size w w' := by
  obtain ⟨oa, ca, rfl, ha⟩ := h1
  obtain ⟨ob, cb, rfl, hb⟩ := h2
  have h1 : InRow w (.slice oa A.length ca) A := ⟨oa, ca, rfl, ha⟩
  have h2 : InRow w (.slice ob B.length cb) B := ⟨ob, cb, rfl, hb⟩
  clear ha hb
  cases hokA : okH A
  · have HJ : Hid (joinH A B = []) := by show joinH A B = []; unfold joinH; rw [if_neg (fun c => by rw [hokA] at c; exact absurd c.1 (by decide))]
    have CO : Hid (Calls Try.prog 15 #[.slice oa A.length ca] w fun e w' => e = .returned (.bool false) ∧ Below w.heap.size w w') := by rw [← hokA]; exact listOk_in _ A w h1
    clear hokA h1 h2
    go_enter Try.func7, Try.ntmps7
    go_wp2_with fail
    refine CO.out.mono ?_
    rintro e w1 ⟨rfl, hb1⟩
    have HB1 := hid hb1
    clear hb1
    go_wp2
    refine bodyPost_ret (v := .slice none 0 0) (by simp [results, Try.results7, go_sem]) rfl ?_
    exact ⟨_, rfl, by rw [HJ.out]; exact World.ownsRow_nil _ _ _ _, HB1.out⟩
  · cases hokB : okH B
    · have HJ : Hid (joinH A B = []) := by show joinH A B = []; unfold joinH; rw [if_neg (fun c => by rw [hokB] at c; exact absurd c.2.1 (by decide))]
      have CO : Hid (Calls Try.prog 15 #[.slice oa A.length ca] w fun e w' => e = .returned (.bool true) ∧ Below w.heap.size w w') := by rw [← hokA]; exact listOk_in _ A w h1
      have CP : Hid (∀ W, InRow W (.slice ob B.length cb) B → Calls Try.prog 15 #[.slice ob B.length cb] W fun e w' => e = .returned (.bool false) ∧ Below W.heap.size W w') := fun W h => by rw [← hokB]; exact listOk_in _ B W h
      have H2 := hid h2
      clear hokA hokB h1 h2
      go_enter Try.func7, Try.ntmps7
      go_wp2_with fail
      refine CO.out.mono ?_
      rintro e w1 ⟨rfl, hb1⟩
      have HB1 := hid hb1
      have H21 := hid (H2.out.below hb1)
      clear hb1
      go_wp2_with fail
      refine (CP.out _ H21.out).mono ?_
      rintro e w2 ⟨rfl, hb2⟩
      have HB2 : Hid (Below w.heap.size w w2) := HB1.out.trans (hb2.mono HB1.out.size)
      clear hb2
      go_wp2
      refine bodyPost_ret (v := .slice none 0 0) (by simp [results, Try.results7, go_sem]) rfl ?_
      exact ⟨_, rfl, by rw [HJ.out]; exact World.ownsRow_nil _ _ _ _, HB2.out⟩
    · exact join_core oa ob ca cb A B w (okH_each A hokA).1 (okH_each B hokB).1 hokA hokB h1 h2

end Go.Proofs.Ytahhjhhnjpbocac
