/- DERIVED. The model's l2Run at every list that was read. -/
import Derived.Test.YtaabcbpbijkmnabParVal
import Derived.Test.YtaabcbpbijkmnabParTwo
import Derived.Maps.AppendAt
namespace Go.Proofs.Ytaabcbpbijkmnab
open Go.RowKit

def intV (x : Int) : Value := .int .i64 x

/-- So far in the list: what lies on the stack, the last one on top. -/
def StRel (base : Nat) (V : Vs) (o : List Op3) (w wr : World) (v i : Value) : Prop :=
  Below base w wr ∧ ∃ (k : Nat) (bs : List Int), i = .int .i64 (k : Int) ∧ k ≤ o.length ∧ bs.length ≤ k ∧ wr.ownsRow base 3 1 v bs.length (bs.map intV) ∧ (∀ x ∈ bs, -999999 ≤ x ∧ x ≤ 999999) ∧ execV V (o.drop k) bs.reverse = execV V o []

/-- What a run comes to. -/
def RunR (r : Except Int (List Int)) (a b : Int) : Prop := (∃ v, r = .ok [v] ∧ a = v ∧ b = 0) ∨ ∃ e, r = .error e ∧ e ≠ 0 ∧ a = 0 ∧ b = e

theorem exec_at {V : Vs} {o : List Op3} {k : Nat} (hk : k < o.length) (st : List Int) : execV V (o.drop k) st = match stepV V o[k] st with
    | .ok st' => execV V (o.drop (k + 1)) st'
    | .error e => .error e := by
  rw [List.drop_eq_getElem_cons hk, execV]; rfl

theorem step_num {V : Vs} {x : Op3} (h : x.1 = 0) (st : List Int) : stepV V x st = .ok (x.2.1 :: st) := by
  unfold stepV; rw [if_pos h]

theorem step_name {V : Vs} {x : Op3} (h : x.1 = 110) (st : List Int) : stepV V x st = match valP (textV V x.2.2) with
    | .ok z => .ok (z :: st)
    | .error e => .error e := by
  unfold stepV; rw [if_neg (by rw [h]; decide), if_pos h]; rfl

theorem step_neg {V : Vs} {x : Op3} (h : x.1 = 126) (st : List Int) : stepV V x st = match st with
    | a :: r => .ok (-a :: r)
    | [] => .error 0 := by
  unfold stepV; rw [if_neg (by rw [h]; decide), if_neg (by rw [h]; decide), if_pos h]; rfl

theorem step_two {V : Vs} {x : Op3} (h0 : x.1 ≠ 0) (h1 : x.1 ≠ 110) (h2 : x.1 ≠ 126) (st : List Int) : stepV V x st = match st with
    | b :: a :: r => (match joinP true x.1 a b with
      | .ok z => .ok (z :: r)
      | .error e => .error e)
    | _ => .error 0 := by
  unfold stepV; rw [if_neg h0, if_neg h1, if_neg h2]; rfl

theorem valP_bd {t : ByteArray} {z : Int} (h : valP t = .ok z) : -999999 ≤ z ∧ z ≤ 999999 := by
  unfold valP at h
  split at h
  · injection h with h; omega
  · split at h
    · rename_i hz; injection h with h; subst h; exact signedV_bd _ _ hz
    · cases h

theorem run_err {V : Vs} {o : List Op3} {k : Nat} {st : List Int} {e a b : Int} (hk : k < o.length) (h : execV V (o.drop k) st = execV V o []) (hs : stepV V o[k] st = .error e) (hr : RunR (execV V o []) a b) : e ≠ 0 ∧ a = 0 ∧ b = e := by
  rw [exec_at hk, hs] at h
  have h' : execV V o [] = .error e := h.symm
  rw [h'] at hr
  rcases hr with ⟨v, h1, _⟩ | ⟨e', h1, h2, h3, h4⟩
  · cases h1
  · injection h1 with h1; subst h1; exact ⟨h2, h3, h4⟩

theorem run_next {V : Vs} {o : List Op3} {k : Nat} {st st' : List Int} (hk : k < o.length) (h : execV V (o.drop k) st = execV V o []) (hs : stepV V o[k] st = .ok st') : execV V (o.drop (k + 1)) st' = execV V o [] := by
  rw [exec_at hk, hs] at h
  exact h

theorem signs_of {c : UInt8} (h0 : c ≠ 0) (h1 : c ≠ 110) (h2 : c ≠ 126) {x : Op3} (hx : x.1 = c) (hg : goodOp x) : c = 43 ∨ c = 45 ∨ c = 42 ∨ c = 47 ∨ c = 37 := by
  rcases hg with ⟨h, _⟩ | h | h | h | h
  · exact absurd (hx.symm.trans h) h0
  · exact absurd (hx.symm.trans h) h1
  · exact absurd (hx.symm.trans h) h2
  · rw [hx] at h; rcases tight_signs h with h | h | h <;> simp [h]
  · rw [hx] at h; rcases loose_signs h with h | h <;> simp [h]

theorem snoc_of {bs : List Int} (h : bs ≠ []) : ∃ b' a, bs = b' ++ [a] := ⟨bs.dropLast, bs.getLast h, (List.dropLast_concat_getLast h).symm⟩

theorem row_at {W : World} {base : Nat} {e : TypeId} {v : Value} {bs : List Int} (h : W.ownsRow base e 1 v bs.length (bs.map intV)) (h0 : 0 < bs.length) : ∃ g cp, v = .slice (some ⟨g, 0, none⟩) bs.length cp ∧ base ≤ g ∧ g < W.heap.size ∧ bs.length ≤ cp ∧ cp ≤ maxLen ∧ (∀ j, W.frozen? ⟨g, j, none⟩ = false) ∧ ∀ (j : Nat) x, bs[j]? = some x → W.cell? ⟨g, j, none⟩ = some (.int .i64 x) := by
  rcases h.2 with ⟨_, h1⟩ | ⟨g, cap, cur, rfl, hbg, hgb, hkc, hcm, _, htk⟩
  · omega
  · refine ⟨g, cap, rfl, hbg, (Array.getElem?_eq_some_iff.1 hgb).1, hkc, hcm, fun j => ?_, fun j x hx => ?_⟩
    · unfold World.frozen?
      simp [hgb]
    · have hx' : (bs.map intV)[j]? = some (intV x) := by rw [List.getElem?_map, hx]; rfl
      have := h.cells (g := g) rfl j _ hx'
      by_cases e : j = 0
      · subst e; simpa [Addr.add, intV] using this
      · simpa [Addr.add, e, intV] using this

theorem good_zero {n : Int} {t : ByteArray} (h : goodOp (0, n, t)) : -999999 ≤ n ∧ n ≤ 999999 := by
  rcases h with ⟨_, h1, h2⟩ | h | h | h | h
  · exact ⟨h1, h2⟩
  · exact absurd (show (0 : UInt8) = 110 from h) (by decide)
  · exact absurd (show (0 : UInt8) = 126 from h) (by decide)
  · exact absurd (show signB true 0 = true from h) (by decide)
  · exact absurd (show signB false 0 = true from h) (by decide)

theorem map_set_last (b' : List Int) (y z : Int) : ((b' ++ [y]).map intV).set b'.length (.int .i64 z) = (b' ++ [z]).map intV := by
  simp [intV]

theorem map_set_two (b' : List Int) (y z u : Int) : (((b' ++ [y, z]).map intV).set b'.length (.int .i64 u)).take (b'.length + 1) = (b' ++ [u]).map intV := by
  simp [intV, List.take_append]
  exact List.take_of_length_le (by simp)

theorem two_of {bs : List Int} (h : 2 ≤ bs.length) : ∃ b' y z, bs = b' ++ [y, z] := by
  obtain ⟨b1, z, rfl⟩ := snoc_of (bs := bs) (by intro e; rw [e] at h; simp at h)
  obtain ⟨b2, y, rfl⟩ := snoc_of (bs := b1) (by intro e; rw [e] at h; simp at h)
  exact ⟨b2, y, z, by simp⟩

set_option maxRecDepth 100000 in
set_option maxHeartbeats 12800000 in
theorem l2Run_any (g cp : Nat) (o : List Op3) (hlen : o.length ≤ 60) (hgood : ∀ x ∈ o, goodOp x) (vv : Value) (V : Vs) (w : World) (hg : g < w.heap.size) (hcell : ∀ (j : Nat) x, (ocells o)[j]? = some x → w.cell? ⟨g, j, none⟩ = some x) (hv : VIn w vv V) (a b : Int) (hr : RunR (execV V o []) a b) :
    Calls Try.prog 13 #[.slice (some ⟨g, 0, none⟩) o.length cp, vv] w fun e w' => e = .returned (.tuple #[.int .i64 a, .int .i64 b]) ∧ Below w.heap.size w w' := by
  obtain ⟨i0, hi, hz0, hz1, hz2⟩ := info_parts infoInt
  have HV := hid hv
  have hvs : ∀ n, (textV V n).size ≤ maxLen := by
    obtain ⟨_, _, _, _, h2, _⟩ := hv
    exact fun n => textV_size V n h2
  have HTS := hid hvs
  have CV := hid (fun n W hv => l2Var_any vv V n W hv)
  have HR := hid hr
  have HGD := hid hgood
  have HCE := hid hcell
  obtain ⟨oa, cv, rfl, _⟩ := hv
  clear hvs hr hgood hcell
  go_enter Try.func13, Try.ntmps13
  go_wp2
  go_loopw [6, 7] (fun v i wr => StRel w.heap.size V o w wr v i) (fun _ i _ => o.length - (intOf i).toNat)
  case atStart => exact ⟨(Below.refl _ _).alloc (Nat.le_refl _) _, 0, [], rfl, Nat.zero_le _, Nat.zero_le _, World.ownsRow_made _ #[] 0 (Nat.le_refl _) (by decide) rfl, (fun x hx => by cases hx), rfl⟩
  case round =>
    obtain ⟨hB, k, bs, rfl, hk, hbk, ho, hbd, hex⟩ := hrel
    have HB := hid hB
    have HEX := hid hex
    have HBD := hid hbd
    have HO := hid ho
    clear hex hbd
    by_cases hlt : k < o.length
    · have hkI : (k : Int) < (o.length : Int) := by omega
      have hk0 : (0 : Int) ≤ (k : Int) := by omega
      obtain ⟨cl0, cl1, cl2⟩ := ocells_get o k hlt
      have d0 : wr.cell? ⟨g, k * 3, none⟩ = some (.int .u8 (o[k].1.toNat : Int)) := by rw [hB.cell (p := ⟨g, k * 3, none⟩) hg]; exact HCE.out _ _ cl0
      have d1 : wr.cell? ⟨g, k * 3 + 1, none⟩ = some (.int .i64 o[k].2.1) := by rw [hB.cell (p := ⟨g, k * 3 + 1, none⟩) hg]; exact HCE.out _ _ cl1
      have d2 : wr.cell? ⟨g, k * 3 + 2, none⟩ = some (.string o[k].2.2) := by rw [hB.cell (p := ⟨g, k * 3 + 2, none⟩) hg]; exact HCE.out _ _ cl2
      have HGO : Hid (goodOp o[k]) := HGD.out _ (List.getElem_mem hlt)
      have HV1 : Hid (VIn wr (.slice oa V.length cv) V) := HV.out.below hB
      obtain ⟨x, hx⟩ : ∃ x, x = o[k] := ⟨_, rfl⟩
      have HX := hid hx
      rw [← hx] at d0 d1 d2 HGO
      clear hx cl0 cl1 cl2 hB
      obtain ⟨c, n, t⟩ := x
      dsimp only at d0 d1 d2
      by_cases hc0 : c = 0
      · subst hc0
        have hown := ho
        obtain ⟨o6, c6, rfl⟩ := row_shape3 ho
        clear d2 ho
        have hn := good_zero HGO.out
        have HN : Hid (execV V (o.drop (k + 1)) (bs ++ [n]).reverse = execV V o []) := by
          show _ = _
          rw [List.reverse_append]
          exact run_next hlt HEX.out (by rw [← HX.out]; exact step_num rfl _)
        go_wp2_with (at_builtin; refine wpList_append_own _ rfl _ _ 59 rfl w.heap.size 3 i0 (.int .i64 0) 1 8 Try.underlying59 hi hz0 hz1 hz2 rfl (by decide) _ _ _ rfl (hown.alloc _) ⟨wr.heap.size, 0, none⟩ 1 1 [.int .i64 n] rfl rfl (cell_one_new _ _ _) (by simp [Value.oneCell']) (by unfold maxLen; omega) (by omega) (by have := HB.out.size; simp; omega) ?_)
        intro v' w4 hown' hgrow _
        have HB4 : Hid (Below w.heap.size w w4) := (HB.out.alloc HB.out.size _).trans ((Below.refl _ _).grown hgrow (by have := HB.out.size; simp; omega) (fun j hj => (hown.lt j hj).1))
        have HO4 := hid hown'
        clear hown' hgrow hown
        go_wp2
        go_roundw
        case rel =>
          refine ⟨HB4.out, k + 1, bs ++ [n], by go_num, by omega, by simp; omega, ?_, ?_, HN.out⟩
          · rw [List.map_append, List.length_append]; exact HO4.out
          · intro x hx
            rcases List.mem_append.1 hx with hx | hx
            · exact HBD.out x hx
            · simp at hx; subst hx; exact hn
        case measure => simp [intOf]; omega
      · by_cases hc1 : c = 110
        · subst hc1
          clear d1
          have CVt := hid (CV.out t wr HV1.out)
          have CL := hid (fun W => l2Value_any (textV V t) W (HTS.out t))
          have HST := hid (step_name (V := V) (x := (110, n, t)) rfl bs.reverse)
          dsimp only at HST
          obtain ⟨tx, htx⟩ : ∃ tx, tx = textV V t := ⟨_, rfl⟩
          rw [← htx] at CVt CL HST
          clear htx
          cases hx : valP tx with
          | error c4 =>
            have hc4 := valP_err tx c4 hx
            subst hc4
            have CE : Hid (∀ W, Calls Try.prog 22 #[.string tx] W fun e w' => (∃ x, e = .returned (.tuple #[.int .i64 x, .bool false])) ∧ w' = W) := fun W => (CL.out W).mono fun e w' h => ⟨h.2.1 4 hx, h.2.2⟩
            rw [hx] at HST
            have hfin := run_err hlt HEX.out (by rw [← HX.out]; exact HST.out) HR.out
            obtain ⟨_, rfl, rfl⟩ := hfin
            obtain ⟨o6, c6, rfl⟩ := row_shape3 ho
            clear CL hx HST ho
            go_wp2_with fail
            refine CVt.out.mono ?_
            rintro e w1 ⟨rfl, rfl⟩
            go_wp2_with fail
            refine (CE.out _).mono ?_
            rintro e w1 ⟨⟨x, rfl⟩, rfl⟩
            go_wp2
            go_ret2
            exact ⟨rfl, HB.out⟩
          | ok z =>
            have CE : Hid (∀ W, Calls Try.prog 22 #[.string tx] W fun e w' => e = .returned (.tuple #[.int .i64 z, .bool true]) ∧ w' = W) := fun W => (CL.out W).mono fun e w' h => ⟨h.1 z hx, h.2.2⟩
            rw [hx] at HST
            have hn := valP_bd hx
            have HN : Hid (execV V (o.drop (k + 1)) (bs ++ [z]).reverse = execV V o []) := by
              show _ = _
              rw [List.reverse_append]
              exact run_next hlt HEX.out (by rw [← HX.out]; exact HST.out)
            have hown := ho
            obtain ⟨o6, c6, rfl⟩ := row_shape3 ho
            clear CL hx HST ho
            go_wp2_with fail
            refine CVt.out.mono ?_
            rintro e w1 ⟨rfl, rfl⟩
            go_wp2_with fail
            refine (CE.out _).mono ?_
            rintro e w1 ⟨rfl, rfl⟩
            go_wp2_with (at_builtin; refine wpList_append_own _ rfl _ _ 59 rfl w.heap.size 3 i0 (.int .i64 0) 1 8 Try.underlying59 hi hz0 hz1 hz2 rfl (by decide) _ _ _ rfl (hown.alloc _) ⟨w1.heap.size, 0, none⟩ 1 1 [.int .i64 z] rfl rfl (cell_one_new _ _ _) (by simp [Value.oneCell']) (by unfold maxLen; omega) (by omega) (by have := HB.out.size; simp; omega) ?_)
            intro v' w4 hown' hgrow _
            have HB4 : Hid (Below w.heap.size w w4) := (HB.out.alloc HB.out.size _).trans ((Below.refl _ _).grown hgrow (by have := HB.out.size; simp; omega) (fun j hj => (hown.lt j hj).1))
            have HO4 := hid hown'
            clear hown' hgrow hown
            go_wp2
            go_roundw
            case rel =>
              refine ⟨HB4.out, k + 1, bs ++ [z], by go_num, by omega, by simp; omega, ?_, ?_, HN.out⟩
              · rw [List.map_append, List.length_append]; exact HO4.out
              · intro x hx
                rcases List.mem_append.1 hx with hx | hx
                · exact HBD.out x hx
                · simp at hx; subst hx; exact hn
            case measure => simp [intOf]; omega
        · by_cases hc2 : c = 126
          · subst hc2
            clear d1 d2
            have HST := hid (step_neg (V := V) (x := (126, n, t)) rfl bs.reverse)
            have hnil : bs ≠ [] := by
              intro e
              have hs : stepV V o[k] bs.reverse = .error 0 := by rw [← HX.out, HST.out, e]; rfl
              exact (run_err hlt HEX.out hs HR.out).1 rfl
            obtain ⟨b', y, rfl⟩ := snoc_of hnil
            have HN : Hid (execV V (o.drop (k + 1)) (b' ++ [-y]).reverse = execV V o []) := by
              show _ = _
              rw [List.reverse_append]
              exact run_next hlt HEX.out (by rw [← HX.out, HST.out, List.reverse_append]; rfl)
            obtain ⟨g6, c6, rfl, hg6, hg6s, hc6, hc6m, hfz, hce⟩ := row_at ho (by simp)
            obtain ⟨m, hm⟩ : ∃ m, m = b'.length := ⟨_, rfl⟩
            obtain ⟨L, hL⟩ : ∃ L, L = (b' ++ [y]).length := ⟨_, rfl⟩
            have hLm : L = m + 1 := by rw [hL, hm]; simp
            have e1 : wr.cell? ⟨g6, m, none⟩ = some (.int .i64 y) := hce m y (by rw [hm]; simp)
            have f1 := hfz m
            have HRW : Hid ((wr.setCell ⟨g6, m, none⟩ (.int .i64 (-y))).ownsRow w.heap.size 3 1 (.slice (some ⟨g6, 0, none⟩) L c6) (b' ++ [-y]).length ((b' ++ [-y]).map intV)) := by
              have := row_set1 ho m (.int .i64 (-y))
              rw [hm, map_set_last b' y (-y), ← hm, ← hL] at this
              rw [show (b' ++ [-y]).length = L by rw [hLm, hm]; simp]
              exact this
            have hy := HBD.out y (by simp)
            rw [← hL] at hc6 hbk ⊢
            have hL1 : (L : Int) - 1 = (m : Int) := by omega
            have hmL : (m : Int) < (L : Int) := by omega
            have hm0 : (0 : Int) ≤ (m : Int) := by omega
            have HLm := hid hLm
            have HM := hid hm
            clear ho hce hfz hL HST hnil hLm hm
            go_wp2
            go_roundw
            case rel =>
              refine ⟨HB.out.setCell hg6 _, k + 1, b' ++ [-y], by go_num, by omega, (by have := HLm.out; have := HM.out; simp; omega), HRW.out, ?_, HN.out⟩
              intro x hx
              rcases List.mem_append.1 hx with hx | hx
              · exact HBD.out x (by simp [hx])
              · simp at hx; subst hx; omega
            case measure => simp [intOf]; omega
          · have hsg := signs_of hc0 hc1 hc2 (x := (c, n, t)) rfl HGO.out
            have HST := hid (step_two (V := V) (x := (c, n, t)) hc0 hc1 hc2 bs.reverse)
            have h2 : 2 ≤ bs.length := by
              rcases Nat.lt_or_ge bs.length 2 with hl | hl
              · exfalso
                have hs : stepV V o[k] bs.reverse = .error 0 := by
                  rw [← HX.out, HST.out]
                  match bs, hl with
                  | [], _ => rfl
                  | [u], _ => rfl
                exact (run_err hlt HEX.out hs HR.out).1 rfl
              · exact hl
            obtain ⟨b', y, z, rfl⟩ := two_of h2
            have hy := HBD.out y (by simp)
            have hz := HBD.out z (by simp)
            have C2 := hid (fun W => l2Two_any c hsg y z hy.1 hy.2 hz.1 hz.2 W)
            have HJ : Hid (stepV V o[k] (b' ++ [y, z]).reverse = match joinP true c y z with
              | .ok u => .ok (u :: b'.reverse)
              | .error e => .error e) := by
              show _ = _
              rw [← HX.out, HST.out, List.reverse_append]
              rfl
            have hjb := joinP_bd true c y z
            have hcI0 : ((c.toNat : Int) == 0) = false := by rw [beq_eq_false_iff_ne]; intro e; exact hc0 (UInt8.toNat_inj.mp (by show c.toNat = 0; omega))
            have hcI1 : ((c.toNat : Int) == 110) = false := by rw [beq_eq_false_iff_ne]; intro e; exact hc1 (UInt8.toNat_inj.mp (by show c.toNat = 110; omega))
            have hcI2 : ((c.toNat : Int) == 126) = false := by rw [beq_eq_false_iff_ne]; intro e; exact hc2 (UInt8.toNat_inj.mp (by show c.toNat = 126; omega))
            obtain ⟨g6, c6, rfl, hg6, hg6s, hc6, hc6m, hfz, hce⟩ := row_at ho (by simp)
            obtain ⟨m, hm⟩ : ∃ m, m = b'.length := ⟨_, rfl⟩
            obtain ⟨m1, hm1⟩ : ∃ m1, m1 = m + 1 := ⟨_, rfl⟩
            obtain ⟨L, hL⟩ : ∃ L, L = (b' ++ [y, z]).length := ⟨_, rfl⟩
            have hLm : L = m + 2 := by rw [hL, hm]; simp
            have e1 : wr.cell? ⟨g6, m, none⟩ = some (.int .i64 y) := hce m y (by rw [hm]; simp)
            have e2 : wr.cell? ⟨g6, m1, none⟩ = some (.int .i64 z) := hce m1 z (by rw [hm1, hm]; simp)
            have f1 := hfz m
            have HRW : Hid (∀ u, (wr.setCell ⟨g6, m, none⟩ (.int .i64 u)).ownsRow w.heap.size 3 1 (.slice (some ⟨g6, 0, none⟩) m1 c6) (b' ++ [u]).length ((b' ++ [u]).map intV)) := fun u => by
              have := row_pop1 (row_set1 ho m (.int .i64 u)) (b'.length + 1) (by simp)
              rw [hm, map_set_two b' y z u, ← hm] at this
              rw [show (b' ++ [u]).length = m1 by rw [hm1, hm]; simp, hm1]
              exact this
            rw [← hL] at hc6 hbk ⊢
            have hL1 : (L : Int) - 1 = (m1 : Int) := by omega
            have hL2 : (L : Int) - 2 = (m : Int) := by omega
            have hmL : (m : Int) < (L : Int) := by omega
            have hmL1 : (m1 : Int) < (L : Int) := by omega
            have hmL2 : (m1 : Int) ≤ (L : Int) := by omega
            have hm0 : (0 : Int) ≤ (m : Int) := by omega
            have hm10 : (0 : Int) ≤ (m1 : Int) := by omega
            have HM1 := hid hm1
            have HLm := hid hLm
            have HM := hid hm
            clear ho hce hfz hL HST h2 hsg d1 d2 hm1 hLm hm
            obtain ⟨J, hJ⟩ : ∃ J, J = joinP true c y z := ⟨_, rfl⟩
            rw [← hJ] at C2 HJ hjb
            clear hJ
            cases J with
            | ok u =>
              have hu := hjb.1 u rfl
              have C3 : Hid (∀ W, Calls Try.prog 24 #[.int .u8 (c.toNat : Int), .int .i64 y, .int .i64 z] W fun e w' => e = .returned (.tuple #[.int .i64 u, .int .i64 0]) ∧ w' = W) := C2.out
              have HN : Hid (execV V (o.drop (k + 1)) (b' ++ [u]).reverse = execV V o []) := by
                show _ = _
                rw [List.reverse_append]
                exact run_next hlt HEX.out HJ.out
              clear C2 HJ hjb
              go_wp2
              go_quiet ((go_at_call 24; exact Calls.quiet_of_same (C3.out _)))
              obtain ⟨w2, hw2⟩ : ∃ w2, w2 = wr.drewN nq := ⟨_, rfl⟩
              have HB2 : Hid (Below w.heap.size w w2) := by rw [hw2]; exact HB.out.trans (below_drewN _ _ _)
              have HRW2 : Hid ((w2.setCell ⟨g6, m, none⟩ (.int .i64 u)).ownsRow w.heap.size 3 1 (.slice (some ⟨g6, 0, none⟩) m1 c6) (b' ++ [u]).length ((b' ++ [u]).map intV)) := by rw [hw2]; exact HRW.out u
              have e1' : w2.cell? ⟨g6, m, none⟩ = some (.int .i64 y) := by rw [hw2]; exact e1
              have f1' : w2.frozen? ⟨g6, m, none⟩ = false := by rw [hw2]; exact f1
              rw [← hw2]
              clear hw2 HRW e1 e2 f1 C3
              go_wp2
              go_roundw
              case rel =>
                refine ⟨HB2.out.setCell hg6 _, k + 1, b' ++ [u], by go_num, by omega, (by have := HLm.out; have := HM.out; simp; omega), HRW2.out, ?_, HN.out⟩
                intro x hx
                rcases List.mem_append.1 hx with hx | hx
                · exact HBD.out x (by simp [hx])
                · simp at hx; subst hx; exact hu
              case measure => simp [intOf]; omega
            | error e =>
              have he := hjb.2 e rfl
              have C3 : Hid (∀ W, Calls Try.prog 24 #[.int .u8 (c.toNat : Int), .int .i64 y, .int .i64 z] W fun x w' => x = .returned (.tuple #[.int .i64 0, .int .i64 e]) ∧ w' = W) := C2.out
              obtain ⟨_, rfl, rfl⟩ := run_err hlt HEX.out HJ.out HR.out
              have heI : (b == 0) = false := by rw [beq_eq_false_iff_ne]; omega
              clear C2 HJ hjb
              go_wp2
              go_quiet ((go_at_call 24; exact Calls.quiet_of_same (C3.out _)))
              go_wp2
              go_ret2
              exact ⟨rfl, HB.out.trans (below_drewN _ _ _)⟩
    · have hkI : ¬ (k : Int) < (o.length : Int) := by omega
      have hend : execV V o [] = .ok bs.reverse := by
        have := HEX.out
        rw [List.drop_eq_nil_of_le (by omega)] at this
        exact this.symm
      have hr := HR.out
      rw [hend] at hr
      rcases hr with ⟨v, h1, rfl, rfl⟩ | ⟨e, h1, _⟩
      · injection h1 with h1
        have hbs : bs = [a] := by have := congrArg List.reverse h1; simpa using this
        subst hbs
        obtain ⟨g6, c6, rfl, _, _, hc6, _, _, hce⟩ := row_at ho (by simp)
        have e0 := hce 0 a rfl
        clear ho hce hend h1 hB
        go_wp2
        go_ret2
        exact ⟨rfl, HB.out⟩
      · cases h1

end Go.Proofs.Ytaabcbpbijkmnab
