/- DERIVED. The reader of messages: entries. -/
import Derived.Test.YtijdjplajhcilabDoorGetVotes
import Derived.Test.YtijdjplajhcilabDoorEntAt
namespace Go.Proofs.YtijdjplajhcilabDoor
open Go.RowKit
variable {w w' : World} {R : Nat} {s : ByteArray} {p : Nat}

theorem infoEnt : (Tryd.prog.info? 53).map (fun i => (i.zero, i.size, i.bytes)) = some (some (.agg #[.int .i64 0, .int .i64 0, .slice none 0 0]), 3, 40) := by kernel_rfl

/-- Numbers lie in a row of the call's own: a block of numbers, above a base. -/
def NumsIn (base : Nat) (w : World) (oa : Option Addr) (V : List Int) : Prop := ∀ i (h : i < V.length), ∃ b cur fz, oa = some ⟨b, 0, none⟩ ∧ base ≤ b ∧ w.heap[b]? = some (.cells cur 3 fz) ∧ cur[i]? = some (.int .i64 V[i])

theorem NumsIn.at {base : Nat} {oa : Option Addr} {V : List Int} (h : NumsIn base w oa V) : NumsAt w oa V := by
  intro i hi
  obtain ⟨b, cur, fz, e, _, hb, hc⟩ := h i hi
  refine ⟨b, 0, e, (Array.getElem?_eq_some_iff.1 hb).1, ?_⟩
  rw [Nat.zero_add]
  simp [World.cell?, hb, hc]

theorem NumsIn.kept {base : Nat} {oa : Option Addr} {V : List Int} (h : NumsIn base w oa V) (k : ∀ b cur fz, base ≤ b → w.heap[b]? = some (.cells cur 3 fz) → w'.heap[b]? = some (.cells cur 3 fz)) : NumsIn base w' oa V := by
  intro i hi
  obtain ⟨b, cur, fz, e, hge, hb, hc⟩ := h i hi
  exact ⟨b, cur, fz, e, hge, k b cur fz hge hb, hc⟩

theorem NumsIn.base {base b' : Nat} {oa : Option Addr} {V : List Int} (h : NumsIn b' w oa V) (hb : base ≤ b') : NumsIn base w oa V := by
  intro i hi
  obtain ⟨b, cur, fz, e, hge, r⟩ := h i hi
  exact ⟨b, cur, fz, e, Nat.le_trans hb hge, r⟩

theorem NumsIn.of_row {base n cp : Nat} {oa : Option Addr} {V : List Int} (h : w.ownsRow base 3 1 (.slice oa n cp) V.length (V.map (Value.int .i64))) : NumsIn base w oa V := by
  intro i hi
  rcases h.2 with ⟨_, h0⟩ | ⟨g, cap, cur, e, hg, hb, hn, hc, hs, ht⟩
  · omega
  · injection e with e1 e2 e3
    refine ⟨g, cur, (0, 0), e1, hg, hb, ?_⟩
    have h1 : (cur.toList.take (V.length * 1))[i]? = some (.int .i64 V[i]) := by
      rw [ht, List.getElem?_map, List.getElem?_eq_getElem hi]
      rfl
    rw [List.getElem?_take_of_lt (by omega)] at h1
    simpa using h1

/-- The cells of entries: numbers, and slices of votes that lie above a base. -/
def ECells (base : Nat) (w : World) (L : List Ent) (xs : List Value) : Prop := xs.length = L.length * 3 ∧ ∀ i, i < L.length → ∃ (ov : Option Addr) (n cv : Nat),
  xs[i * 3]? = some (.int .i64 (L.getD i (0, 0, [])).1) ∧ xs[i * 3 + 1]? = some (.int .i64 (L.getD i (0, 0, [])).2.1) ∧ xs[i * 3 + 2]? = some (.slice ov n cv) ∧ n = (L.getD i (0, 0, [])).2.2.length ∧ n ≤ 1048576 ∧ NumsIn base w ov (L.getD i (0, 0, [])).2.2

theorem ECells.kept {base : Nat} {L : List Ent} {xs : List Value} (h : ECells base w L xs) (k : ∀ b cur fz, base ≤ b → w.heap[b]? = some (.cells cur 3 fz) → w'.heap[b]? = some (.cells cur 3 fz)) : ECells base w' L xs := by
  refine ⟨h.1, fun i hi => ?_⟩
  obtain ⟨ov, n, cv, h1, h2, h3, h4, h5, h6⟩ := h.2 i hi
  exact ⟨ov, n, cv, h1, h2, h3, h4, h5, h6.kept k⟩

theorem ECells.add {base : Nat} {L : List Ent} {xs : List Value} {x y : Int} {V : List Int} {ov : Option Addr} {cv : Nat} (h : ECells base w L xs) (hn : V.length ≤ 1048576) (hV : NumsIn base w ov V) : ECells base w (L ++ [(x, y, V)]) (xs ++ [.int .i64 x, .int .i64 y, .slice ov V.length cv]) := by
  have hl := h.1
  refine ⟨by rw [List.length_append, hl, List.length_append]; simp; omega, fun i hi => ?_⟩
  by_cases e : i < L.length
  · obtain ⟨ov', n, cv', h1, h2, h3, h4⟩ := h.2 i e
    have eg : (L ++ [(x, y, V)]).getD i (0, 0, []) = L.getD i (0, 0, []) := by
      rw [List.getD_eq_getElem?_getD, List.getD_eq_getElem?_getD, List.getElem?_append_left e]
    rw [eg]
    exact ⟨ov', n, cv', by rw [List.getElem?_append_left (by omega)]; exact h1, by rw [List.getElem?_append_left (by omega)]; exact h2, by rw [List.getElem?_append_left (by omega)]; exact h3, h4⟩
  · have ei : i = L.length := by simp at hi; omega
    subst ei
    have eg : (L ++ [(x, y, V)]).getD L.length (0, 0, []) = (x, y, V) := by
      rw [List.getD_eq_getElem?_getD, List.getElem?_append_right (Nat.le_refl _), Nat.sub_self]
      rfl
    rw [eg]
    refine ⟨ov, V.length, cv, ?_, ?_, ?_, rfl, hn, hV⟩
    · rw [List.getElem?_append_right (by omega), hl, show L.length * 3 - L.length * 3 = 0 by omega]; rfl
    · rw [List.getElem?_append_right (by omega), hl, show L.length * 3 + 1 - L.length * 3 = 1 by omega]; rfl
    · rw [List.getElem?_append_right (by omega), hl, show L.length * 3 + 2 - L.length * 3 = 2 by omega]; rfl

theorem kept_keeps {base : Nat} (k : Keeps R w w') (hR : R < base) : ∀ b (cur : Array Value) fz, base ≤ b → w.heap[b]? = some (.cells cur 3 fz) → w'.heap[b]? = some (.cells cur 3 fz) := by
  intro b cur fz hb h
  rw [k.block b (Array.getElem?_eq_some_iff.1 h).1 (by omega)]
  exact h

theorem kept_below (k : Below w.heap.size w w') {base : Nat} : ∀ b (cur : Array Value) fz, base ≤ b → w.heap[b]? = some (.cells cur 3 fz) → w'.heap[b]? = some (.cells cur 3 fz) := by
  intro b cur fz _ h
  rw [k.block b (Array.getElem?_eq_some_iff.1 h).1]
  exact h

/-- What grows a row of entries leaves rows of numbers. -/
theorem kept_grown {base bs n : Nat} {v : Value} {xs : List Value} (h : w.ownsRow bs 53 3 v n xs) (g : w.grownBy w' v.ownBlock) : ∀ b (cur : Array Value) fz, base ≤ b → w.heap[b]? = some (.cells cur 3 fz) → w'.heap[b]? = some (.cells cur 3 fz) := by
  intro b cur fz _ hb
  rw [g.block b (Array.getElem?_eq_some_iff.1 hb).1 ?_]
  · exact hb
  · intro e
    rcases h.2 with ⟨e1, _⟩ | ⟨g', cap, c2, e1, _, hg, _⟩
    · rw [e1] at e
      cases e
    · rw [e1] at e
      injection e with e
      subst e
      rw [hb] at hg
      injection hg with hg
      injection hg with _ e2 _
      exact absurd e2 (by decide)

theorem ents_of {base n cp : Nat} {oa : Option Addr} {L : List Ent} {xs : List Value} (h : w.ownsRow base 53 3 (.slice oa n cp) L.length xs) (hc : ECells base w L xs) : EntsAt w oa L := by
  intro i hi
  obtain ⟨ov, m, cv, h1, h2, h3, h4, h5, h6⟩ := hc.2 i hi
  rcases h.2 with ⟨_, h0⟩ | ⟨g, cap, cur, e, hg, hb, hn, hcm, hs, ht⟩
  · omega
  · injection e with e1 e2 e3
    have hx := hc.1
    have get : ∀ j v, j < L.length * 3 → xs[j]? = some v → w.cell? ⟨g, 0 + j, none⟩ = some v := by
      intro j v hj hv
      rw [← ht, List.getElem?_take_of_lt hj] at hv
      rw [Nat.zero_add]
      simp only [World.cell?, hb]
      simpa using hv
    exact ⟨g, 0, e1, (Array.getElem?_eq_some_iff.1 hb).1, get _ _ (by omega) h1, by rw [Nat.add_assoc]; exact get _ _ (by omega) h2, ov, m, cv, by rw [Nat.add_assoc]; exact get _ _ (by omega) h3, h4, h5, h6.at⟩

theorem cell_three (w : World) (u1 u2 u3 : Value) (e : TypeId) : ∀ (j : Nat) x, [u1, u2, u3][j]? = some x → (w.alloc (.cells #[u1, u2, u3] e)).cell? ((⟨w.heap.size, 0, none⟩ : Addr).add j) = some x := by
  intro j x hj
  match j, hj with
  | 0, hj => simp at hj; subst hj; simp [Addr.add]
  | 1, hj => simp at hj; subst hj; simp [Addr.add]
  | 2, hj => simp at hj; subst hj; simp [Addr.add]
  | n + 3, hj => simp at hj

set_option maxRecDepth 100000 in
set_option maxHeartbeats 6400000 in
theorem rents_any (h : RAt w R s p) :
    Calls Tryd.prog 45 #[.pointer (some ⟨R, 0, none⟩)] w fun e w' => (∃ v xs, e = .returned v ∧ w'.ownsRow w.heap.size 53 3 v (gEs (restL s p)).1.length xs ∧ ECells w.heap.size w' (gEs (restL s p)).1 xs) ∧ (∃ q, RAt w' R s q) ∧ Keeps R w w' := by
  obtain ⟨i0, hi, hz0, hz1, hz2⟩ := info_parts infoEnt
  have HRW : Hid (R < w.heap.size) := h.old
  have HR0 := hid h
  have hsm := h.small
  have hl0 := gEs_len (restL s p)
  have hl1 := restL_len s p
  obtain ⟨G, hG⟩ : ∃ G, G = (gEs (restL s p)).1 := ⟨_, rfl⟩
  have HG := hid hG
  rw [← hG] at hl0 ⊢
  obtain ⟨n, hn⟩ : ∃ n, n = (restL s p).length + 1 := ⟨_, rfl⟩
  have HN := hid hn
  have HL0 : Hid (G.length ≤ 401) := by show _ ≤ _; omega
  clear hG hn hl0 hl1 h
  go_enter Tryd.func45, Tryd.ntmps45
  go_wp2
  go_loopg [3] n (fun gh v wr => ∃ (q : Nat) (A : List Ent) (xs : List Value), Hid (RAt wr R s q) ∧ Hid (Keeps R w wr) ∧ Hid (wr.ownsRow w.heap.size 53 3 v A.length xs) ∧ Hid (ECells w.heap.size wr A xs) ∧ Hid (G = A ++ (gEs (restL s q)).1) ∧ Hid ((restL s q).length < gh))
  case atStart => exact ⟨p, [], [], HR0, Keeps.refl _ _, row_nil _ _ _ _, ⟨rfl, fun i hi => absurd hi (Nat.not_lt_zero _)⟩, by show G = _; rw [HG.out]; rfl, by show _ < _; have := HN.out; omega⟩
  case round =>
    obtain ⟨q, A, xs, HR, HK, HROW, HCE, HE, HGH⟩ := hrel
    obtain ⟨ov, cv, rfl⟩ := rowv_shape HROW.out
    cases gk with
    | zero => exact absurd HGH.out (Nat.not_lt_zero _)
    | succ g =>
      have CN := hid (rnumber_any HR.out)
      have HEQ := hid (gEs_eq (restL s q))
      have hAl : A.length ≤ 401 := by
        have h1 := HL0.out
        rw [HE.out] at h1
        simp at h1
        omega
      obtain ⟨z, hz⟩ : ∃ z, z = gVal (restL s q) := ⟨_, rfl⟩
      have HZ := hid hz
      obtain ⟨b, hb⟩ : ∃ b, b = gOk (restL s q) := ⟨_, rfl⟩
      rw [← hz, ← hb] at CN
      rw [← hb] at HEQ
      clear hz hb
      obtain ⟨m, hm⟩ : ∃ m, m = A.length := ⟨_, rfl⟩
      have HM := hid hm
      rw [← hm] at hAl ⊢
      clear hm
      cases b
      · have HF : Hid (G = A) := by
          show G = _
          rw [HE.out, HEQ.out]
          simp
        clear hAl
        go_wp2_with fail
        refine CN.out.mono ?_
        rintro e w1 ⟨rfl, ⟨q1, h1, _⟩, k1⟩
        have HR1 := hid h1
        have HK1 := hid (HK.out.trans k1)
        have HROW1 := hid (rowv_keeps HROW.out k1 HRW.out)
        have HCE1 := hid (HCE.out.kept (kept_keeps k1 HRW.out))
        clear h1 k1
        go_wp2
        go_ret
        exact ⟨⟨.slice ov m cv, xs, rfl, by rw [HF.out, HM.out]; exact HROW1.out, by rw [HF.out]; exact HCE1.out⟩, ⟨q1, HR1.out⟩, HK1.out⟩
      · go_wp2_with fail
        refine CN.out.mono ?_
        rintro e w1 ⟨rfl, ⟨q1, h1, e1⟩, k1⟩
        have HR1 := hid h1
        have HE1 := hid e1
        have HK1 := hid (HK.out.trans k1)
        have HROW1 := hid (rowv_keeps HROW.out k1 HRW.out)
        have HCE1 := hid (HCE.out.kept (kept_keeps k1 HRW.out))
        clear h1 e1 k1
        go_wp2_with fail
        refine (rtake_any HR1.out 58 58 rfl).mono ?_
        rintro e w2 ⟨rfl, ⟨q2, h2, e2⟩, k2⟩
        have HR2 := hid h2
        have HE2 : Hid (restL s q2 = gA (restL s q)) := by show _ = _; rw [e2, HE1.out]; rfl
        have HK2 := hid (HK1.out.trans k2)
        have HROW2 := hid (rowv_keeps HROW1.out k2 HRW.out)
        have HCE2 := hid (HCE1.out.kept (kept_keeps k2 HRW.out))
        clear h2 e2 k2
        have CN2 := hid (rnumber_any HR2.out)
        obtain ⟨y, hy⟩ : ∃ y, y = gVal (restL s q2) := ⟨_, rfl⟩
        have HY := hid hy
        obtain ⟨yb, hyb⟩ : ∃ yb, yb = gOk (restL s q2) := ⟨_, rfl⟩
        rw [← hy, ← hyb] at CN2
        clear hy hyb
        go_wp2_with fail
        refine CN2.out.mono ?_
        rintro e w3 ⟨rfl, ⟨q3, h3, e3⟩, k3⟩
        have HR3 := hid h3
        have HE3 := hid e3
        have HK3 := hid (HK2.out.trans k3)
        have HROW3 := hid (rowv_keeps HROW2.out k3 HRW.out)
        have HCE3 := hid (HCE2.out.kept (kept_keeps k3 HRW.out))
        clear h3 e3 k3
        go_wp2_with fail
        refine (rtake_any HR3.out 58 58 rfl).mono ?_
        rintro e w4 ⟨rfl, ⟨q4, h4, e4⟩, k4⟩
        have HR4 := hid h4
        have HE4 : Hid (restL s q4 = gB (restL s q)) := by show _ = _; rw [e4, HE3.out, HE2.out]; rfl
        have HK4 := hid (HK3.out.trans k4)
        have HROW4 := hid (rowv_keeps HROW3.out k4 HRW.out)
        have HCE4 := hid (HCE3.out.kept (kept_keeps k4 HRW.out))
        clear h4 e4 k4
        go_wp2_with fail
        refine (rvotes_any HR4.out).mono ?_
        rintro e w5 ⟨⟨v, rfl, hv⟩, ⟨q5, h5, e5⟩, k5⟩
        have HR5 := hid h5
        have HE5 : Hid (restL s q5 = (gVs (gB (restL s q))).2) := by show _ = _; rw [e5, HE4.out]
        have HK5 := hid (HK4.out.trans k5)
        have HROW5 := hid (rowv_keeps HROW4.out k5 HRW.out)
        have HCE5 := hid (HCE4.out.kept (kept_keeps k5 HRW.out))
        obtain ⟨V, hV⟩ : ∃ V, V = (gVs (restL s q4)).1 := ⟨_, rfl⟩
        have HV := hid hV
        rw [← hV] at hv
        have hvl : V.length ≤ 402 := by
          have a1 := (gVs_len (restL s q4)).2
          have a2 := restL_len s q4
          rw [hV]
          omega
        obtain ⟨ovv, cvv, rfl⟩ := rowv_shape hv
        have HNI : Hid (NumsIn w.heap.size w5 ovv V) := (NumsIn.of_row hv).base HK4.out.size
        have HS5 : Hid (w.heap.size ≤ w5.heap.size) := HK5.out.size
        obtain ⟨vn, hvn⟩ : ∃ vn, vn = V.length := ⟨_, rfl⟩
        have HVN := hid hvn
        rw [← hvn] at hvl ⊢
        have hown := HROW5.out
        rw [← HM.out] at hown
        clear h5 e5 k5 hv hV hvn
        go_wp2_with (at_builtin; refine wpList_append_own _ rfl _ _ 24 rfl w.heap.size 53 i0 (.agg #[.int .i64 0, .int .i64 0, .slice none 0 0]) 3 40 Tryd.underlying24 hi hz0 hz1 hz2 rfl (by decide) _ _ _ rfl (hown.alloc _) ⟨w5.heap.size, 0, none⟩ 1 1 [.int .i64 z, .int .i64 y, .slice ovv vn cvv] rfl rfl (cell_three _ _ _ _ _) (by simp [Value.oneCell']) (by unfold maxLen; omega) (by omega) (by have := HS5.out; simp; omega) ?_)
        intro v' w6 hown' hgrow _
        have hala : Below w5.heap.size w5 (w5.alloc (.cells #[.int .i64 z, .int .i64 y, .slice ovv vn cvv] 53)) := (Below.refl _ _).alloc (Nat.le_refl _) _
        have hbl : Below w.heap.size w5 w6 := (hala.mono HS5.out).trans (below_grown (hown.alloc _) (by have := HS5.out; simp; omega) hgrow)
        have HR6 := hid (HR5.out.under HRW.out hbl)
        have HK6 := hid (HK5.out.under HRW.out hbl)
        have HCE6 : Hid (ECells w.heap.size w6 (A ++ [(z, y, V)]) (xs ++ [.int .i64 z, .int .i64 y, .slice ovv vn cvv])) := by
          show ECells _ _ _ _
          rw [HVN.out]
          exact (ECells.add HCE5.out (by have := HVN.out; omega) HNI.out).kept (fun b cur fz hb hh => kept_grown (hown.alloc _) hgrow b cur fz hb (kept_below hala b cur fz hb hh))
        have HROW6 : Hid (w6.ownsRow w.heap.size 53 3 v' (A ++ [(z, y, V)]).length (xs ++ [.int .i64 z, .int .i64 y, .slice ovv vn cvv])) := by
          show w6.ownsRow _ _ _ _ _ _
          rw [List.length_append, ← HM.out]
          exact hown'
        have HM6 : Hid ((A ++ [(z, y, V)]).length = m + 1) := by show _ = _; rw [List.length_append, ← HM.out]; rfl
        have HENT : Hid ((z, y, V) = gEnt (restL s q)) := by
          show _ = _
          unfold gEnt
          rw [HZ.out, HY.out, HE2.out, HV.out, HE4.out]
        clear hown hown' hgrow hbl hala
        obtain ⟨ov2, cv2, rfl⟩ := rowv_shape HROW6.out
        rw [HM6.out]
        have CT := hid (rtake_any HR6.out 59 59 rfl)
        obtain ⟨c, hc⟩ : ∃ c, c = gHas 59 (restL s q5) := ⟨_, rfl⟩
        have HC := hid hc
        rw [← hc] at CT
        clear hc
        cases c
        · have HF : Hid (G = A ++ [(z, y, V)]) := by
            show G = _
            rw [HE.out, HEQ.out, ← HE5.out, ← HC.out, HENT.out]
            simp
          go_wp2_with fail
          refine CT.out.mono ?_
          rintro e w7 ⟨rfl, ⟨q7, h7, e7⟩, k7⟩
          have HR7 := hid h7
          have HK7 := hid (HK6.out.trans k7)
          have HROW7 := hid (rowv_keeps HROW6.out k7 HRW.out)
          have HCE7 := hid (HCE6.out.kept (kept_keeps k7 HRW.out))
          clear h7 e7 k7
          go_wp2
          go_ret
          exact ⟨⟨.slice ov2 (m + 1) cv2, _, rfl, by rw [HF.out]; have := HROW7.out; rw [HM6.out] at this ⊢; exact this, by rw [HF.out]; exact HCE7.out⟩, ⟨q7, HR7.out⟩, HK7.out⟩
        · have HF : Hid (G = (A ++ [(z, y, V)]) ++ (gEs (gSkip 59 (restL s q5))).1) := by
            show G = _
            rw [HE.out, HEQ.out, ← HE5.out, ← HC.out, HENT.out]
            simp
          have HLT : Hid ((gSkip 59 (restL s q5)).length < g) := by
            have a1 := gHas_len HC.out.symm
            have a2 := gB_len (restL s q)
            have a3 := (gVs_len (gB (restL s q))).1
            have a4 := HGH.out
            rw [← HE5.out] at a3
            show _ < _
            omega
          go_wp2_with fail
          refine CT.out.mono ?_
          rintro e w7 ⟨rfl, ⟨q7, h7, e7⟩, k7⟩
          have HR7 := hid h7
          have HE7 := hid e7
          have HK7 := hid (HK6.out.trans k7)
          have HROW7 := hid (rowv_keeps HROW6.out k7 HRW.out)
          have HCE7 := hid (HCE6.out.kept (kept_keeps k7 HRW.out))
          clear h7 e7 k7
          go_wp2
          go_roundg g
          case measure => omega
          case rel => exact ⟨q7, A ++ [(z, y, V)], _, HR7, HK7, by have := HROW7.out; rw [HM6.out] at this ⊢; exact this, HCE7, by show G = _; rw [HE7.out]; exact HF.out, by show _ < _; rw [HE7.out]; exact HLT.out⟩

end Go.Proofs.YtijdjplajhcilabDoor
