/- DERIVED. The reader of messages: entries, each with a row of its own. The reader of messages: a message, all its rows its own. The program's MsgGet at what it takes: all rows of the answer its own. -/
import Derived.Test.YtcielnlhopjijabDoorGetEnts
import Derived.Test.YtcielnlhopjijabDoorGetMsg
import Derived.Test.YtcielnlhopjijabDoorGetImplR
namespace Go.Proofs.YtcielnlhopjijabDoor
open Go.RowKit
variable {w w' : World} {R : Nat} {s : ByteArray} {p : Nat}

/-- Each entry's votes lie in a row of their own, one behind the other. -/
def OCells (base : Nat) (w : World) (L : List Ent) (xs : List Value) : Prop := ∃ lo : Nat → Nat, base ≤ lo 0 ∧ lo L.length ≤ w.heap.size ∧ ∀ i, i < L.length → lo i ≤ lo (i + 1) ∧ ∃ (ov : Option Addr) (cv : Nat),
  xs[i * 3 + 2]? = some (.slice ov (L.getD i (0, 0, [])).2.2.length cv) ∧ w.ownsRow (lo i) 3 1 (.slice ov (L.getD i (0, 0, [])).2.2.length cv) (L.getD i (0, 0, [])).2.2.length ((L.getD i (0, 0, [])).2.2.map (Value.int .i64)) ∧ ∀ g, (Value.slice ov (L.getD i (0, 0, [])).2.2.length cv).ownBlock = some g → g < lo (i + 1)

def XCells (base : Nat) (w : World) (L : List Ent) (xs : List Value) : Prop := ECells base w L xs ∧ OCells base w L xs

theorem lo_mono {lo : Nat → Nat} {n : Nat} (h : ∀ i, i < n → lo i ≤ lo (i + 1)) : ∀ j, j ≤ n → ∀ i, i ≤ j → lo i ≤ lo j
  | 0, _, i, hi => by rw [Nat.le_zero.1 hi]; exact Nat.le_refl _
  | j + 1, hj, i, hi => by
    by_cases e : i = j + 1
    · rw [e]; exact Nat.le_refl _
    · exact Nat.le_trans (lo_mono h j (by omega) i (by omega)) (h j (by omega))

theorem row_int_kept {base lo n : Nat} {v : Value} {xs : List Value} (h : w.ownsRow lo 3 1 v n xs) (hb : base ≤ lo) (k : ∀ b cur fz, base ≤ b → w.heap[b]? = some (.cells cur 3 fz) → w'.heap[b]? = some (.cells cur 3 fz)) : w'.ownsRow lo 3 1 v n xs := by
  refine ⟨h.1, ?_⟩
  rcases h.2 with h0 | ⟨g, cap, cur, e1, e2, hg, e3⟩
  · exact Or.inl h0
  · exact Or.inr ⟨g, cap, cur, e1, e2, k g cur _ (by omega) hg, e3⟩

theorem OCells.kept {base : Nat} {L : List Ent} {xs : List Value} (h : OCells base w L xs) (k : ∀ b cur fz, base ≤ b → w.heap[b]? = some (.cells cur 3 fz) → w'.heap[b]? = some (.cells cur 3 fz)) (hs : w.heap.size ≤ w'.heap.size) : OCells base w' L xs := by
  obtain ⟨lo, h0, h1, h2⟩ := h
  refine ⟨lo, h0, Nat.le_trans h1 hs, fun i hi => ?_⟩
  obtain ⟨m, ov, cv, c, r, b⟩ := h2 i hi
  have hm := lo_mono (fun j hj => (h2 j hj).1) i (by omega) 0 (Nat.zero_le _)
  exact ⟨m, ov, cv, c, row_int_kept r (by omega) k, b⟩

theorem XCells.kept {base : Nat} {L : List Ent} {xs : List Value} (h : XCells base w L xs) (k : ∀ b cur fz, base ≤ b → w.heap[b]? = some (.cells cur 3 fz) → w'.heap[b]? = some (.cells cur 3 fz)) (hs : w.heap.size ≤ w'.heap.size) : XCells base w' L xs := ⟨h.1.kept k, h.2.kept k hs⟩

theorem own_lt {base n : Nat} {e : TypeId} {size : Nat} {v : Value} {xs : List Value} (h : w.ownsRow base e size v n xs) : ∀ g, v.ownBlock = some g → base ≤ g ∧ g < w.heap.size := by
  intro g hg
  rcases h.2 with ⟨e1, _⟩ | ⟨g', cap, cur, e1, e2, hb, _⟩
  · rw [e1] at hg; cases hg
  · rw [e1] at hg
    injection hg with hg
    subst hg
    exact ⟨e2, (Array.getElem?_eq_some_iff.1 hb).1⟩

theorem XCells.add {base : Nat} {L : List Ent} {xs : List Value} {x y : Int} {V : List Int} {ov : Option Addr} {cv : Nat} (h : XCells base w L xs) (k : ∀ b cur fz, base ≤ b → w.heap[b]? = some (.cells cur 3 fz) → w'.heap[b]? = some (.cells cur 3 fz)) (hs : w.heap.size ≤ w'.heap.size) (hbs : base ≤ w.heap.size) (hn : V.length ≤ 1048576) (hv : w'.ownsRow w.heap.size 3 1 (.slice ov V.length cv) V.length (V.map (Value.int .i64))) :
    XCells base w' (L ++ [(x, y, V)]) (xs ++ [.int .i64 x, .int .i64 y, .slice ov V.length cv]) := by
  refine ⟨ECells.add (h.1.kept k) hn ((NumsIn.of_row hv).base hbs), ?_⟩
  have hl := h.1.1
  obtain ⟨lo, h0, h1, h2⟩ := h.2
  refine ⟨fun i => if i < L.length then lo i else if i = L.length then w.heap.size else w'.heap.size, ?_, ?_, fun i hi => ?_⟩
  · by_cases e : 0 < L.length
    · simp only [if_pos e]; exact h0
    · have : L.length = 0 := by omega
      simp only [this, Nat.lt_irrefl, if_false, if_true]; exact hbs
  · have e1 : ¬ (L ++ [(x, y, V)]).length < L.length := by simp
    have e2 : ¬ (L ++ [(x, y, V)]).length = L.length := by simp
    simp only [if_neg e1, if_neg e2]
    exact Nat.le_refl _
  · by_cases e : i < L.length
    · obtain ⟨m, ov', cv', c, r, b⟩ := h2 i e
      have hm := lo_mono (fun j hj => (h2 j hj).1) i (by omega) 0 (Nat.zero_le _)
      have eg : (L ++ [(x, y, V)]).getD i (0, 0, []) = L.getD i (0, 0, []) := by
        rw [List.getD_eq_getElem?_getD, List.getD_eq_getElem?_getD, List.getElem?_append_left e]
      have hnx : lo (i + 1) ≤ (if i + 1 < L.length then lo (i + 1) else if i + 1 = L.length then w.heap.size else w'.heap.size) := by
        by_cases e2 : i + 1 < L.length
        · rw [if_pos e2]; exact Nat.le_refl _
        · have e3 : i + 1 = L.length := by omega
          rw [if_neg e2, if_pos e3, e3]; exact h1
      rw [eg]
      simp only [if_pos e]
      exact ⟨Nat.le_trans m hnx, ov', cv', by rw [List.getElem?_append_left (by omega)]; exact c, row_int_kept r (by omega) k, fun g hg => Nat.lt_of_lt_of_le (b g hg) hnx⟩
    · have ei : i = L.length := by simp at hi; omega
      subst ei
      have eg : (L ++ [(x, y, V)]).getD L.length (0, 0, []) = (x, y, V) := by
        rw [List.getD_eq_getElem?_getD, List.getElem?_append_right (Nat.le_refl _), Nat.sub_self]
        rfl
      rw [eg]
      have e1 : ¬ L.length + 1 < L.length := by omega
      have e2 : ¬ L.length + 1 = L.length := by omega
      simp only [Nat.lt_irrefl, if_false, if_true, if_neg e1, if_neg e2]
      refine ⟨hs, ov, cv, ?_, hv, fun g hg => (own_lt hv g hg).2⟩
      rw [List.getElem?_append_right (by omega), hl, show L.length * 3 + 2 - L.length * 3 = 2 by omega]; rfl

theorem xcells_set {base : Nat} {L : List Ent} {xs : List Value} (h : XCells base w L xs) (g j : Nat) (u : Value) (hg : g < base) : XCells base (w.setCell ⟨g, j, none⟩ u) L xs :=
  h.kept (fun b cur fz hb hh => by rw [Below.heap_setCell _ _ _ _ (show b ≠ g by omega)]; exact hh) (by simp)

theorem XCells.nil (w : World) (base : Nat) (hb : base ≤ w.heap.size) : XCells base w [] [] := ⟨⟨rfl, fun _ hi => absurd hi (Nat.not_lt_zero _)⟩, fun _ => base, Nat.le_refl _, hb, fun _ hi => absurd hi (Nat.not_lt_zero _)⟩

set_option maxRecDepth 100000 in
set_option maxHeartbeats 6400000 in
theorem rents_o (h : RAt w R s p) :
    Calls Tryd.prog 30 #[.pointer (some ⟨R, 0, none⟩)] w fun e w' => (∃ v xs, e = .returned v ∧ w'.ownsRow w.heap.size 71 3 v (gEs (restL s p)).1.length xs ∧ XCells w.heap.size w' (gEs (restL s p)).1 xs) ∧ (∃ q, RAt w' R s q) ∧ Keeps R w w' := by
  obtain ⟨i0, hi, hz0, hz1, hz2⟩ := info_parts infoEnt
  have HRW : Hid (R < w.heap.size) := h.old
  have HR0 := hid h
  have hsm := h.small
  have hl0 := gEs_len (restL s p)
  have hl1 := restL_len s p
  obtain ⟨G, hG⟩ : ∃ G, G = (gEs (restL s p)).1 := ⟨_, rfl⟩
  have HG := hid hG
  rw [← hG] at hl0 ⊢
  obtain ⟨n, hn⟩ : ∃ n, n = (restL s p).length + 1 := ⟨_, rfl⟩
  have HN := hid hn
  have HL0 : Hid (G.length ≤ 401) := by show _ ≤ _; omega
  clear hG hn hl0 hl1 h
  go_enter Tryd.func30, Tryd.ntmps30
  go_wp2
  go_loopg [3] n (fun gh v wr => ∃ (q : Nat) (A : List Ent) (xs : List Value), Hid (RAt wr R s q) ∧ Hid (Keeps R w wr) ∧ Hid (wr.ownsRow w.heap.size 71 3 v A.length xs) ∧ Hid (XCells w.heap.size wr A xs) ∧ Hid (G = A ++ (gEs (restL s q)).1) ∧ Hid ((restL s q).length < gh))
  case atStart => exact ⟨p, [], [], HR0, Keeps.refl _ _, row_nil _ _ _ _, XCells.nil _ _ (Nat.le_refl _), by show G = _; rw [HG.out]; rfl, by show _ < _; have := HN.out; omega⟩
  case round =>
    obtain ⟨q, A, xs, HR, HK, HROW, HCE, HE, HGH⟩ := hrel
    obtain ⟨ov, cv, rfl⟩ := rowv_shape HROW.out
    cases gk with
    | zero => exact absurd HGH.out (Nat.not_lt_zero _)
    | succ g =>
      have CN := hid (rnumber_any HR.out)
      have HEQ := hid (gEs_eq (restL s q))
      have hAl : A.length ≤ 401 := by
        have h1 := HL0.out
        rw [HE.out] at h1
        simp at h1
        omega
      obtain ⟨z, hz⟩ : ∃ z, z = gVal (restL s q) := ⟨_, rfl⟩
      have HZ := hid hz
      obtain ⟨b, hb⟩ : ∃ b, b = gOk (restL s q) := ⟨_, rfl⟩
      rw [← hz, ← hb] at CN
      rw [← hb] at HEQ
      clear hz hb
      obtain ⟨m, hm⟩ : ∃ m, m = A.length := ⟨_, rfl⟩
      have HM := hid hm
      rw [← hm] at hAl ⊢
      clear hm
      cases b
      · have HF : Hid (G = A) := by
          show G = _
          rw [HE.out, HEQ.out]
          simp
        clear hAl
        go_wp2_with fail
        refine CN.out.mono ?_
        rintro e w1 ⟨rfl, ⟨q1, h1, _⟩, k1⟩
        have HR1 := hid h1
        have HK1 := hid (HK.out.trans k1)
        have HROW1 := hid (rowv_keeps HROW.out k1 HRW.out)
        have HCE1 := hid (HCE.out.kept (kept_keeps k1 HRW.out) k1.size)
        clear h1 k1
        go_wp2
        go_ret
        exact ⟨⟨.slice ov m cv, xs, rfl, by rw [HF.out, HM.out]; exact HROW1.out, by rw [HF.out]; exact HCE1.out⟩, ⟨q1, HR1.out⟩, HK1.out⟩
      · go_wp2_with fail
        refine CN.out.mono ?_
        rintro e w1 ⟨rfl, ⟨q1, h1, e1⟩, k1⟩
        have HR1 := hid h1
        have HE1 := hid e1
        have HK1 := hid (HK.out.trans k1)
        have HROW1 := hid (rowv_keeps HROW.out k1 HRW.out)
        have HCE1 := hid (HCE.out.kept (kept_keeps k1 HRW.out) k1.size)
        clear h1 e1 k1
        go_wp2_with fail
        refine (rtake_any HR1.out 58 58 rfl).mono ?_
        rintro e w2 ⟨rfl, ⟨q2, h2, e2⟩, k2⟩
        have HR2 := hid h2
        have HE2 : Hid (restL s q2 = gA (restL s q)) := by show _ = _; rw [e2, HE1.out]; rfl
        have HK2 := hid (HK1.out.trans k2)
        have HROW2 := hid (rowv_keeps HROW1.out k2 HRW.out)
        have HCE2 := hid (HCE1.out.kept (kept_keeps k2 HRW.out) k2.size)
        clear h2 e2 k2
        have CN2 := hid (rnumber_any HR2.out)
        obtain ⟨y, hy⟩ : ∃ y, y = gVal (restL s q2) := ⟨_, rfl⟩
        have HY := hid hy
        obtain ⟨yb, hyb⟩ : ∃ yb, yb = gOk (restL s q2) := ⟨_, rfl⟩
        rw [← hy, ← hyb] at CN2
        clear hy hyb
        go_wp2_with fail
        refine CN2.out.mono ?_
        rintro e w3 ⟨rfl, ⟨q3, h3, e3⟩, k3⟩
        have HR3 := hid h3
        have HE3 := hid e3
        have HK3 := hid (HK2.out.trans k3)
        have HROW3 := hid (rowv_keeps HROW2.out k3 HRW.out)
        have HCE3 := hid (HCE2.out.kept (kept_keeps k3 HRW.out) k3.size)
        clear h3 e3 k3
        go_wp2_with fail
        refine (rtake_any HR3.out 58 58 rfl).mono ?_
        rintro e w4 ⟨rfl, ⟨q4, h4, e4⟩, k4⟩
        have HR4 := hid h4
        have HE4 : Hid (restL s q4 = gB (restL s q)) := by show _ = _; rw [e4, HE3.out, HE2.out]; rfl
        have HK4 := hid (HK3.out.trans k4)
        have HROW4 := hid (rowv_keeps HROW3.out k4 HRW.out)
        have HCE4 := hid (HCE3.out.kept (kept_keeps k4 HRW.out) k4.size)
        clear h4 e4 k4
        go_wp2_with fail
        refine (rvotes_any HR4.out).mono ?_
        rintro e w5 ⟨⟨v, rfl, hv⟩, ⟨q5, h5, e5⟩, k5⟩
        have HR5 := hid h5
        have HE5 : Hid (restL s q5 = (gVs (gB (restL s q))).2) := by show _ = _; rw [e5, HE4.out]
        have HK5 := hid (HK4.out.trans k5)
        have HROW5 := hid (rowv_keeps HROW4.out k5 HRW.out)
        have HS4 : w.heap.size ≤ w4.heap.size := HK4.out.size
        obtain ⟨V, hV⟩ : ∃ V, V = (gVs (restL s q4)).1 := ⟨_, rfl⟩
        have HV := hid hV
        rw [← hV] at hv
        have hvl : V.length ≤ 402 := by
          have a1 := (gVs_len (restL s q4)).2
          have a2 := restL_len s q4
          rw [hV]
          omega
        obtain ⟨ovv, cvv, rfl⟩ := rowv_shape hv
        have HCE5 := hid (XCells.add (x := z) (y := y) HCE4.out (kept_keeps k5 HRW.out) k5.size HS4 (by omega) hv)
        have HS5 : Hid (w.heap.size ≤ w5.heap.size) := HK5.out.size
        obtain ⟨vn, hvn⟩ : ∃ vn, vn = V.length := ⟨_, rfl⟩
        have HVN := hid hvn
        rw [← hvn] at hvl ⊢
        have hown := HROW5.out
        rw [← HM.out] at hown
        clear h5 e5 k5 hv hV hvn
        go_wp2_with (at_builtin; refine wpList_append_own _ rfl _ _ 23 rfl w.heap.size 71 i0 (.agg #[.int .i64 0, .int .i64 0, .slice none 0 0]) 3 40 Tryd.underlying23 hi hz0 hz1 hz2 rfl (by decide) _ _ _ rfl (hown.alloc _) ⟨w5.heap.size, 0, none⟩ 1 1 [.int .i64 z, .int .i64 y, .slice ovv vn cvv] rfl rfl (cell_three _ _ _ _ _) (by simp [Value.oneCell']) (by unfold maxLen; omega) (by omega) (by have := HS5.out; simp; omega) ?_)
        intro v' w6 hown' hgrow _
        have hala : Below w5.heap.size w5 (w5.alloc (.cells #[.int .i64 z, .int .i64 y, .slice ovv vn cvv] 71)) := (Below.refl _ _).alloc (Nat.le_refl _) _
        have hbl : Below w.heap.size w5 w6 := (hala.mono HS5.out).trans (below_grown (hown.alloc _) (by have := HS5.out; simp; omega) hgrow)
        have HR6 := hid (HR5.out.under HRW.out hbl)
        have HK6 := hid (HK5.out.under HRW.out hbl)
        have HCE6 : Hid (XCells w.heap.size w6 (A ++ [(z, y, V)]) (xs ++ [.int .i64 z, .int .i64 y, .slice ovv vn cvv])) := by
          show XCells _ _ _ _
          rw [HVN.out]
          exact HCE5.out.kept (fun b cur fz hb hh => kept_grown (hown.alloc _) hgrow b cur fz hb (kept_below hala b cur fz hb hh)) hbl.size
        have HROW6 : Hid (w6.ownsRow w.heap.size 71 3 v' (A ++ [(z, y, V)]).length (xs ++ [.int .i64 z, .int .i64 y, .slice ovv vn cvv])) := by
          show w6.ownsRow _ _ _ _ _ _
          rw [List.length_append, ← HM.out]
          exact hown'
        have HM6 : Hid ((A ++ [(z, y, V)]).length = m + 1) := by show _ = _; rw [List.length_append, ← HM.out]; rfl
        have HENT : Hid ((z, y, V) = gEnt (restL s q)) := by
          show _ = _
          unfold gEnt
          rw [HZ.out, HY.out, HE2.out, HV.out, HE4.out]
        clear hown hown' hgrow hbl hala
        obtain ⟨ov2, cv2, rfl⟩ := rowv_shape HROW6.out
        rw [HM6.out]
        have CT := hid (rtake_any HR6.out 59 59 rfl)
        obtain ⟨c, hc⟩ : ∃ c, c = gHas 59 (restL s q5) := ⟨_, rfl⟩
        have HC := hid hc
        rw [← hc] at CT
        clear hc
        cases c
        · have HF : Hid (G = A ++ [(z, y, V)]) := by
            show G = _
            rw [HE.out, HEQ.out, ← HE5.out, ← HC.out, HENT.out]
            simp
          go_wp2_with fail
          refine CT.out.mono ?_
          rintro e w7 ⟨rfl, ⟨q7, h7, e7⟩, k7⟩
          have HR7 := hid h7
          have HK7 := hid (HK6.out.trans k7)
          have HROW7 := hid (rowv_keeps HROW6.out k7 HRW.out)
          have HCE7 := hid (HCE6.out.kept (kept_keeps k7 HRW.out) k7.size)
          clear h7 e7 k7
          go_wp2
          go_ret
          exact ⟨⟨.slice ov2 (m + 1) cv2, _, rfl, by rw [HF.out]; have := HROW7.out; rw [HM6.out] at this ⊢; exact this, by rw [HF.out]; exact HCE7.out⟩, ⟨q7, HR7.out⟩, HK7.out⟩
        · have HF : Hid (G = (A ++ [(z, y, V)]) ++ (gEs (gSkip 59 (restL s q5))).1) := by
            show G = _
            rw [HE.out, HEQ.out, ← HE5.out, ← HC.out, HENT.out]
            simp
          have HLT : Hid ((gSkip 59 (restL s q5)).length < g) := by
            have a1 := gHas_len HC.out.symm
            have a2 := gB_len (restL s q)
            have a3 := (gVs_len (gB (restL s q))).1
            have a4 := HGH.out
            rw [← HE5.out] at a3
            show _ < _
            omega
          go_wp2_with fail
          refine CT.out.mono ?_
          rintro e w7 ⟨rfl, ⟨q7, h7, e7⟩, k7⟩
          have HR7 := hid h7
          have HE7 := hid e7
          have HK7 := hid (HK6.out.trans k7)
          have HROW7 := hid (rowv_keeps HROW6.out k7 HRW.out)
          have HCE7 := hid (HCE6.out.kept (kept_keeps k7 HRW.out) k7.size)
          clear h7 e7 k7
          go_wp2
          go_roundg g
          case measure => omega
          case rel => exact ⟨q7, A ++ [(z, y, V)], _, HR7, HK7, by have := HROW7.out; rw [HM6.out] at this ⊢; exact this, HCE7, by show G = _; rw [HE7.out]; exact HF.out, by show _ < _; rw [HE7.out]; exact HLT.out⟩

end Go.Proofs.YtcielnlhopjijabDoor

namespace Go.Proofs.YtcielnlhopjijabDoor
open Go.RowKit
variable {w w' : World} {R : Nat} {s : ByteArray} {p : Nat}

set_option maxRecDepth 100000 in
set_option maxHeartbeats 6400000 in
theorem rmsg_o (h : RAt w R s p) :
    Calls Tryd.prog 11 #[.pointer (some ⟨R, 0, none⟩)] w fun e w' => (∃ (o1 o2 : Option Addr) (c1 c2 b1 b2 : Nat) (xs : List Value), e = .returned (.agg #[.int .i64 (gPart (restL s p) 0), .int .i64 (gPart (restL s p) 1), .int .i64 (gPart (restL s p) 2), .int .i64 (gPart (restL s p) 3), .int .i64 (gPart (restL s p) 4), .slice o1 (gV (restL s p)).length c1, .slice o2 (gL (restL s p)).length c2]) ∧ w.heap.size ≤ b1 ∧ w'.ownsRow b1 3 1 (.slice o1 (gV (restL s p)).length c1) (gV (restL s p)).length ((gV (restL s p)).map (Value.int .i64)) ∧ w.heap.size ≤ b2 ∧ w'.ownsRow b2 71 3 (.slice o2 (gL (restL s p)).length c2) (gL (restL s p)).length xs ∧ XCells b2 w' (gL (restL s p)) xs ∧ ∀ g, (Value.slice o1 (gV (restL s p)).length c1).ownBlock = some g → g < b2) ∧ Keeps R w w' := by
  have HRW : Hid (R < w.heap.size) := h.old
  have ha1 : Below w.heap.size w (w.alloc (.cells #[.int .i64 0, .int .i64 0, .int .i64 0, .int .i64 0, .int .i64 0, .slice none 0 0, .slice none 0 0] 25)) := (Below.refl _ _).alloc (Nat.le_refl _) _
  have ha2 : Below w.heap.size w ((w.alloc (.cells #[.int .i64 0, .int .i64 0, .int .i64 0, .int .i64 0, .int .i64 0, .slice none 0 0, .slice none 0 0] 25)).alloc (.cells #[.int .i64 0, .int .i64 0, .int .i64 0, .int .i64 0, .int .i64 0, .slice none 0 0, .slice none 0 0] 25)) := ha1.alloc (by simp) _
  have ha3 : Below w.heap.size w (((w.alloc (.cells #[.int .i64 0, .int .i64 0, .int .i64 0, .int .i64 0, .int .i64 0, .slice none 0 0, .slice none 0 0] 25)).alloc (.cells #[.int .i64 0, .int .i64 0, .int .i64 0, .int .i64 0, .int .i64 0, .slice none 0 0, .slice none 0 0] 25)).alloc (.cells #[.pointer (some ⟨w.heap.size + 1, 0, none⟩), .pointer (some ⟨w.heap.size + 1, 1, none⟩), .pointer (some ⟨w.heap.size + 1, 2, none⟩), .pointer (some ⟨w.heap.size + 1, 3, none⟩), .pointer (some ⟨w.heap.size + 1, 4, none⟩)] 50)) := ha2.alloc (by simp; omega) _
  obtain ⟨W3, hW3⟩ : ∃ W3, W3 = ((w.alloc (.cells #[.int .i64 0, .int .i64 0, .int .i64 0, .int .i64 0, .int .i64 0, .slice none 0 0, .slice none 0 0] 25)).alloc (.cells #[.int .i64 0, .int .i64 0, .int .i64 0, .int .i64 0, .int .i64 0, .slice none 0 0, .slice none 0 0] 25)).alloc (.cells #[.pointer (some ⟨w.heap.size + 1, 0, none⟩), .pointer (some ⟨w.heap.size + 1, 1, none⟩), .pointer (some ⟨w.heap.size + 1, 2, none⟩), .pointer (some ⟨w.heap.size + 1, 3, none⟩), .pointer (some ⟨w.heap.size + 1, 4, none⟩)] 50) := ⟨_, rfl⟩
  have e1 := alloc_new (w.alloc (.cells #[.int .i64 0, .int .i64 0, .int .i64 0, .int .i64 0, .int .i64 0, .slice none 0 0, .slice none 0 0] 25)) (.cells #[.int .i64 0, .int .i64 0, .int .i64 0, .int .i64 0, .int .i64 0, .slice none 0 0, .slice none 0 0] 25)
  rw [show (w.alloc (.cells #[.int .i64 0, .int .i64 0, .int .i64 0, .int .i64 0, .int .i64 0, .slice none 0 0, .slice none 0 0] 25)).heap.size = w.heap.size + 1 by simp] at e1
  have e2 := alloc_new ((w.alloc (.cells #[.int .i64 0, .int .i64 0, .int .i64 0, .int .i64 0, .int .i64 0, .slice none 0 0, .slice none 0 0] 25)).alloc (.cells #[.int .i64 0, .int .i64 0, .int .i64 0, .int .i64 0, .int .i64 0, .slice none 0 0, .slice none 0 0] 25)) (.cells #[.pointer (some ⟨w.heap.size + 1, 0, none⟩), .pointer (some ⟨w.heap.size + 1, 1, none⟩), .pointer (some ⟨w.heap.size + 1, 2, none⟩), .pointer (some ⟨w.heap.size + 1, 3, none⟩), .pointer (some ⟨w.heap.size + 1, 4, none⟩)] 50)
  rw [show ((w.alloc (.cells #[.int .i64 0, .int .i64 0, .int .i64 0, .int .i64 0, .int .i64 0, .slice none 0 0, .slice none 0 0] 25)).alloc (.cells #[.int .i64 0, .int .i64 0, .int .i64 0, .int .i64 0, .int .i64 0, .slice none 0 0, .slice none 0 0] 25)).heap.size = w.heap.size + 1 + 1 by simp] at e2
  have HX0 : Hid (W3.heap[w.heap.size]? = some (.cells #[.int .i64 0, .int .i64 0, .int .i64 0, .int .i64 0, .int .i64 0, .slice none 0 0, .slice none 0 0] 25 (0, 0))) := by
    rw [hW3]
    exact alloc_keep (alloc_keep (alloc_new w _))
  have HX1 : Hid (W3.heap[w.heap.size + 1]? = some (.cells #[.int .i64 0, .int .i64 0, .int .i64 0, .int .i64 0, .int .i64 0, .slice none 0 0, .slice none 0 0] 25 (0, 0))) := by
    rw [hW3]
    exact alloc_keep e1
  have HX2 : Hid (W3.heap[w.heap.size + 1 + 1]? = some (.cells #[.pointer (some ⟨w.heap.size + 1, 0, none⟩), .pointer (some ⟨w.heap.size + 1, 1, none⟩), .pointer (some ⟨w.heap.size + 1, 2, none⟩), .pointer (some ⟨w.heap.size + 1, 3, none⟩), .pointer (some ⟨w.heap.size + 1, 4, none⟩)] 50 (0, 0))) := by
    rw [hW3]
    exact e2
  rw [← hW3] at ha3
  have HR0 := hid (h.below ha3)
  have HK0 := hid (Keeps.of_below ha3 h.old)
  have HWE := hid hW3
  have hN1 : Hid (w.heap.size ≠ R) := by have := HRW.out; show _ ≠ _; omega
  have hN2 : Hid (w.heap.size + 1 ≠ R) := by have := HRW.out; show _ ≠ _; omega
  have hN3 : Hid (w.heap.size + 1 + 1 ≠ R) := by have := HRW.out; show _ ≠ _; omega
  obtain ⟨L0, hL0⟩ : ∃ L0, L0 = restL s p := ⟨_, rfl⟩
  have HL0 := hid hL0
  rw [← hL0]
  obtain ⟨P, hP⟩ : ∃ P, P = gPart L0 := ⟨_, rfl⟩
  obtain ⟨V, hV⟩ : ∃ V, V = gV L0 := ⟨_, rfl⟩
  obtain ⟨LL, hLL⟩ : ∃ LL, LL = gL L0 := ⟨_, rfl⟩
  have HPP := hid hP
  have HVV := hid hV
  have HLL := hid hLL
  rw [← hP, ← hV, ← hLL]
  clear hP hV hLL hL0 h ha1 ha2 ha3 hW3 e1 e2
  go_enter Tryd.func11, Tryd.ntmps11
  go_wp2
  rw [← HWE.out]
  go_loopw [13] (fun i wr => ∃ k : Nat, k ≤ 5 ∧ i = .int .i64 k ∧ (∃ q, Hid (RAt wr R s q ∧ restL s q = gRest L0 k)) ∧ Hid (Keeps R w wr) ∧ Hid (wr.heap[w.heap.size]? = some (.cells #[.int .i64 0, .int .i64 0, .int .i64 0, .int .i64 0, .int .i64 0, .slice none 0 0, .slice none 0 0] 25 (0, 0))) ∧ Hid (wr.heap[w.heap.size + 1]? = some (.cells (mCells P k (.slice none 0 0) (.slice none 0 0)) 25 (0, 0))) ∧ Hid (wr.heap[w.heap.size + 1 + 1]? = some (.cells #[.pointer (some ⟨w.heap.size + 1, 0, none⟩), .pointer (some ⟨w.heap.size + 1, 1, none⟩), .pointer (some ⟨w.heap.size + 1, 2, none⟩), .pointer (some ⟨w.heap.size + 1, 3, none⟩), .pointer (some ⟨w.heap.size + 1, 4, none⟩)] 50 (0, 0)))) (fun i _ => 5 - (intOf i).toNat)
  case atStart => exact ⟨0, Nat.zero_le _, rfl, ⟨p, HR0.out, HL0.out.symm⟩, HK0, HX0, HX1, HX2⟩
  case round =>
    obtain ⟨k, hk, rfl, ⟨q, HR⟩, HK, HA, HB, HC⟩ := hrel
    by_cases hlt : k < 5
    · have hltI : (k : Int) < 5 := by omega
      have hk0I : (0 : Int) ≤ (k : Int) := by omega
      have hc : wr.cell? ⟨w.heap.size + 1 + 1, k, none⟩ = some (.pointer (some ⟨w.heap.size + 1, k, none⟩)) := by
        rw [in_block HC.out k]
        match k, hlt with
        | 0, _ => rfl
        | 1, _ => rfl
        | 2, _ => rfl
        | 3, _ => rfl
        | 4, _ => rfl
      have CN := hid (rnumber_any HR.out.1)
      have HP : Hid (gVal (restL s q) = P k) := by show _ = _; rw [HR.out.2, HPP.out]; rfl
      have HNEXT : Hid (gSkip 32 (gDrop (restL s q)) = gRest L0 (k + 1)) := by show _ = _; rw [HR.out.2]; rfl
      rw [HP.out] at CN
      obtain ⟨z, hz⟩ : ∃ z, z = P k := ⟨_, rfl⟩
      have HZ := hid hz
      rw [← hz] at CN
      obtain ⟨b, hb⟩ : ∃ b, b = gOk (restL s q) := ⟨_, rfl⟩
      rw [← hb] at CN
      clear hz hb HP
      go_wp2_with fail
      refine CN.out.mono ?_
      rintro e w1 ⟨rfl, ⟨q1, h1, e1⟩, k1⟩
      have HR1 := hid h1
      have HE1 := hid e1
      have HK1 := hid (HK.out.trans k1)
      have HA1 := hid (keeps_block HA.out k1 hN1.out)
      have HB1 := hid (keeps_block HB.out k1 hN2.out)
      have HC1 := hid (keeps_block HC.out k1 hN3.out)
      obtain ⟨u, hu⟩ : ∃ u, (mCells P k (.slice none 0 0) (.slice none 0 0))[k]? = some u := by
        match k, hlt with
        | 0, _ => exact ⟨_, rfl⟩
        | 1, _ => exact ⟨_, rfl⟩
        | 2, _ => exact ⟨_, rfl⟩
        | 3, _ => exact ⟨_, rfl⟩
        | 4, _ => exact ⟨_, rfl⟩
      have c1 : w1.cell? ⟨w.heap.size + 1, k, none⟩ = some u := by rw [in_block HB1.out k]; exact hu
      have f1 : w1.frozen? ⟨w.heap.size + 1, k, none⟩ = false := free_block HB1.out k
      have hst : Below w.heap.size w1 (w1.setCell ⟨w.heap.size + 1, k, none⟩ (.int .i64 z)) := (Below.refl _ _).setCell (p := ⟨w.heap.size + 1, k, none⟩) (by simp) _
      have HR2 := hid (HR1.out.under HRW.out hst)
      have HK2 := hid (HK1.out.under HRW.out hst)
      have HA2 := hid (set_other HA1.out (w.heap.size + 1) k (.int .i64 z) (by omega))
      have HB2 : Hid ((w1.setCell ⟨w.heap.size + 1, k, none⟩ (.int .i64 z)).heap[w.heap.size + 1]? = some (.cells (mCells P (k + 1) (.slice none 0 0) (.slice none 0 0)) 25 (0, 0))) := by
        have := set_block w1 (w.heap.size + 1) k _ _ (.int .i64 z) HB1.out
        rw [HZ.out, mCells_next _ _ _ _ hlt] at this
        rw [HZ.out]
        exact this
      have HC2 := hid (set_other HC1.out (w.heap.size + 1) k (.int .i64 z) (by omega))
      clear h1 e1 k1 hc hu hst
      go_wp2_with fail
      refine (rtake_any HR2.out 32 32 rfl).mono ?_
      rintro e w3 ⟨rfl, ⟨q3, h3, e3⟩, k3⟩
      have HR3 : Hid (RAt w3 R s q3 ∧ restL s q3 = gRest L0 (k + 1)) := ⟨h3, by rw [e3, HE1.out, HNEXT.out]⟩
      have HK3 := hid (HK2.out.trans k3)
      have HA3 := hid (keeps_block HA2.out k3 hN1.out)
      have HB3 := hid (keeps_block HB2.out k3 hN2.out)
      have HC3 := hid (keeps_block HC2.out k3 hN3.out)
      clear h3 e3 k3
      go_wp2
      go_roundw
      case rel => exact ⟨k + 1, by omega, by go_num, ⟨q3, HR3⟩, HK3, HA3, HB3, HC3⟩
      case measure => simp [intOf]; omega
    · have hltI : ¬ (k : Int) < 5 := by omega
      have hk5 : k = 5 := by omega
      subst hk5
      have CV := hid (rvotes_any HR.out.1)
      have HGV : Hid ((gVs (restL s q)).1 = V) := by show _ = _; rw [HR.out.2, HVV.out]; rfl
      have HGR : Hid ((gVs (restL s q)).2 = (gVs (gRest L0 5)).2) := by show _ = _; rw [HR.out.2]
      rw [HGV.out, HGR.out] at CV
      have HB0 : Hid (wr.heap[w.heap.size + 1]? = some (.cells #[.int .i64 (P 0), .int .i64 (P 1), .int .i64 (P 2), .int .i64 (P 3), .int .i64 (P 4), .slice none 0 0, .slice none 0 0] 25 (0, 0))) := HB.out
      clear HGV HGR HB
      go_wp2_with fail
      refine CV.out.mono ?_
      rintro e w1 ⟨⟨v, rfl, hv⟩, ⟨q1, h1, e1⟩, k1⟩
      obtain ⟨o1, c1, rfl⟩ := rowv_shape hv
      have HV1 : Hid (w1.ownsRow (w.heap.size + 1 + 1 + 1) 3 1 (.slice o1 V.length c1) V.length (V.map (Value.int .i64))) := row_base hv (by have := (Array.getElem?_eq_some_iff.1 HC.out).1; omega)
      have HR1 := hid h1
      have HE1 := hid e1
      have HK1 := hid (HK.out.trans k1)
      have HA1 := hid (keeps_block HA.out k1 hN1.out)
      have HB1 := hid (keeps_block HB0.out k1 hN2.out)
      have hcell : w1.cell? ⟨w.heap.size + 1, 5, none⟩ = some (.slice none 0 0) := by rw [in_block HB1.out 5]; rfl
      have hfree : w1.frozen? ⟨w.heap.size + 1, 5, none⟩ = false := free_block HB1.out 5
      have hst : Below w.heap.size w1 (w1.setCell ⟨w.heap.size + 1, 5, none⟩ (.slice o1 V.length c1)) := (Below.refl _ _).setCell (p := ⟨w.heap.size + 1, 5, none⟩) (by simp) _
      have HR2 := hid (HR1.out.under HRW.out hst)
      have HK2 := hid (HK1.out.under HRW.out hst)
      have HA2 := hid (set_other HA1.out (w.heap.size + 1) 5 (.slice o1 V.length c1) (by omega))
      have HB2 : Hid ((w1.setCell ⟨w.heap.size + 1, 5, none⟩ (.slice o1 V.length c1)).heap[w.heap.size + 1]? = some (.cells #[.int .i64 (P 0), .int .i64 (P 1), .int .i64 (P 2), .int .i64 (P 3), .int .i64 (P 4), .slice o1 V.length c1, .slice none 0 0] 25 (0, 0))) := set_block w1 (w.heap.size + 1) 5 _ _ _ HB1.out
      have HV2 := hid (row_set HV1.out (w.heap.size + 1) 5 (.slice o1 V.length c1) (by omega))
      clear hv h1 e1 k1 hst
      go_wp2_with fail
      refine (rtake_any HR2.out 32 32 rfl).mono ?_
      rintro e w3 ⟨rfl, ⟨q3, h3, e3⟩, k3⟩
      have HR3 := hid h3
      have HE3 : Hid ((gEs (restL s q3)).1 = LL) := by show _ = _; rw [e3, HE1.out, HLL.out]; rfl
      have HK3 := hid (HK2.out.trans k3)
      have HA3 := hid (keeps_block HA2.out k3 hN1.out)
      have HB3 := hid (keeps_block HB2.out k3 hN2.out)
      have HV3 := hid (rowv_keeps HV2.out k3 (by have := HRW.out; omega))
      clear h3 e3 k3
      have HVB : Hid (∀ g, (Value.slice o1 V.length c1).ownBlock = some g → g < w3.heap.size) := fun g hg => (own_lt HV3.out g hg).2
      have CE := hid (rents_o HR3.out)
      rw [HE3.out] at CE
      have HNE : Hid (∀ W, Keeps R w3 W → W.ownsRow (w.heap.size + 1 + 1 + 1) 3 1 (.slice o1 V.length c1) V.length (V.map (Value.int .i64))) := fun W kk => rowv_keeps HV3.out kk (by have := HRW.out; omega)
      have HW3 : Hid (w.heap.size + 1 < w3.heap.size) := (Array.getElem?_eq_some_iff.1 HB3.out).1
      clear hcell hfree
      go_wp2_with fail
      refine CE.out.mono ?_
      rintro e w4 ⟨⟨v, xs, rfl, hv, hx⟩, _, k4⟩
      obtain ⟨o2, c2, rfl⟩ := rowv_shape hv
      have HL4 := hid hv
      have HX4 := hid hx
      have HV4 := hid (HNE.out _ k4)
      have HK4 := hid (HK3.out.trans k4)
      have HA4 := hid (keeps_block HA3.out k4 hN1.out)
      have HB4 := hid (keeps_block HB3.out k4 hN2.out)
      have hcell : w4.cell? ⟨w.heap.size + 1, 6, none⟩ = some (.slice none 0 0) := by rw [in_block HB4.out 6]; rfl
      have hfree : w4.frozen? ⟨w.heap.size + 1, 6, none⟩ = false := free_block HB4.out 6
      have z0 : w4.cell? ⟨w.heap.size, 0, none⟩ = some (.int .i64 0) := by rw [in_block HA4.out 0]; rfl
      have fz0 : w4.frozen? ⟨w.heap.size, 0, none⟩ = false := free_block HA4.out 0
      have z1 : w4.cell? ⟨w.heap.size, 1, none⟩ = some (.int .i64 0) := by rw [in_block HA4.out 1]; rfl
      have fz1 : w4.frozen? ⟨w.heap.size, 1, none⟩ = false := free_block HA4.out 1
      have z2 : w4.cell? ⟨w.heap.size, 2, none⟩ = some (.int .i64 0) := by rw [in_block HA4.out 2]; rfl
      have fz2 : w4.frozen? ⟨w.heap.size, 2, none⟩ = false := free_block HA4.out 2
      have z3 : w4.cell? ⟨w.heap.size, 3, none⟩ = some (.int .i64 0) := by rw [in_block HA4.out 3]; rfl
      have fz3 : w4.frozen? ⟨w.heap.size, 3, none⟩ = false := free_block HA4.out 3
      have z4 : w4.cell? ⟨w.heap.size, 4, none⟩ = some (.int .i64 0) := by rw [in_block HA4.out 4]; rfl
      have fz4 : w4.frozen? ⟨w.heap.size, 4, none⟩ = false := free_block HA4.out 4
      have z5 : w4.cell? ⟨w.heap.size, 5, none⟩ = some (.slice none 0 0) := by rw [in_block HA4.out 5]; rfl
      have fz5 : w4.frozen? ⟨w.heap.size, 5, none⟩ = false := free_block HA4.out 5
      have z6 : w4.cell? ⟨w.heap.size, 6, none⟩ = some (.slice none 0 0) := by rw [in_block HA4.out 6]; rfl
      have fz6 : w4.frozen? ⟨w.heap.size, 6, none⟩ = false := free_block HA4.out 6
      have y0 : w4.cell? ⟨w.heap.size + 1, 0, none⟩ = some (.int .i64 (P 0)) := by rw [in_block HB4.out 0]; rfl
      have y1 : w4.cell? ⟨w.heap.size + 1, 1, none⟩ = some (.int .i64 (P 1)) := by rw [in_block HB4.out 1]; rfl
      have y2 : w4.cell? ⟨w.heap.size + 1, 2, none⟩ = some (.int .i64 (P 2)) := by rw [in_block HB4.out 2]; rfl
      have y3 : w4.cell? ⟨w.heap.size + 1, 3, none⟩ = some (.int .i64 (P 3)) := by rw [in_block HB4.out 3]; rfl
      have y4 : w4.cell? ⟨w.heap.size + 1, 4, none⟩ = some (.int .i64 (P 4)) := by rw [in_block HB4.out 4]; rfl
      have y5 : w4.cell? ⟨w.heap.size + 1, 5, none⟩ = some (.slice o1 V.length c1) := by rw [in_block HB4.out 5]; rfl
      have hle0 : w.heap.size ≤ w.heap.size := Nat.le_refl _
      have hle1 : w.heap.size ≤ w.heap.size + 1 := Nat.le_succ _
      have HBB := hid (((((((((Below.refl w.heap.size w4).setCell (p := ⟨w.heap.size + 1, 6, none⟩) hle1 (.slice o2 LL.length c2)).setCell (p := ⟨w.heap.size, 0, none⟩) hle0 (.int .i64 (P 0))).setCell (p := ⟨w.heap.size, 1, none⟩) hle0 (.int .i64 (P 1))).setCell (p := ⟨w.heap.size, 2, none⟩) hle0 (.int .i64 (P 2))).setCell (p := ⟨w.heap.size, 3, none⟩) hle0 (.int .i64 (P 3))).setCell (p := ⟨w.heap.size, 4, none⟩) hle0 (.int .i64 (P 4))).setCell (p := ⟨w.heap.size, 5, none⟩) hle0 (.slice o1 V.length c1)).setCell (p := ⟨w.heap.size, 6, none⟩) hle0 (.slice o2 LL.length c2))
      have h1 : w.heap.size + 1 < w.heap.size + 1 + 1 + 1 := by omega
      have h0 : w.heap.size < w.heap.size + 1 + 1 + 1 := by omega
      have h1' : w.heap.size + 1 < w3.heap.size := HW3.out
      have h0' : w.heap.size < w3.heap.size := by omega
      have HVF := hid (row_set (row_set (row_set (row_set (row_set (row_set (row_set (row_set HV4.out (w.heap.size + 1) 6 (.slice o2 LL.length c2) h1) w.heap.size 0 (.int .i64 (P 0)) h0) w.heap.size 1 (.int .i64 (P 1)) h0) w.heap.size 2 (.int .i64 (P 2)) h0) w.heap.size 3 (.int .i64 (P 3)) h0) w.heap.size 4 (.int .i64 (P 4)) h0) w.heap.size 5 (.slice o1 V.length c1) h0) w.heap.size 6 (.slice o2 LL.length c2) h0)
      have HLF := hid (row_set (row_set (row_set (row_set (row_set (row_set (row_set (row_set HL4.out (w.heap.size + 1) 6 (.slice o2 LL.length c2) h1') w.heap.size 0 (.int .i64 (P 0)) h0') w.heap.size 1 (.int .i64 (P 1)) h0') w.heap.size 2 (.int .i64 (P 2)) h0') w.heap.size 3 (.int .i64 (P 3)) h0') w.heap.size 4 (.int .i64 (P 4)) h0') w.heap.size 5 (.slice o1 V.length c1) h0') w.heap.size 6 (.slice o2 LL.length c2) h0')
      have HXF := hid (xcells_set (xcells_set (xcells_set (xcells_set (xcells_set (xcells_set (xcells_set (xcells_set HX4.out (w.heap.size + 1) 6 (.slice o2 LL.length c2) h1') w.heap.size 0 (.int .i64 (P 0)) h0') w.heap.size 1 (.int .i64 (P 1)) h0') w.heap.size 2 (.int .i64 (P 2)) h0') w.heap.size 3 (.int .i64 (P 3)) h0') w.heap.size 4 (.int .i64 (P 4)) h0') w.heap.size 5 (.slice o1 V.length c1) h0') w.heap.size 6 (.slice o2 LL.length c2) h0')
      clear hv hx k4 h1 h0 h1' h0' hle0 hle1
      go_wp2
      refine bodyPost_ret (v := .agg #[.int .i64 (P 0), .int .i64 (P 1), .int .i64 (P 2), .int .i64 (P 3), .int .i64 (P 4), .slice o1 V.length c1, .slice o2 LL.length c2]) (by simp [results, Tryd.results11, go_sem, z0, z1, z2, z3, z4, z5, z6]) rfl ?_
      exact ⟨⟨o1, o2, c1, c2, w.heap.size + 1 + 1 + 1, w3.heap.size, xs, rfl, by omega, HVF.out, by have := HW3.out; omega, HLF.out, HXF.out, HVB.out⟩, HK4.out.under HRW.out HBB.out⟩

end Go.Proofs.YtcielnlhopjijabDoor

namespace Go.Proofs.YtcielnlhopjijabDoor
open Go.RowKit
variable {s : ByteArray}

set_option maxRecDepth 100000 in
set_option maxHeartbeats 6400000 in
theorem get_o (w : World) (ht : Tab w) (he : EofR w) (hyes : gOkay s = true) :
    Calls Tryd.prog 5 #[.string s] w fun e w' => (∃ (o1 o2 : Option Addr) (c1 c2 b1 b2 : Nat) (xs : List Value), e = .returned (.tuple #[.agg #[.int .i64 (gPart s.data.toList 0), .int .i64 (gPart s.data.toList 1), .int .i64 (gPart s.data.toList 2), .int .i64 (gPart s.data.toList 3), .int .i64 (gPart s.data.toList 4), .slice o1 (gV s.data.toList).length c1, .slice o2 (gL s.data.toList).length c2], .bool true]) ∧ w.heap.size < b1 ∧ w.heap.size < b2 ∧ w'.ownsRow b1 3 1 (.slice o1 (gV s.data.toList).length c1) (gV s.data.toList).length ((gV s.data.toList).map (Value.int .i64)) ∧ w'.ownsRow b2 71 3 (.slice o2 (gL s.data.toList).length c2) (gL s.data.toList).length xs ∧ XCells b2 w' (gL s.data.toList) xs ∧ ∀ g, (Value.slice o1 (gV s.data.toList).length c1).ownBlock = some g → g < b2) ∧ Below w.heap.size w w' := by
  have HA0 : Hid ((w.alloc (.cells #[.int .i64 0, .int .i64 0, .int .i64 0, .int .i64 0, .int .i64 0, .slice none 0 0, .slice none 0 0] 25)).heap[w.heap.size]? = some (.cells #[.int .i64 0, .int .i64 0, .int .i64 0, .int .i64 0, .int .i64 0, .slice none 0 0, .slice none 0 0] 25 (0, 0))) := alloc_new _ _
  have HB0 : Hid (Below w.heap.size w (w.alloc (.cells #[.int .i64 0, .int .i64 0, .int .i64 0, .int .i64 0, .int .i64 0, .slice none 0 0, .slice none 0 0] 25))) := (Below.refl _ _).alloc (Nat.le_refl _) _
  have h3 : s.size ≤ 400 ∧ msgOkP (gPart s.data.toList 0) (gPart s.data.toList 1) (gPart s.data.toList 2) (gPart s.data.toList 3) (gPart s.data.toList 4) (gV s.data.toList) (gL s.data.toList) = true ∧ putText (gPart s.data.toList 0) (gPart s.data.toList 1) (gPart s.data.toList 2) (gPart s.data.toList 3) (gPart s.data.toList 4) (gV s.data.toList) (gL s.data.toList) = s := by
    unfold gOkay at hyes
    rw [Bool.and_eq_true, Bool.and_eq_true] at hyes
    exact ⟨of_decide_eq_true hyes.1, hyes.2.1, of_decide_eq_true hyes.2.2⟩
  obtain ⟨h4, hok, htext⟩ := h3
  have h4I : ¬ (s.size : Int) > 400 := by omega
  have hll : s.data.toList.length ≤ 400 := by simpa using h4
  obtain ⟨hvl, hel⟩ := gV_len _ hll
  have CN : Hid (∀ W, EofR W → Calls Tryd.prog 10 #[.string s] W fun e w' => e = .returned (.pointer (some ⟨W.heap.size, 0, none⟩)) ∧ RAt w' W.heap.size s 0 ∧ Below W.heap.size W w') := fun W hW => rnew_any W h4 hW
  have HE := hid he
  have HT := hid ht
  have CM := hid (fun (W : World) (R : Nat) (h : RAt W R s 0) => rmsg_o h)
  rw [restL_zero] at CM
  obtain ⟨P0, hP0⟩ : ∃ x, x = gPart s.data.toList 0 := ⟨_, rfl⟩
  obtain ⟨P1, hP1⟩ : ∃ x, x = gPart s.data.toList 1 := ⟨_, rfl⟩
  obtain ⟨P2, hP2⟩ : ∃ x, x = gPart s.data.toList 2 := ⟨_, rfl⟩
  obtain ⟨P3, hP3⟩ : ∃ x, x = gPart s.data.toList 3 := ⟨_, rfl⟩
  obtain ⟨P4, hP4⟩ : ∃ x, x = gPart s.data.toList 4 := ⟨_, rfl⟩
  obtain ⟨V, hV⟩ : ∃ x, x = gV s.data.toList := ⟨_, rfl⟩
  obtain ⟨L, hL⟩ : ∃ x, x = gL s.data.toList := ⟨_, rfl⟩
  rw [← hP0, ← hP1, ← hP2, ← hP3, ← hP4, ← hV, ← hL] at hok htext CM ⊢
  rw [← hV] at hvl
  rw [← hL] at hel
  have CO : Hid (∀ W (o1 o2 : Option Addr) (c1 c2 : Nat), NumsAt W o1 V → EntsAt W o2 L → Calls Tryd.prog 12 #[.agg #[.int .i64 P0, .int .i64 P1, .int .i64 P2, .int .i64 P3, .int .i64 P4, .slice o1 V.length c1, .slice o2 L.length c2]] W fun e w' => e = .returned (.bool true) ∧ Below W.heap.size W w') := fun W o1 o2 c1 c2 h1 h2 => by rw [← hok]; exact implMsgOk_any P0 P1 P2 P3 P4 o1 o2 V.length c1 L.length c2 V L W rfl hvl h1 rfl hel h2
  have CP : Hid (∀ W (o1 o2 : Option Addr) (c1 c2 : Nat), Tab W → NumsAt W o1 V → EntsAt W o2 L → Calls Tryd.prog 13 #[.agg #[.int .i64 P0, .int .i64 P1, .int .i64 P2, .int .i64 P3, .int .i64 P4, .slice o1 V.length c1, .slice o2 L.length c2]] W fun e w' => e = .returned (.string s) ∧ Below W.heap.size W w') := fun W o1 o2 c1 c2 hT h1 h2 => by rw [← htext]; exact implMsgPut_any P0 P1 P2 P3 P4 o1 o2 V.length c1 L.length c2 V L W hT rfl hvl h1 rfl hel h2
  clear hP0 hP1 hP2 hP3 hP4 hV hL hll ht he hyes hok htext hvl hel h4
  go_enter Tryd.func5, Tryd.ntmps5
  go_wp2_with fail
  refine (CN.out _ (HE.out.below HB0.out)).mono ?_
  rintro e w1 ⟨rfl, h1, hb⟩
  rw [show (w.alloc (.cells #[.int .i64 0, .int .i64 0, .int .i64 0, .int .i64 0, .int .i64 0, .slice none 0 0, .slice none 0 0] 25)).heap.size = w.heap.size + 1 by simp] at h1
  have HR1 := hid h1
  have HA1 := hid (below_other HA0.out hb)
  have HB1 := hid (HB0.out.trans (hb.mono HB0.out.size))
  have HRB : Hid (w.heap.size < w.heap.size + 1) := Nat.lt_succ_self _
  clear h1 hb
  go_wp2_with fail
  refine (CM.out _ _ HR1.out).mono ?_
  rintro e w2 ⟨⟨o1, o2, c1, c2, b1, b2, xs, rfl, hb1, hv, hb2, hl, hx, hvb⟩, k2⟩
  have HVB := hid hvb
  clear hvb
  have HA2 := hid (keeps_block HA1.out k2 (Nat.ne_of_lt HRB.out))
  have HB2 := hid (k2.below w.heap.size w (Nat.le_of_lt HRB.out) HB1.out)
  have hal : Below w2.heap.size w2 (w2.alloc (.cells #[.int .i64 P0, .int .i64 P1, .int .i64 P2, .int .i64 P3, .int .i64 P4, .slice o1 V.length c1, .slice o2 L.length c2] 25)) := (Below.refl _ _).alloc (Nat.le_refl _) _
  have HW1 : Hid (w.heap.size < b1 ∧ w.heap.size < b2) := by have := (Array.getElem?_eq_some_iff.1 HA1.out).1; exact ⟨by omega, by omega⟩
  have HV3 := hid (row_below hv hal)
  have HL3 := hid (row_below hl hal)
  have HX3 := hid (hx.kept (fun b cur fz hbb hh => kept_below (base := b2) hal b cur fz hbb hh) hal.size)
  have HA3 := hid (below_other HA2.out hal)
  have HB3 := hid (HB2.out.trans (hal.mono HB2.out.size))
  have HM3 : Hid ((w2.alloc (.cells #[.int .i64 P0, .int .i64 P1, .int .i64 P2, .int .i64 P3, .int .i64 P4, .slice o1 V.length c1, .slice o2 L.length c2] 25)).heap[w2.heap.size]? = some (.cells #[.int .i64 P0, .int .i64 P1, .int .i64 P2, .int .i64 P3, .int .i64 P4, .slice o1 V.length c1, .slice o2 L.length c2] 25 (0, 0))) := alloc_new _ _
  clear hv hl hx k2 hal hb1 hb2
  go_wp2_with fail
  refine (CO.out _ _ _ _ _ (NumsIn.of_row HV3.out).at (ents_of HL3.out HX3.out.1)).mono ?_
  rintro e w4 ⟨rfl, hb⟩
  have HA4 := hid (below_other HA3.out hb)
  have HB4 := hid (HB3.out.trans (hb.mono HB3.out.size))
  have HM4 := hid (below_other HM3.out hb)
  have HV4 := hid (row_below HV3.out hb)
  have HL4 := hid (row_below HL3.out hb)
  have HX4 := hid (HX3.out.kept (fun b cur fz hbb hh => kept_below (base := b2) hb b cur fz hbb hh) hb.size)
  have hlt2 : w2.heap.size < w4.heap.size := (Array.getElem?_eq_some_iff.1 HM4.out).1
  clear hb
  have m0 : w4.cell? ⟨w2.heap.size, 0, none⟩ = some (.int .i64 P0) := by rw [in_block HM4.out 0]; rfl
  have m1 : w4.cell? ⟨w2.heap.size, 1, none⟩ = some (.int .i64 P1) := by rw [in_block HM4.out 1]; rfl
  have m2 : w4.cell? ⟨w2.heap.size, 2, none⟩ = some (.int .i64 P2) := by rw [in_block HM4.out 2]; rfl
  have m3 : w4.cell? ⟨w2.heap.size, 3, none⟩ = some (.int .i64 P3) := by rw [in_block HM4.out 3]; rfl
  have m4 : w4.cell? ⟨w2.heap.size, 4, none⟩ = some (.int .i64 P4) := by rw [in_block HM4.out 4]; rfl
  have m5 : w4.cell? ⟨w2.heap.size, 5, none⟩ = some (.slice o1 V.length c1) := by rw [in_block HM4.out 5]; rfl
  have m6 : w4.cell? ⟨w2.heap.size, 6, none⟩ = some (.slice o2 L.length c2) := by rw [in_block HM4.out 6]; rfl
  go_wp2_with fail
  refine (CP.out _ _ _ _ _ (HT.out.below HB4.out) (NumsIn.of_row HV4.out).at (ents_of HL4.out HX4.out.1)).mono ?_
  rintro e w5 ⟨rfl, hb⟩
  have HA5 := hid (below_other HA4.out hb)
  have HB5 := hid (HB4.out.trans (hb.mono HB4.out.size))
  have HM5 := hid (below_other HM4.out hb)
  have HV5 := hid (row_below HV4.out hb)
  have HL5 := hid (row_below HL4.out hb)
  have HX5 := hid (HX4.out.kept (fun b cur fz hbb hh => kept_below (base := b2) hb b cur fz hbb hh) hb.size)
  clear hb m0 m1 m2 m3 m4 m5 m6 hlt2
  have hlt5 : w2.heap.size < w5.heap.size := (Array.getElem?_eq_some_iff.1 HM5.out).1
  have m0 : w5.cell? ⟨w2.heap.size, 0, none⟩ = some (.int .i64 P0) := by rw [in_block HM5.out 0]; rfl
  have m1 : w5.cell? ⟨w2.heap.size, 1, none⟩ = some (.int .i64 P1) := by rw [in_block HM5.out 1]; rfl
  have m2 : w5.cell? ⟨w2.heap.size, 2, none⟩ = some (.int .i64 P2) := by rw [in_block HM5.out 2]; rfl
  have m3 : w5.cell? ⟨w2.heap.size, 3, none⟩ = some (.int .i64 P3) := by rw [in_block HM5.out 3]; rfl
  have m4 : w5.cell? ⟨w2.heap.size, 4, none⟩ = some (.int .i64 P4) := by rw [in_block HM5.out 4]; rfl
  have m5 : w5.cell? ⟨w2.heap.size, 5, none⟩ = some (.slice o1 V.length c1) := by rw [in_block HM5.out 5]; rfl
  have m6 : w5.cell? ⟨w2.heap.size, 6, none⟩ = some (.slice o2 L.length c2) := by rw [in_block HM5.out 6]; rfl
  have z0 : w5.cell? ⟨w.heap.size, 0, none⟩ = some (.int .i64 0) := by rw [in_block HA5.out 0]; rfl
  have fz0 : w5.frozen? ⟨w.heap.size, 0, none⟩ = false := free_block HA5.out 0
  have z1 : w5.cell? ⟨w.heap.size, 1, none⟩ = some (.int .i64 0) := by rw [in_block HA5.out 1]; rfl
  have fz1 : w5.frozen? ⟨w.heap.size, 1, none⟩ = false := free_block HA5.out 1
  have z2 : w5.cell? ⟨w.heap.size, 2, none⟩ = some (.int .i64 0) := by rw [in_block HA5.out 2]; rfl
  have fz2 : w5.frozen? ⟨w.heap.size, 2, none⟩ = false := free_block HA5.out 2
  have z3 : w5.cell? ⟨w.heap.size, 3, none⟩ = some (.int .i64 0) := by rw [in_block HA5.out 3]; rfl
  have fz3 : w5.frozen? ⟨w.heap.size, 3, none⟩ = false := free_block HA5.out 3
  have z4 : w5.cell? ⟨w.heap.size, 4, none⟩ = some (.int .i64 0) := by rw [in_block HA5.out 4]; rfl
  have fz4 : w5.frozen? ⟨w.heap.size, 4, none⟩ = false := free_block HA5.out 4
  have z5 : w5.cell? ⟨w.heap.size, 5, none⟩ = some (.slice none 0 0) := by rw [in_block HA5.out 5]; rfl
  have fz5 : w5.frozen? ⟨w.heap.size, 5, none⟩ = false := free_block HA5.out 5
  have z6 : w5.cell? ⟨w.heap.size, 6, none⟩ = some (.slice none 0 0) := by rw [in_block HA5.out 6]; rfl
  have fz6 : w5.frozen? ⟨w.heap.size, 6, none⟩ = false := free_block HA5.out 6
  have HVF := hid (row_set (row_set (row_set (row_set (row_set (row_set (row_set (HV5.out) w.heap.size 0 (.int .i64 P0) HW1.out.1) w.heap.size 1 (.int .i64 P1) HW1.out.1) w.heap.size 2 (.int .i64 P2) HW1.out.1) w.heap.size 3 (.int .i64 P3) HW1.out.1) w.heap.size 4 (.int .i64 P4) HW1.out.1) w.heap.size 5 (.slice o1 V.length c1) HW1.out.1) w.heap.size 6 (.slice o2 L.length c2) HW1.out.1)
  have HLF := hid (row_set (row_set (row_set (row_set (row_set (row_set (row_set (HL5.out) w.heap.size 0 (.int .i64 P0) HW1.out.2) w.heap.size 1 (.int .i64 P1) HW1.out.2) w.heap.size 2 (.int .i64 P2) HW1.out.2) w.heap.size 3 (.int .i64 P3) HW1.out.2) w.heap.size 4 (.int .i64 P4) HW1.out.2) w.heap.size 5 (.slice o1 V.length c1) HW1.out.2) w.heap.size 6 (.slice o2 L.length c2) HW1.out.2)
  have HXF := hid (xcells_set (xcells_set (xcells_set (xcells_set (xcells_set (xcells_set (xcells_set (HX5.out) w.heap.size 0 (.int .i64 P0) HW1.out.2) w.heap.size 1 (.int .i64 P1) HW1.out.2) w.heap.size 2 (.int .i64 P2) HW1.out.2) w.heap.size 3 (.int .i64 P3) HW1.out.2) w.heap.size 4 (.int .i64 P4) HW1.out.2) w.heap.size 5 (.slice o1 V.length c1) HW1.out.2) w.heap.size 6 (.slice o2 L.length c2) HW1.out.2)
  have HBF := hid ((((((((HB5.out).setCell (p := ⟨w.heap.size, 0, none⟩) (Nat.le_refl _) (.int .i64 P0)).setCell (p := ⟨w.heap.size, 1, none⟩) (Nat.le_refl _) (.int .i64 P1)).setCell (p := ⟨w.heap.size, 2, none⟩) (Nat.le_refl _) (.int .i64 P2)).setCell (p := ⟨w.heap.size, 3, none⟩) (Nat.le_refl _) (.int .i64 P3)).setCell (p := ⟨w.heap.size, 4, none⟩) (Nat.le_refl _) (.int .i64 P4)).setCell (p := ⟨w.heap.size, 5, none⟩) (Nat.le_refl _) (.slice o1 V.length c1)).setCell (p := ⟨w.heap.size, 6, none⟩) (Nat.le_refl _) (.slice o2 L.length c2))
  go_wp2
  refine bodyPost_ret (v := .tuple #[.agg #[.int .i64 P0, .int .i64 P1, .int .i64 P2, .int .i64 P3, .int .i64 P4, .slice o1 V.length c1, .slice o2 L.length c2], .bool true]) (by simp [results, Tryd.results5, go_sem, z0, z1, z2, z3, z4, z5, z6]) rfl ?_
  exact ⟨⟨o1, o2, c1, c2, b1, b2, xs, rfl, HW1.out.1, HW1.out.2, HVF.out, HLF.out, HXF.out, HVB.out⟩, HBF.out⟩

end Go.Proofs.YtcielnlhopjijabDoor

