/- DERIVED. The reader of messages: a message. -/
import Derived.Test.YtijdjplajhcilabDoorGetEnts
namespace Go.Proofs.YtijdjplajhcilabDoor
open Go.RowKit
variable {w w' : World} {R : Nat} {s : ByteArray} {p : Nat}

/-- A message of which the first k parts are read. -/
def mCells (P : Nat → Int) (k : Nat) (v l : Value) : Array Value := #[.int .i64 (if 0 < k then P 0 else 0), .int .i64 (if 1 < k then P 1 else 0), .int .i64 (if 2 < k then P 2 else 0), .int .i64 (if 3 < k then P 3 else 0), .int .i64 (if 4 < k then P 4 else 0), v, l]

theorem mCells_next (P : Nat → Int) (k : Nat) (v l : Value) (h : k < 5) : (mCells P k v l).setIfInBounds k (.int .i64 (P k)) = mCells P (k + 1) v l := by
  match k, h with
  | 0, _ => rfl
  | 1, _ => rfl
  | 2, _ => rfl
  | 3, _ => rfl
  | 4, _ => rfl

theorem alloc_new (w : World) (x : Obj) : (w.alloc x).heap[w.heap.size]? = some x := by
  show (w.heap.push x)[w.heap.size]? = _
  simp

theorem alloc_keep {b : Nat} {x y : Obj} (h : w.heap[b]? = some x) : (w.alloc y).heap[b]? = some x := by
  have hl := (Array.getElem?_eq_some_iff.1 h).1
  show (w.heap.push y)[b]? = _
  rw [Array.getElem?_push, if_neg (by omega)]
  exact h

theorem set_block (w : World) (g j : Nat) (cur : Array Value) (e : TypeId) (v : Value) (hh : w.heap[g]? = some (.cells cur e (0, 0))) : (w.setCell ⟨g, j, none⟩ v).heap[g]? = some (.cells (cur.setIfInBounds j v) e (0, 0)) := heap_set_at w g j cur e v hh

theorem in_block {b : Nat} {cur : Array Value} {t : TypeId} (h : w.heap[b]? = some (.cells cur t (0, 0))) (i : Nat) : w.cell? ⟨b, i, none⟩ = cur[i]? := by
  simp [World.cell?, h]

theorem free_block {b : Nat} {cur : Array Value} {t : TypeId} (h : w.heap[b]? = some (.cells cur t (0, 0))) (i : Nat) : w.frozen? ⟨b, i, none⟩ = false := by
  simp [World.frozen?, h]

theorem keeps_block {b : Nat} {x : Obj} (h : w.heap[b]? = some x) (k : Keeps R w w') (hb : b ≠ R) : w'.heap[b]? = some x :=
  (k.block b (Array.getElem?_eq_some_iff.1 h).1 hb).trans h

theorem set_other {b : Nat} {x : Obj} (h : w.heap[b]? = some x) (g j : Nat) (v : Value) (hb : b ≠ g) : (w.setCell ⟨g, j, none⟩ v).heap[b]? = some x := by
  rw [Below.heap_setCell _ _ _ _ hb]
  exact h

/-- A row of the call's own is not touched by a store into a block below its base. -/
theorem row_set {base : Nat} {e : TypeId} {size n : Nat} {v : Value} {xs : List Value} (h : w.ownsRow base e size v n xs) (g j : Nat) (u : Value) (hg : g < base) : (w.setCell ⟨g, j, none⟩ u).ownsRow base e size v n xs := by
  refine ⟨h.1, ?_⟩
  rcases h.2 with h0 | ⟨g', cap, cur, e1, e2, hb, e3⟩
  · exact Or.inl h0
  · exact Or.inr ⟨g', cap, cur, e1, e2, set_other hb g j u (by omega), e3⟩

theorem ecells_set {base : Nat} {L : List Ent} {xs : List Value} (h : ECells base w L xs) (g j : Nat) (u : Value) (hg : g < base) : ECells base (w.setCell ⟨g, j, none⟩ u) L xs :=
  h.kept (fun b cur fz hb hh => set_other hh g j u (by omega))

set_option maxRecDepth 100000 in
set_option maxHeartbeats 6400000 in
theorem rmsg_any (h : RAt w R s p) :
    Calls Tryd.prog 18 #[.pointer (some ⟨R, 0, none⟩)] w fun e w' => (∃ (o1 o2 : Option Addr) (c1 c2 b1 b2 : Nat) (xs : List Value), e = .returned (.agg #[.int .i64 (gPart (restL s p) 0), .int .i64 (gPart (restL s p) 1), .int .i64 (gPart (restL s p) 2), .int .i64 (gPart (restL s p) 3), .int .i64 (gPart (restL s p) 4), .slice o1 (gV (restL s p)).length c1, .slice o2 (gL (restL s p)).length c2]) ∧ w.heap.size ≤ b1 ∧ w'.ownsRow b1 3 1 (.slice o1 (gV (restL s p)).length c1) (gV (restL s p)).length ((gV (restL s p)).map (Value.int .i64)) ∧ w.heap.size ≤ b2 ∧ w'.ownsRow b2 53 3 (.slice o2 (gL (restL s p)).length c2) (gL (restL s p)).length xs ∧ ECells b2 w' (gL (restL s p)) xs) ∧ Keeps R w w' := by
  have HRW : Hid (R < w.heap.size) := h.old
  have ha1 : Below w.heap.size w (w.alloc (.cells #[.int .i64 0, .int .i64 0, .int .i64 0, .int .i64 0, .int .i64 0, .slice none 0 0, .slice none 0 0] 26)) := (Below.refl _ _).alloc (Nat.le_refl _) _
  have ha2 : Below w.heap.size w ((w.alloc (.cells #[.int .i64 0, .int .i64 0, .int .i64 0, .int .i64 0, .int .i64 0, .slice none 0 0, .slice none 0 0] 26)).alloc (.cells #[.int .i64 0, .int .i64 0, .int .i64 0, .int .i64 0, .int .i64 0, .slice none 0 0, .slice none 0 0] 26)) := ha1.alloc (by simp) _
  have ha3 : Below w.heap.size w (((w.alloc (.cells #[.int .i64 0, .int .i64 0, .int .i64 0, .int .i64 0, .int .i64 0, .slice none 0 0, .slice none 0 0] 26)).alloc (.cells #[.int .i64 0, .int .i64 0, .int .i64 0, .int .i64 0, .int .i64 0, .slice none 0 0, .slice none 0 0] 26)).alloc (.cells #[.pointer (some ⟨w.heap.size + 1, 0, none⟩), .pointer (some ⟨w.heap.size + 1, 1, none⟩), .pointer (some ⟨w.heap.size + 1, 2, none⟩), .pointer (some ⟨w.heap.size + 1, 3, none⟩), .pointer (some ⟨w.heap.size + 1, 4, none⟩)] 79)) := ha2.alloc (by simp; omega) _
  obtain ⟨W3, hW3⟩ : ∃ W3, W3 = ((w.alloc (.cells #[.int .i64 0, .int .i64 0, .int .i64 0, .int .i64 0, .int .i64 0, .slice none 0 0, .slice none 0 0] 26)).alloc (.cells #[.int .i64 0, .int .i64 0, .int .i64 0, .int .i64 0, .int .i64 0, .slice none 0 0, .slice none 0 0] 26)).alloc (.cells #[.pointer (some ⟨w.heap.size + 1, 0, none⟩), .pointer (some ⟨w.heap.size + 1, 1, none⟩), .pointer (some ⟨w.heap.size + 1, 2, none⟩), .pointer (some ⟨w.heap.size + 1, 3, none⟩), .pointer (some ⟨w.heap.size + 1, 4, none⟩)] 79) := ⟨_, rfl⟩
  have e1 := alloc_new (w.alloc (.cells #[.int .i64 0, .int .i64 0, .int .i64 0, .int .i64 0, .int .i64 0, .slice none 0 0, .slice none 0 0] 26)) (.cells #[.int .i64 0, .int .i64 0, .int .i64 0, .int .i64 0, .int .i64 0, .slice none 0 0, .slice none 0 0] 26)
  rw [show (w.alloc (.cells #[.int .i64 0, .int .i64 0, .int .i64 0, .int .i64 0, .int .i64 0, .slice none 0 0, .slice none 0 0] 26)).heap.size = w.heap.size + 1 by simp] at e1
  have e2 := alloc_new ((w.alloc (.cells #[.int .i64 0, .int .i64 0, .int .i64 0, .int .i64 0, .int .i64 0, .slice none 0 0, .slice none 0 0] 26)).alloc (.cells #[.int .i64 0, .int .i64 0, .int .i64 0, .int .i64 0, .int .i64 0, .slice none 0 0, .slice none 0 0] 26)) (.cells #[.pointer (some ⟨w.heap.size + 1, 0, none⟩), .pointer (some ⟨w.heap.size + 1, 1, none⟩), .pointer (some ⟨w.heap.size + 1, 2, none⟩), .pointer (some ⟨w.heap.size + 1, 3, none⟩), .pointer (some ⟨w.heap.size + 1, 4, none⟩)] 79)
  rw [show ((w.alloc (.cells #[.int .i64 0, .int .i64 0, .int .i64 0, .int .i64 0, .int .i64 0, .slice none 0 0, .slice none 0 0] 26)).alloc (.cells #[.int .i64 0, .int .i64 0, .int .i64 0, .int .i64 0, .int .i64 0, .slice none 0 0, .slice none 0 0] 26)).heap.size = w.heap.size + 1 + 1 by simp] at e2
  have HX0 : Hid (W3.heap[w.heap.size]? = some (.cells #[.int .i64 0, .int .i64 0, .int .i64 0, .int .i64 0, .int .i64 0, .slice none 0 0, .slice none 0 0] 26 (0, 0))) := by
    rw [hW3]
    exact alloc_keep (alloc_keep (alloc_new w _))
  have HX1 : Hid (W3.heap[w.heap.size + 1]? = some (.cells #[.int .i64 0, .int .i64 0, .int .i64 0, .int .i64 0, .int .i64 0, .slice none 0 0, .slice none 0 0] 26 (0, 0))) := by
    rw [hW3]
    exact alloc_keep e1
  have HX2 : Hid (W3.heap[w.heap.size + 1 + 1]? = some (.cells #[.pointer (some ⟨w.heap.size + 1, 0, none⟩), .pointer (some ⟨w.heap.size + 1, 1, none⟩), .pointer (some ⟨w.heap.size + 1, 2, none⟩), .pointer (some ⟨w.heap.size + 1, 3, none⟩), .pointer (some ⟨w.heap.size + 1, 4, none⟩)] 79 (0, 0))) := by
    rw [hW3]
    exact e2
  rw [← hW3] at ha3
  have HR0 := hid (h.below ha3)
  have HK0 := hid (Keeps.of_below ha3 h.old)
  have HWE := hid hW3
  have hN1 : Hid (w.heap.size ≠ R) := by have := HRW.out; show _ ≠ _; omega
  have hN2 : Hid (w.heap.size + 1 ≠ R) := by have := HRW.out; show _ ≠ _; omega
  have hN3 : Hid (w.heap.size + 1 + 1 ≠ R) := by have := HRW.out; show _ ≠ _; omega
  obtain ⟨L0, hL0⟩ : ∃ L0, L0 = restL s p := ⟨_, rfl⟩
  have HL0 := hid hL0
  rw [← hL0]
  obtain ⟨P, hP⟩ : ∃ P, P = gPart L0 := ⟨_, rfl⟩
  obtain ⟨V, hV⟩ : ∃ V, V = gV L0 := ⟨_, rfl⟩
  obtain ⟨LL, hLL⟩ : ∃ LL, LL = gL L0 := ⟨_, rfl⟩
  have HPP := hid hP
  have HVV := hid hV
  have HLL := hid hLL
  rw [← hP, ← hV, ← hLL]
  clear hP hV hLL hL0 h ha1 ha2 ha3 hW3 e1 e2
  go_enter Tryd.func18, Tryd.ntmps18
  go_wp2
  rw [← HWE.out]
  go_loopw [13] (fun i wr => ∃ k : Nat, k ≤ 5 ∧ i = .int .i64 k ∧ (∃ q, Hid (RAt wr R s q ∧ restL s q = gRest L0 k)) ∧ Hid (Keeps R w wr) ∧ Hid (wr.heap[w.heap.size]? = some (.cells #[.int .i64 0, .int .i64 0, .int .i64 0, .int .i64 0, .int .i64 0, .slice none 0 0, .slice none 0 0] 26 (0, 0))) ∧ Hid (wr.heap[w.heap.size + 1]? = some (.cells (mCells P k (.slice none 0 0) (.slice none 0 0)) 26 (0, 0))) ∧ Hid (wr.heap[w.heap.size + 1 + 1]? = some (.cells #[.pointer (some ⟨w.heap.size + 1, 0, none⟩), .pointer (some ⟨w.heap.size + 1, 1, none⟩), .pointer (some ⟨w.heap.size + 1, 2, none⟩), .pointer (some ⟨w.heap.size + 1, 3, none⟩), .pointer (some ⟨w.heap.size + 1, 4, none⟩)] 79 (0, 0)))) (fun i _ => 5 - (intOf i).toNat)
  case atStart => exact ⟨0, Nat.zero_le _, rfl, ⟨p, HR0.out, HL0.out.symm⟩, HK0, HX0, HX1, HX2⟩
  case round =>
    obtain ⟨k, hk, rfl, ⟨q, HR⟩, HK, HA, HB, HC⟩ := hrel
    by_cases hlt : k < 5
    · have hltI : (k : Int) < 5 := by omega
      have hk0I : (0 : Int) ≤ (k : Int) := by omega
      have hc : wr.cell? ⟨w.heap.size + 1 + 1, k, none⟩ = some (.pointer (some ⟨w.heap.size + 1, k, none⟩)) := by
        rw [in_block HC.out k]
        match k, hlt with
        | 0, _ => rfl
        | 1, _ => rfl
        | 2, _ => rfl
        | 3, _ => rfl
        | 4, _ => rfl
      have CN := hid (rnumber_any HR.out.1)
      have HP : Hid (gVal (restL s q) = P k) := by show _ = _; rw [HR.out.2, HPP.out]; rfl
      have HNEXT : Hid (gSkip 32 (gDrop (restL s q)) = gRest L0 (k + 1)) := by show _ = _; rw [HR.out.2]; rfl
      rw [HP.out] at CN
      obtain ⟨z, hz⟩ : ∃ z, z = P k := ⟨_, rfl⟩
      have HZ := hid hz
      rw [← hz] at CN
      obtain ⟨b, hb⟩ : ∃ b, b = gOk (restL s q) := ⟨_, rfl⟩
      rw [← hb] at CN
      clear hz hb HP
      go_wp2_with fail
      refine CN.out.mono ?_
      rintro e w1 ⟨rfl, ⟨q1, h1, e1⟩, k1⟩
      have HR1 := hid h1
      have HE1 := hid e1
      have HK1 := hid (HK.out.trans k1)
      have HA1 := hid (keeps_block HA.out k1 hN1.out)
      have HB1 := hid (keeps_block HB.out k1 hN2.out)
      have HC1 := hid (keeps_block HC.out k1 hN3.out)
      obtain ⟨u, hu⟩ : ∃ u, (mCells P k (.slice none 0 0) (.slice none 0 0))[k]? = some u := by
        match k, hlt with
        | 0, _ => exact ⟨_, rfl⟩
        | 1, _ => exact ⟨_, rfl⟩
        | 2, _ => exact ⟨_, rfl⟩
        | 3, _ => exact ⟨_, rfl⟩
        | 4, _ => exact ⟨_, rfl⟩
      have c1 : w1.cell? ⟨w.heap.size + 1, k, none⟩ = some u := by rw [in_block HB1.out k]; exact hu
      have f1 : w1.frozen? ⟨w.heap.size + 1, k, none⟩ = false := free_block HB1.out k
      have hst : Below w.heap.size w1 (w1.setCell ⟨w.heap.size + 1, k, none⟩ (.int .i64 z)) := (Below.refl _ _).setCell (p := ⟨w.heap.size + 1, k, none⟩) (by simp) _
      have HR2 := hid (HR1.out.under HRW.out hst)
      have HK2 := hid (HK1.out.under HRW.out hst)
      have HA2 := hid (set_other HA1.out (w.heap.size + 1) k (.int .i64 z) (by omega))
      have HB2 : Hid ((w1.setCell ⟨w.heap.size + 1, k, none⟩ (.int .i64 z)).heap[w.heap.size + 1]? = some (.cells (mCells P (k + 1) (.slice none 0 0) (.slice none 0 0)) 26 (0, 0))) := by
        have := set_block w1 (w.heap.size + 1) k _ _ (.int .i64 z) HB1.out
        rw [HZ.out, mCells_next _ _ _ _ hlt] at this
        rw [HZ.out]
        exact this
      have HC2 := hid (set_other HC1.out (w.heap.size + 1) k (.int .i64 z) (by omega))
      clear h1 e1 k1 hc hu hst
      go_wp2_with fail
      refine (rtake_any HR2.out 32 32 rfl).mono ?_
      rintro e w3 ⟨rfl, ⟨q3, h3, e3⟩, k3⟩
      have HR3 : Hid (RAt w3 R s q3 ∧ restL s q3 = gRest L0 (k + 1)) := ⟨h3, by rw [e3, HE1.out, HNEXT.out]⟩
      have HK3 := hid (HK2.out.trans k3)
      have HA3 := hid (keeps_block HA2.out k3 hN1.out)
      have HB3 := hid (keeps_block HB2.out k3 hN2.out)
      have HC3 := hid (keeps_block HC2.out k3 hN3.out)
      clear h3 e3 k3
      go_wp2
      go_roundw
      case rel => exact ⟨k + 1, by omega, by go_num, ⟨q3, HR3⟩, HK3, HA3, HB3, HC3⟩
      case measure => simp [intOf]; omega
    · have hltI : ¬ (k : Int) < 5 := by omega
      have hk5 : k = 5 := by omega
      subst hk5
      have CV := hid (rvotes_any HR.out.1)
      have HGV : Hid ((gVs (restL s q)).1 = V) := by show _ = _; rw [HR.out.2, HVV.out]; rfl
      have HGR : Hid ((gVs (restL s q)).2 = (gVs (gRest L0 5)).2) := by show _ = _; rw [HR.out.2]
      rw [HGV.out, HGR.out] at CV
      have HB0 : Hid (wr.heap[w.heap.size + 1]? = some (.cells #[.int .i64 (P 0), .int .i64 (P 1), .int .i64 (P 2), .int .i64 (P 3), .int .i64 (P 4), .slice none 0 0, .slice none 0 0] 26 (0, 0))) := HB.out
      clear HGV HGR HB
      go_wp2_with fail
      refine CV.out.mono ?_
      rintro e w1 ⟨⟨v, rfl, hv⟩, ⟨q1, h1, e1⟩, k1⟩
      obtain ⟨o1, c1, rfl⟩ := rowv_shape hv
      have HV1 : Hid (w1.ownsRow (w.heap.size + 1 + 1 + 1) 3 1 (.slice o1 V.length c1) V.length (V.map (Value.int .i64))) := row_base hv (by have := (Array.getElem?_eq_some_iff.1 HC.out).1; omega)
      have HR1 := hid h1
      have HE1 := hid e1
      have HK1 := hid (HK.out.trans k1)
      have HA1 := hid (keeps_block HA.out k1 hN1.out)
      have HB1 := hid (keeps_block HB0.out k1 hN2.out)
      have hcell : w1.cell? ⟨w.heap.size + 1, 5, none⟩ = some (.slice none 0 0) := by rw [in_block HB1.out 5]; rfl
      have hfree : w1.frozen? ⟨w.heap.size + 1, 5, none⟩ = false := free_block HB1.out 5
      have hst : Below w.heap.size w1 (w1.setCell ⟨w.heap.size + 1, 5, none⟩ (.slice o1 V.length c1)) := (Below.refl _ _).setCell (p := ⟨w.heap.size + 1, 5, none⟩) (by simp) _
      have HR2 := hid (HR1.out.under HRW.out hst)
      have HK2 := hid (HK1.out.under HRW.out hst)
      have HA2 := hid (set_other HA1.out (w.heap.size + 1) 5 (.slice o1 V.length c1) (by omega))
      have HB2 : Hid ((w1.setCell ⟨w.heap.size + 1, 5, none⟩ (.slice o1 V.length c1)).heap[w.heap.size + 1]? = some (.cells #[.int .i64 (P 0), .int .i64 (P 1), .int .i64 (P 2), .int .i64 (P 3), .int .i64 (P 4), .slice o1 V.length c1, .slice none 0 0] 26 (0, 0))) := set_block w1 (w.heap.size + 1) 5 _ _ _ HB1.out
      have HV2 := hid (row_set HV1.out (w.heap.size + 1) 5 (.slice o1 V.length c1) (by omega))
      clear hv h1 e1 k1 hst
      go_wp2_with fail
      refine (rtake_any HR2.out 32 32 rfl).mono ?_
      rintro e w3 ⟨rfl, ⟨q3, h3, e3⟩, k3⟩
      have HR3 := hid h3
      have HE3 : Hid ((gEs (restL s q3)).1 = LL) := by show _ = _; rw [e3, HE1.out, HLL.out]; rfl
      have HK3 := hid (HK2.out.trans k3)
      have HA3 := hid (keeps_block HA2.out k3 hN1.out)
      have HB3 := hid (keeps_block HB2.out k3 hN2.out)
      have HV3 := hid (rowv_keeps HV2.out k3 (by have := HRW.out; omega))
      clear h3 e3 k3
      have CE := hid (rents_any HR3.out)
      rw [HE3.out] at CE
      have HNE : Hid (∀ W, Keeps R w3 W → W.ownsRow (w.heap.size + 1 + 1 + 1) 3 1 (.slice o1 V.length c1) V.length (V.map (Value.int .i64))) := fun W kk => rowv_keeps HV3.out kk (by have := HRW.out; omega)
      have HW3 : Hid (w.heap.size + 1 < w3.heap.size) := (Array.getElem?_eq_some_iff.1 HB3.out).1
      clear hcell hfree
      go_wp2_with fail
      refine CE.out.mono ?_
      rintro e w4 ⟨⟨v, xs, rfl, hv, hx⟩, _, k4⟩
      obtain ⟨o2, c2, rfl⟩ := rowv_shape hv
      have HL4 := hid hv
      have HX4 := hid hx
      have HV4 := hid (HNE.out _ k4)
      have HK4 := hid (HK3.out.trans k4)
      have HA4 := hid (keeps_block HA3.out k4 hN1.out)
      have HB4 := hid (keeps_block HB3.out k4 hN2.out)
      have hcell : w4.cell? ⟨w.heap.size + 1, 6, none⟩ = some (.slice none 0 0) := by rw [in_block HB4.out 6]; rfl
      have hfree : w4.frozen? ⟨w.heap.size + 1, 6, none⟩ = false := free_block HB4.out 6
      have z0 : w4.cell? ⟨w.heap.size, 0, none⟩ = some (.int .i64 0) := by rw [in_block HA4.out 0]; rfl
      have fz0 : w4.frozen? ⟨w.heap.size, 0, none⟩ = false := free_block HA4.out 0
      have z1 : w4.cell? ⟨w.heap.size, 1, none⟩ = some (.int .i64 0) := by rw [in_block HA4.out 1]; rfl
      have fz1 : w4.frozen? ⟨w.heap.size, 1, none⟩ = false := free_block HA4.out 1
      have z2 : w4.cell? ⟨w.heap.size, 2, none⟩ = some (.int .i64 0) := by rw [in_block HA4.out 2]; rfl
      have fz2 : w4.frozen? ⟨w.heap.size, 2, none⟩ = false := free_block HA4.out 2
      have z3 : w4.cell? ⟨w.heap.size, 3, none⟩ = some (.int .i64 0) := by rw [in_block HA4.out 3]; rfl
      have fz3 : w4.frozen? ⟨w.heap.size, 3, none⟩ = false := free_block HA4.out 3
      have z4 : w4.cell? ⟨w.heap.size, 4, none⟩ = some (.int .i64 0) := by rw [in_block HA4.out 4]; rfl
      have fz4 : w4.frozen? ⟨w.heap.size, 4, none⟩ = false := free_block HA4.out 4
      have z5 : w4.cell? ⟨w.heap.size, 5, none⟩ = some (.slice none 0 0) := by rw [in_block HA4.out 5]; rfl
      have fz5 : w4.frozen? ⟨w.heap.size, 5, none⟩ = false := free_block HA4.out 5
      have z6 : w4.cell? ⟨w.heap.size, 6, none⟩ = some (.slice none 0 0) := by rw [in_block HA4.out 6]; rfl
      have fz6 : w4.frozen? ⟨w.heap.size, 6, none⟩ = false := free_block HA4.out 6
      have y0 : w4.cell? ⟨w.heap.size + 1, 0, none⟩ = some (.int .i64 (P 0)) := by rw [in_block HB4.out 0]; rfl
      have y1 : w4.cell? ⟨w.heap.size + 1, 1, none⟩ = some (.int .i64 (P 1)) := by rw [in_block HB4.out 1]; rfl
      have y2 : w4.cell? ⟨w.heap.size + 1, 2, none⟩ = some (.int .i64 (P 2)) := by rw [in_block HB4.out 2]; rfl
      have y3 : w4.cell? ⟨w.heap.size + 1, 3, none⟩ = some (.int .i64 (P 3)) := by rw [in_block HB4.out 3]; rfl
      have y4 : w4.cell? ⟨w.heap.size + 1, 4, none⟩ = some (.int .i64 (P 4)) := by rw [in_block HB4.out 4]; rfl
      have y5 : w4.cell? ⟨w.heap.size + 1, 5, none⟩ = some (.slice o1 V.length c1) := by rw [in_block HB4.out 5]; rfl
      have hle0 : w.heap.size ≤ w.heap.size := Nat.le_refl _
      have hle1 : w.heap.size ≤ w.heap.size + 1 := Nat.le_succ _
      have HBB := hid (((((((((Below.refl w.heap.size w4).setCell (p := ⟨w.heap.size + 1, 6, none⟩) hle1 (.slice o2 LL.length c2)).setCell (p := ⟨w.heap.size, 0, none⟩) hle0 (.int .i64 (P 0))).setCell (p := ⟨w.heap.size, 1, none⟩) hle0 (.int .i64 (P 1))).setCell (p := ⟨w.heap.size, 2, none⟩) hle0 (.int .i64 (P 2))).setCell (p := ⟨w.heap.size, 3, none⟩) hle0 (.int .i64 (P 3))).setCell (p := ⟨w.heap.size, 4, none⟩) hle0 (.int .i64 (P 4))).setCell (p := ⟨w.heap.size, 5, none⟩) hle0 (.slice o1 V.length c1)).setCell (p := ⟨w.heap.size, 6, none⟩) hle0 (.slice o2 LL.length c2))
      have h1 : w.heap.size + 1 < w.heap.size + 1 + 1 + 1 := by omega
      have h0 : w.heap.size < w.heap.size + 1 + 1 + 1 := by omega
      have h1' : w.heap.size + 1 < w3.heap.size := HW3.out
      have h0' : w.heap.size < w3.heap.size := by omega
      have HVF := hid (row_set (row_set (row_set (row_set (row_set (row_set (row_set (row_set HV4.out (w.heap.size + 1) 6 (.slice o2 LL.length c2) h1) w.heap.size 0 (.int .i64 (P 0)) h0) w.heap.size 1 (.int .i64 (P 1)) h0) w.heap.size 2 (.int .i64 (P 2)) h0) w.heap.size 3 (.int .i64 (P 3)) h0) w.heap.size 4 (.int .i64 (P 4)) h0) w.heap.size 5 (.slice o1 V.length c1) h0) w.heap.size 6 (.slice o2 LL.length c2) h0)
      have HLF := hid (row_set (row_set (row_set (row_set (row_set (row_set (row_set (row_set HL4.out (w.heap.size + 1) 6 (.slice o2 LL.length c2) h1') w.heap.size 0 (.int .i64 (P 0)) h0') w.heap.size 1 (.int .i64 (P 1)) h0') w.heap.size 2 (.int .i64 (P 2)) h0') w.heap.size 3 (.int .i64 (P 3)) h0') w.heap.size 4 (.int .i64 (P 4)) h0') w.heap.size 5 (.slice o1 V.length c1) h0') w.heap.size 6 (.slice o2 LL.length c2) h0')
      have HXF := hid (ecells_set (ecells_set (ecells_set (ecells_set (ecells_set (ecells_set (ecells_set (ecells_set HX4.out (w.heap.size + 1) 6 (.slice o2 LL.length c2) h1') w.heap.size 0 (.int .i64 (P 0)) h0') w.heap.size 1 (.int .i64 (P 1)) h0') w.heap.size 2 (.int .i64 (P 2)) h0') w.heap.size 3 (.int .i64 (P 3)) h0') w.heap.size 4 (.int .i64 (P 4)) h0') w.heap.size 5 (.slice o1 V.length c1) h0') w.heap.size 6 (.slice o2 LL.length c2) h0')
      clear hv hx k4 h1 h0 h1' h0' hle0 hle1
      go_wp2
      refine bodyPost_ret (v := .agg #[.int .i64 (P 0), .int .i64 (P 1), .int .i64 (P 2), .int .i64 (P 3), .int .i64 (P 4), .slice o1 V.length c1, .slice o2 LL.length c2]) (by simp [results, Tryd.results18, go_sem, z0, z1, z2, z3, z4, z5, z6]) rfl ?_
      exact ⟨⟨o1, o2, c1, c2, w.heap.size + 1 + 1 + 1, w3.heap.size, xs, rfl, by omega, HVF.out, by have := HW3.out; omega, HLF.out, HXF.out⟩, HK4.out.under HRW.out HBB.out⟩

end Go.Proofs.YtijdjplajhcilabDoor
