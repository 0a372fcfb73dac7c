/- DERIVED. What was written of a message is read back: plain. What the model reads of a message that was written: plain. What the model reads of entries that were written: plain. -/
import Derived.Test.YtcielnlhopjijabDoorGetPlain
import Derived.Test.YtcielnlhopjijabDoorSpecVotes
import Derived.Test.YtcielnlhopjijabDoorSpecList
namespace Go.Proofs.YtcielnlhopjijabDoor
open Go.RowKit

/-- The bytes of a number. -/
def dI (n : Int) : List UInt8 := (decI n).data.toList

theorem dI_nat (u : Nat) : dI (u : Int) = Lib.decDigits u := by
  unfold dI decI decS
  rw [if_neg (by omega)]
  simp

theorem dI_minus : dI (-1) = [45, 49] := by
  have e : dI (-1) = 45 :: Lib.decDigits 1 := by
    unfold dI decI decS
    rw [if_pos (by omega)]
    simp
  rw [e, dec_one 1 (by omega)]
  rfl

theorem dI_cases (n : Int) (h : -1 ≤ n) : n = -1 ∨ ∃ u : Nat, n = (u : Int) := by
  by_cases e : n = -1
  · exact Or.inl e
  · exact Or.inr ⟨n.toNat, by omega⟩

theorem fig_num {c : UInt8} (h : figB (c.toNat : Int) = true) : gNumB c = true := by
  unfold gNumB
  rw [h]
  rfl

theorem dI_all (n : Int) (h : -1 ≤ n) : ∀ c ∈ dI n, gNumB c = true := by
  rcases dI_cases n h with rfl | ⟨u, rfl⟩
  · rw [dI_minus]
    intro c hc
    rcases List.mem_cons.1 hc with rfl | hc
    · rfl
    · rcases List.mem_singleton.1 hc with rfl
      rfl
  · rw [dI_nat]
    intro c hc
    have := figAll_dec u
    unfold figAll at this
    exact fig_num (List.all_eq_true.1 this c hc)

theorem dI_ne (n : Int) (h : -1 ≤ n) : dI n ≠ [] := by
  rcases dI_cases n h with rfl | ⟨u, rfl⟩
  · rw [dI_minus]
    simp
  · rw [dI_nat]
    exact dec_ne u

theorem signedV_dI (n : Int) (h : -1 ≤ n) (h2 : n ≤ 999999) : signedV (dI n) = some n := by
  rcases dI_cases n h with rfl | ⟨u, rfl⟩
  · rw [dI_minus]
    decide
  · rw [dI_nat]
    have h1 := isNum_dec u (by omega)
    have h3 := numVal_dec u
    have h4 := dec_ne u
    have h5 := figAll_dec u
    cases hd : Lib.decDigits u with
    | nil => exact absurd hd h4
    | cons c t =>
      rw [hd] at h1 h3 h5
      have hc : figB (c.toNat : Int) = true := by
        unfold figAll at h5
        rw [List.all_cons, Bool.and_eq_true] at h5
        exact h5.1
      have hne : c ≠ 45 := by
        rintro rfl
        revert hc
        decide
      unfold signedV
      simp only
      rw [if_neg hne, if_pos h1, h3]

/-- A rest that begins no number. -/
def Ends (r : List UInt8) : Prop := ∀ c t, r = c :: t → gNumB c = false

theorem ends_nil : Ends [] := fun c t h => by cases h
theorem ends_cons {c : UInt8} {t : List UInt8} (h : gNumB c = false) : Ends (c :: t) := fun c' t' e => by
  injection e with e1 e2
  rw [← e1]
  exact h

theorem run_app {a r : List UInt8} (h : ∀ c ∈ a, gNumB c = true) (hr : Ends r) : gRun (a ++ r) = a ∧ gDrop (a ++ r) = r := by
  unfold gRun gDrop
  induction a with
  | nil =>
    cases r with
    | nil => exact ⟨rfl, rfl⟩
    | cons c t =>
      have := hr c t rfl
      rw [List.nil_append, List.takeWhile_cons, List.dropWhile_cons, this]
      exact ⟨rfl, rfl⟩
  | cons c t ih =>
    have hc := h c (by simp)
    obtain ⟨i1, i2⟩ := ih (fun x hx => h x (by simp [hx]))
    rw [List.cons_append, List.takeWhile_cons, List.dropWhile_cons, hc]
    exact ⟨by rw [if_pos rfl, i1], by rw [if_pos rfl, i2]⟩

theorem num_app {n : Int} {r : List UInt8} (h : -1 ≤ n) (h2 : n ≤ 999999) (hr : Ends r) : gVal (dI n ++ r) = n ∧ gOk (dI n ++ r) = true ∧ gDrop (dI n ++ r) = r := by
  obtain ⟨a, b⟩ := run_app (dI_all n h) hr
  unfold gVal gOk
  rw [a, signedV_dI n h h2]
  exact ⟨rfl, rfl, b⟩

theorem dash_app {r : List UInt8} (hr : Ends r) : gOk (45 :: r) = false ∧ gDrop (45 :: r) = r := by
  obtain ⟨a, b⟩ := run_app (a := [45]) (r := r) (by intro c hc; rcases List.mem_singleton.1 hc with rfl; rfl) hr
  have a' : gRun (45 :: r) = [45] := a
  have b' : gDrop (45 :: r) = r := b
  unfold gOk
  rw [a']
  exact ⟨by decide, b'⟩

/-- Votes, one at least, as they are written. -/
def vL : List Int → List UInt8
  | [] => []
  | [v] => dI v
  | v :: x :: t => dI v ++ 44 :: vL (x :: t)

theorem vL_snoc : ∀ (A : List Int) (x : Int), A ≠ [] → vL (A ++ [x]) = vL A ++ 44 :: dI x
  | [], _, h => absurd rfl h
  | [v], x, _ => rfl
  | v :: y :: t, x, _ => by
    have ih := vL_snoc (y :: t) x (by simp)
    show dI v ++ 44 :: vL (y :: t ++ [x]) = _
    rw [ih]
    simp [vL]

theorem vText_vL (V : List Int) : ∀ k, k ≤ V.length → (vText V k).data.toList = vL (V.take k)
  | 0, _ => by simp [vText, vL]
  | k + 1, hk => by
    have ih := vText_vL V k (by omega)
    have hg : V.take (k + 1) = V.take k ++ [V.getD k 0] := by
      rw [List.take_add_one, List.getElem?_eq_getElem (by omega), List.getD_eq_getElem?_getD, List.getElem?_eq_getElem (by omega)]
      rfl
    rw [hg, vText_next]
    by_cases h : 0 < k
    · rw [if_pos h, vL_snoc _ _ (by intro e; have := congrArg List.length e; rw [List.length_take, List.length_nil] at this; omega), ← ih]
      simp [dI]
    · have : k = 0 := by omega
      subst this
      simp [vText, vL, dI]

/-- Votes as they are written. -/
def vP (V : List Int) : List UInt8 := if V = [] then [45] else vL V

theorem putV_vP (V : List Int) : (putV V).data.toList = vP V := by
  unfold putV vP
  split
  · rfl
  · rw [vText_vL V V.length (Nat.le_refl _), List.take_length]

theorem vs_app : ∀ (V : List Int) (r : List UInt8), V ≠ [] → (∀ n ∈ V, -1 ≤ n ∧ n ≤ 127) → Ends r → gHas 44 r = false → gVs (vL V ++ r) = (V, r)
  | [], _, h, _, _, _ => absurd rfl h
  | [v], r, _, hv, hr, h44 => by
    have hb := hv v (by simp)
    obtain ⟨a, b, c⟩ := num_app (n := v) (r := r) hb.1 (by omega) hr
    show gVs (dI v ++ r) = _
    rw [gVs_eq, if_pos b, c, if_neg (by rw [h44]; simp), a]
    congr 1
    cases r with
    | nil => rfl
    | cons x t =>
      rw [gSkip_cons, if_neg]
      intro e
      simp [gHas, e] at h44
  | v :: x :: t, r, _, hv, hr, h44 => by
    have hb := hv v (by simp)
    have ih := vs_app (x :: t) r (by simp) (fun n hn => hv n (by simp [hn])) hr h44
    obtain ⟨a, b, c⟩ := num_app (n := v) (r := 44 :: (vL (x :: t) ++ r)) hb.1 (by omega) (ends_cons (by decide))
    have e : vL (v :: x :: t) ++ r = dI v ++ 44 :: (vL (x :: t) ++ r) := by
      show (dI v ++ 44 :: vL (x :: t)) ++ r = _
      simp
    rw [e, gVs_eq, if_pos b, c, if_pos (by simp [gHas]), a, gSkip_cons, if_pos rfl, ih]

theorem vp_app (V : List Int) (r : List UInt8) (hv : ∀ n ∈ V, -1 ≤ n ∧ n ≤ 127) (hr : Ends r) (h44 : gHas 44 r = false) : gVs (vP V ++ r) = (V, r) := by
  unfold vP
  split
  · rename_i h
    obtain ⟨a, b⟩ := dash_app hr
    rw [h]
    show gVs (45 :: r) = _
    rw [gVs_eq, if_neg (by rw [a]; simp), b]
  · exact vs_app V r (by assumption) hv hr h44

/-- An entry as it is written, and entries, one at least. -/
def eL (e : Ent) : List UInt8 := dI e.1 ++ 58 :: (dI e.2.1 ++ 58 :: vP e.2.2)
def lL : List Ent → List UInt8
  | [] => []
  | [e] => eL e
  | e :: x :: t => eL e ++ 59 :: lL (x :: t)

theorem lL_snoc : ∀ (A : List Ent) (x : Ent), A ≠ [] → lL (A ++ [x]) = lL A ++ 59 :: eL x
  | [], _, h => absurd rfl h
  | [v], x, _ => rfl
  | v :: y :: t, x, _ => by
    have ih := lL_snoc (y :: t) x (by simp)
    show eL v ++ 59 :: lL (y :: t ++ [x]) = _
    rw [ih]
    simp [lL]

theorem lText_lL (L : List Ent) : ∀ k, k ≤ L.length → (lText L k).data.toList = lL (L.take k)
  | 0, _ => by simp [lText, lL]
  | k + 1, hk => by
    have ih := lText_lL L k (by omega)
    have hg : L.take (k + 1) = L.take k ++ [L.getD k (0, 0, [])] := by
      rw [List.take_add_one, List.getElem?_eq_getElem (by omega), List.getD_eq_getElem?_getD, List.getElem?_eq_getElem (by omega)]
      rfl
    rw [hg, lText_next]
    by_cases h : 0 < k
    · rw [if_pos h, lL_snoc _ _ (by intro e; have := congrArg List.length e; rw [List.length_take, List.length_nil] at this; omega), ← ih]
      simp [eL, dI, putV_vP]
    · have : k = 0 := by omega
      subst this
      simp [lText, lL, eL, dI, putV_vP]

def lP (L : List Ent) : List UInt8 := if L = [] then [45] else lL L

theorem putL_lP (L : List Ent) : (putL L).data.toList = lP L := by
  unfold putL lP
  split
  · rfl
  · rw [lText_lL L L.length (Nat.le_refl _), List.take_length]

theorem ent_app {e : Ent} {r : List UInt8} (h : entOk e = true) (hr : Ends r) (h44 : gHas 44 r = false) : gOk (eL e ++ r) = true ∧ gEnt (eL e ++ r) = e ∧ (gVs (gB (eL e ++ r))).2 = r := by
  obtain ⟨f1, f2, f3, f4⟩ := ent_facts h
  have e1 : eL e ++ r = dI e.1 ++ 58 :: (dI e.2.1 ++ 58 :: (vP e.2.2 ++ r)) := by simp [eL]
  obtain ⟨a1, a2, a3⟩ := num_app (n := e.1) (r := 58 :: (dI e.2.1 ++ 58 :: (vP e.2.2 ++ r))) (by omega) (by omega) (ends_cons (by decide))
  obtain ⟨b1, b2, b3⟩ := num_app (n := e.2.1) (r := 58 :: (vP e.2.2 ++ r)) (by omega) (by omega) (ends_cons (by decide))
  have hA : gA (eL e ++ r) = dI e.2.1 ++ 58 :: (vP e.2.2 ++ r) := by
    unfold gA
    rw [e1, a3, gSkip_cons, if_pos rfl]
  have hB : gB (eL e ++ r) = vP e.2.2 ++ r := by
    unfold gB
    rw [hA, b3, gSkip_cons, if_pos rfl]
  have hv := vp_app e.2.2 r f4 hr h44
  refine ⟨by rw [e1]; exact a2, ?_, by rw [hB, hv]⟩
  unfold gEnt
  rw [hA, hB, hv, b1, e1, a1]

theorem es_app : ∀ (L : List Ent) (r : List UInt8), L ≠ [] → (∀ e ∈ L, entOk e = true) → Ends r → gHas 44 r = false → gHas 59 r = false → (gEs (lL L ++ r)).1 = L
  | [], _, h, _, _, _, _ => absurd rfl h
  | [e], r, _, hv, hr, h44, h59 => by
    obtain ⟨a, b, c⟩ := ent_app (hv e (by simp)) hr h44
    show (gEs (eL e ++ r)).1 = _
    rw [gEs_eq, if_pos a, c, if_neg (by rw [h59]; simp), b]
  | e :: x :: t, r, _, hv, hr, h44, h59 => by
    have ih := es_app (x :: t) r (by simp) (fun n hn => hv n (by simp [hn])) hr h44 h59
    obtain ⟨a, b, c⟩ := ent_app (e := e) (r := 59 :: (lL (x :: t) ++ r)) (hv e (by simp)) (ends_cons (by decide)) (by simp [gHas])
    have e1 : lL (e :: x :: t) ++ r = eL e ++ 59 :: (lL (x :: t) ++ r) := by
      show (eL e ++ 59 :: lL (x :: t)) ++ r = _
      simp
    rw [e1, gEs_eq, if_pos a, c, if_pos (by simp [gHas]), b, gSkip_cons, if_pos rfl]
    show e :: (gEs (lL (x :: t) ++ r)).1 = _
    rw [ih]

theorem lp_app (L : List Ent) (r : List UInt8) (hv : ∀ e ∈ L, entOk e = true) (hr : Ends r) (h44 : gHas 44 r = false) (h59 : gHas 59 r = false) : (gEs (lP L ++ r)).1 = L := by
  unfold lP
  split
  · rename_i h
    obtain ⟨a, b⟩ := dash_app hr
    rw [h]
    show (gEs (45 :: r)).1 = _
    rw [gEs_eq, if_neg (by rw [a]; simp)]
  · exact es_app L r (by assumption) hv hr h44 h59

/-- A message as it is written, as bytes. -/
def mL (kd fr tt bl ins : Int) (V : List Int) (L : List Ent) (r : List UInt8) : List UInt8 := dI kd ++ 32 :: (dI fr ++ 32 :: (dI tt ++ 32 :: (dI bl ++ 32 :: (dI ins ++ 32 :: (vP V ++ 32 :: (lP L ++ r))))))

theorem msgT_mL (kd fr tt bl ins : Int) (V : List Int) (L : List Ent) (r : List UInt8) : (msgT kd fr tt bl ins V L).data.toList ++ r = mL kd fr tt bl ins V L r := by
  unfold msgT mL
  simp [dI, putV_vP, putL_lP]

theorem part_step {n : Int} {l r : List UInt8} (h : l = dI n ++ 32 :: r) (h1 : -1 ≤ n) (h2 : n ≤ 999999) : gVal l = n ∧ gSkip 32 (gDrop l) = r := by
  obtain ⟨a, _, c⟩ := num_app (n := n) (r := 32 :: r) h1 h2 (ends_cons (by decide))
  rw [h, a, c, gSkip_cons, if_pos rfl]
  exact ⟨rfl, rfl⟩

/-- What is read of a message that was written. -/
theorem read_back {kd fr tt bl ins : Int} {V : List Int} {L : List Ent} (hok : msgOkP kd fr tt bl ins V L = true) (t : List UInt8) :
    gPart (mL kd fr tt bl ins V L (32 :: t)) 0 = kd ∧ gPart (mL kd fr tt bl ins V L (32 :: t)) 1 = fr ∧ gPart (mL kd fr tt bl ins V L (32 :: t)) 2 = tt ∧ gPart (mL kd fr tt bl ins V L (32 :: t)) 3 = bl ∧ gPart (mL kd fr tt bl ins V L (32 :: t)) 4 = ins ∧ gV (mL kd fr tt bl ins V L (32 :: t)) = V ∧ gL (mL kd fr tt bl ins V L (32 :: t)) = L := by
  simp only [msgOkP, Bool.and_eq_true] at hok
  obtain ⟨⟨⟨⟨⟨⟨g1, g2⟩, g3⟩, g4⟩, g5⟩, g6⟩, g7⟩ := hok
  have r1 : 1 ≤ kd ∧ kd ≤ 9 := by simpa [inB] using g1
  have r2 := party_range g2
  have r3 := party_range g3
  have r4 : 0 ≤ bl ∧ bl ≤ 9999 := by simpa [inB] using g4
  have r5 : 0 ≤ ins ∧ ins ≤ 12 := by simpa [inB] using g5
  have r6 := okV_all g6
  have r8 := okTo_each L L.length g7
  have hE : ∀ e ∈ L, entOk e = true := by
    intro e he
    obtain ⟨i, hi, rfl⟩ := List.getElem_of_mem he
    have := r8 i hi
    rw [List.getD_eq_getElem?_getD, List.getElem?_eq_getElem hi] at this
    exact this
  obtain ⟨l, hl⟩ : ∃ l, l = mL kd fr tt bl ins V L (32 :: t) := ⟨_, rfl⟩
  rw [← hl]
  have s0 : l = dI kd ++ 32 :: _ := hl
  obtain ⟨p0, q0⟩ := part_step s0 (by omega) (by omega)
  obtain ⟨p1, q1⟩ := part_step q0 (by omega) (by omega)
  obtain ⟨p2, q2⟩ := part_step q1 (by omega) (by omega)
  obtain ⟨p3, q3⟩ := part_step q2 (by omega) (by omega)
  obtain ⟨p4, q4⟩ := part_step q3 (by omega) (by omega)
  have e5 : gRest l 5 = vP V ++ 32 :: (lP L ++ 32 :: t) := q4
  have hv := vp_app V (32 :: (lP L ++ 32 :: t)) r6.2 (ends_cons (by decide)) (by simp [gHas])
  refine ⟨p0, p1, p2, p3, p4, ?_, ?_⟩
  · unfold gV
    rw [e5, hv]
  · unfold gL
    rw [e5, hv, gSkip_cons, if_pos rfl]
    exact lp_app L (32 :: t) hE (ends_cons (by decide)) (by simp [gHas]) (by simp [gHas])

end Go.Proofs.YtcielnlhopjijabDoor

namespace Go.Proofs.YtcielnlhopjijabDoor

theorem cutL_cur (b : UInt8) : ∀ (t : List UInt8) (m : Nat) (cur : List UInt8), (∀ c ∈ t, c ≠ b) → cutL b m cur t = [cur ++ t] := fun t m cur h => cut_none b m cur t h

theorem numOf_dI {n : Int} (h0 : 0 ≤ n) (h1 : n ≤ 999999) : numOf (dI n) = n := by
  obtain ⟨u, rfl⟩ : ∃ u : Nat, n = (u : Int) := ⟨n.toNat, by omega⟩
  rw [dI_nat, numOf_dec u (by omega)]

theorem dI_pos_ne {n : Int} (h0 : 0 ≤ n) : dI n ≠ [45, 49] := by
  obtain ⟨u, rfl⟩ : ∃ u : Nat, n = (u : Int) := ⟨n.toNat, by omega⟩
  rw [dI_nat]
  intro h
  have := List.all_eq_true.1 (figAll_dec u) 45 (by rw [h]; simp)
  exact absurd this (by decide)

theorem mNum_dI {n : Int} (h0 : -1 ≤ n) (h1 : n ≤ 127) : mNum (dI n) = n := by
  unfold mNum
  by_cases h : n = -1
  · subst h
    rw [dI_minus, if_neg (by simp)]
    decide
  · rw [numOf_dI (by omega) (by omega), if_neg (by omega)]

theorem dI_clean (n : Int) (b : UInt8) (h1 : b ≠ 45) (h2 : b.toNat < 48 ∨ 57 < b.toNat) : ∀ c ∈ dI n, c ≠ b := by
  intro c hc e
  subst e
  have hd : ∀ u, c ∈ Lib.decDigits u → False := fun u hu => by
    have h3 := List.all_eq_true.1 (figAll_dec u) c hu
    revert h3
    have : ∀ b : UInt8, (b.toNat < 48 ∨ 57 < b.toNat) → figB (b.toNat : Int) = true → False := by
      intro b hb h
      simp [figB] at h
      omega
    exact this c h2
  unfold dI decI at hc
  split at hc
  · simp [decS] at hc
    rcases hc with rfl | hc
    · exact h1 rfl
    · exact hd _ hc
  · simp [decS] at hc
    exact hd _ hc

theorem cut_vL : ∀ (V : List Int) (m : Nat), V ≠ [] → V.length ≤ m + 1 → cutL 44 m [] (vL V) = V.map dI
  | [], _, h, _ => absurd rfl h
  | [v], m, _, _ => by
    rw [vL, cut_none 44 m [] (dI v) (dI_clean v 44 (by decide) (by decide))]
    rfl
  | v :: x :: t, m, _, hm => by
    obtain ⟨k, rfl⟩ : ∃ k, m = k + 1 := ⟨m - 1, by simp at hm; omega⟩
    rw [vL, cut_at 44 k [] (dI v) _ (dI_clean v 44 (by decide) (by decide)), cut_vL (x :: t) k (by simp) (by simp at hm ⊢; omega)]
    rfl

theorem vL_first {V : List Int} (h : V ≠ []) (hr : ∀ n ∈ V, -1 ≤ n ∧ n ≤ 127) : vL V ≠ [45] := by
  intro e
  cases V with
  | nil => exact h rfl
  | cons v t =>
    have hv := hr v (by simp)
    have hlen : 1 ≤ (dI v).length := by
      by_cases hq : v = -1
      · subst hq; rw [dI_minus]; decide
      · obtain ⟨u, rfl⟩ : ∃ u : Nat, v = (u : Int) := ⟨v.toNat, by omega⟩
        rw [dI_nat]
        exact List.length_pos_iff.2 (dec_ne u)
    cases t with
    | nil =>
      rw [vL] at e
      by_cases hq : v = -1
      · subst hq; rw [dI_minus] at e; simp at e
      · obtain ⟨u, rfl⟩ : ∃ u : Nat, v = (u : Int) := ⟨v.toNat, by omega⟩
        rw [dI_nat] at e
        have := List.all_eq_true.1 (figAll_dec u) 45 (by rw [e]; simp)
        exact absurd this (by decide)
    | cons x r =>
      rw [vL] at e
      have := congrArg List.length e
      simp at this
      omega

theorem mVotes_vP {V : List Int} (h3 : V.length ≤ 3) (hr : ∀ n ∈ V, -1 ≤ n ∧ n ≤ 127) : mVotes (vP V) = V := by
  unfold mVotes vP
  by_cases h : V = []
  · subst h; rfl
  · rw [if_neg h, if_neg (vL_first h hr), cut_vL V 3 h (by omega), List.map_map]
    have : ∀ A : List Int, (∀ n ∈ A, -1 ≤ n ∧ n ≤ 127) → A.map (mNum ∘ dI) = A := by
      intro A hA
      induction A with
      | nil => rfl
      | cons a r ih =>
        have ha := hA a (by simp)
        simp [mNum_dI ha.1 ha.2, ih (fun n hn => hA n (by simp [hn]))]
    exact this V hr

end Go.Proofs.YtcielnlhopjijabDoor

namespace Go.Proofs.YtcielnlhopjijabDoor

theorem vL_clean (b : UInt8) (h1 : b ≠ 45) (h2 : b.toNat < 48 ∨ 57 < b.toNat) (h3 : b ≠ 44) : ∀ V : List Int, ∀ c ∈ vL V, c ≠ b
  | [], c, hc => by cases hc
  | [v], c, hc => dI_clean v b h1 h2 c hc
  | v :: x :: t, c, hc => by
    simp only [vL, List.mem_append, List.mem_cons] at hc
    rcases hc with hc | rfl | hc
    · exact dI_clean v b h1 h2 c hc
    · exact fun e => h3 e.symm
    · exact vL_clean b h1 h2 h3 (x :: t) c hc

theorem vP_clean (b : UInt8) (h1 : b ≠ 45) (h2 : b.toNat < 48 ∨ 57 < b.toNat) (h3 : b ≠ 44) (V : List Int) : ∀ c ∈ vP V, c ≠ b := by
  intro c hc
  unfold vP at hc
  split at hc
  · simp at hc; subst hc; exact fun e => h1 e.symm
  · exact vL_clean b h1 h2 h3 V c hc

theorem eL_clean59 (e : Ent) : ∀ c ∈ eL e, c ≠ 59 := by
  intro c hc
  simp only [eL, List.mem_append, List.mem_cons] at hc
  rcases hc with hc | rfl | hc | rfl | hc
  · exact dI_clean _ 59 (by decide) (by decide) c hc
  · decide
  · exact dI_clean _ 59 (by decide) (by decide) c hc
  · decide
  · exact vP_clean 59 (by decide) (by decide) (by decide) _ c hc

theorem cut_lL : ∀ (L : List Ent) (m : Nat), L ≠ [] → L.length ≤ m + 1 → cutL 59 m [] (lL L) = L.map eL
  | [], _, h, _ => absurd rfl h
  | [v], m, _, _ => by
    rw [lL, cut_none 59 m [] (eL v) (eL_clean59 v)]
    rfl
  | v :: x :: t, m, _, hm => by
    obtain ⟨k, rfl⟩ : ∃ k, m = k + 1 := ⟨m - 1, by simp at hm; omega⟩
    rw [lL, cut_at 59 k [] (eL v) _ (eL_clean59 v), cut_lL (x :: t) k (by simp) (by simp at hm ⊢; omega)]
    rfl

theorem mEnt_eL {e : Ent} (h : entOk e = true) : mEnt (eL e) = e := by
  simp only [entOk, Bool.and_eq_true] at h
  obtain ⟨⟨⟨h1, h2⟩, h3⟩, _⟩ := h
  have r1 : 0 ≤ e.1 ∧ e.1 ≤ 11 := by simpa [inB] using h1
  have r2 : 1 ≤ e.2.1 ∧ e.2.1 ≤ 9999 := by simpa [inB] using h2
  have r3 := okV_all h3
  have hc : cutL 58 2 [] (eL e) = [dI e.1, dI e.2.1, vP e.2.2] := by
    unfold eL
    rw [cut_at 58 1 [] (dI e.1) _ (dI_clean _ 58 (by decide) (by decide)), cut_at 58 0 [] (dI e.2.1) _ (dI_clean _ 58 (by decide) (by decide)), cut_zero]
    rfl
  unfold mEnt
  rw [hc, if_pos (show [dI e.1, dI e.2.1, vP e.2.2].length = 3 from rfl)]
  show (numOf (dI e.1), numOf (dI e.2.1), mVotes (vP e.2.2)) = e
  rw [numOf_dI (by omega) (by omega), numOf_dI (by omega) (by omega), mVotes_vP r3.1 r3.2]

theorem lL_first : ∀ {L : List Ent}, L ≠ [] → lL L ≠ [45]
  | [], h => absurd rfl h
  | [e], _ => by
    intro h
    have : (58 : UInt8) ∈ lL [e] := by rw [lL, eL]; simp
    rw [h] at this
    exact absurd this (by decide)
  | e :: x :: t, _ => by
    intro h
    have : (58 : UInt8) ∈ lL (e :: x :: t) := by rw [lL, eL]; simp
    rw [h] at this
    exact absurd this (by decide)

theorem mList_lP {L : List Ent} (h12 : L.length ≤ 12) (hr : ∀ e ∈ L, entOk e = true) : mList (lP L) = L := by
  unfold mList lP
  by_cases h : L = []
  · subst h; rfl
  · rw [if_neg h, if_neg (lL_first h), cut_lL L 12 h (by omega), List.map_map]
    have : ∀ A : List Ent, (∀ e ∈ A, entOk e = true) → A.map (mEnt ∘ eL) = A := by
      intro A hA
      induction A with
      | nil => rfl
      | cons a r ih =>
        simp [mEnt_eL (hA a (by simp)), ih (fun n hn => hA n (by simp [hn]))]
    exact this L hr

/-- The eight words of a message that was written. -/
theorem words_put {kd fr tt bl ins : Int} {V : List Int} {L : List Ent} (u : Nat) : cutL 32 8 [] (mL kd fr tt bl ins V L (32 :: Lib.decDigits u)) = [dI kd, dI fr, dI tt, dI bl, dI ins, vP V, lP L, Lib.decDigits u] := by
  have hl : ∀ c ∈ lP L, c ≠ 32 := by
    intro c hc
    unfold lP at hc
    split at hc
    · simp at hc; subst hc; decide
    · have : ∀ A : List Ent, ∀ c ∈ lL A, c ≠ 32 := by
        intro A
        induction A with
        | nil => intro c hc; cases hc
        | cons e t ih =>
          have he : ∀ c ∈ eL e, c ≠ 32 := by
            intro c hc
            simp only [eL, List.mem_append, List.mem_cons] at hc
            rcases hc with hc | rfl | hc | rfl | hc
            · exact dI_clean _ 32 (by decide) (by decide) c hc
            · decide
            · exact dI_clean _ 32 (by decide) (by decide) c hc
            · decide
            · exact vP_clean 32 (by decide) (by decide) (by decide) _ c hc
          cases t with
          | nil => intro c hc; exact he c hc
          | cons x r =>
            intro c hc
            simp only [lL, List.mem_append, List.mem_cons] at hc
            rcases hc with hc | rfl | hc
            · exact he c hc
            · decide
            · exact ih c hc
      exact this L c hc
  have hd : ∀ n : Int, ∀ c ∈ dI n, c ≠ 32 := fun n => dI_clean n 32 (by decide) (by decide)
  have hu : ∀ c ∈ Lib.decDigits u, c ≠ 32 := by rw [← dI_nat]; exact hd _
  unfold mL
  rw [cut_at 32 7 [] (dI kd) _ (hd _), cut_at 32 6 [] (dI fr) _ (hd _), cut_at 32 5 [] (dI tt) _ (hd _), cut_at 32 4 [] (dI bl) _ (hd _), cut_at 32 3 [] (dI ins) _ (hd _), cut_at 32 2 [] (vP V) _ (vP_clean 32 (by decide) (by decide) (by decide) V), cut_at 32 1 [] (lP L) _ hl, cut_none 32 1 [] _ hu]
  rfl

end Go.Proofs.YtcielnlhopjijabDoor

