/- DERIVED. What was written of a message is read back: plain. -/
import Derived.Test.YtijdjplajhcilabDoorGetPlain
namespace Go.Proofs.YtijdjplajhcilabDoor
open Go.RowKit

/-- The bytes of a number. -/
def dI (n : Int) : List UInt8 := (decI n).data.toList

theorem dI_nat (u : Nat) : dI (u : Int) = Lib.decDigits u := by
  unfold dI decI decS
  rw [if_neg (by omega)]
  simp

theorem dI_minus : dI (-1) = [45, 49] := by
  have e : dI (-1) = 45 :: Lib.decDigits 1 := by
    unfold dI decI decS
    rw [if_pos (by omega)]
    simp
  rw [e, dec_one 1 (by omega)]
  rfl

theorem dI_cases (n : Int) (h : -1 ≤ n) : n = -1 ∨ ∃ u : Nat, n = (u : Int) := by
  by_cases e : n = -1
  · exact Or.inl e
  · exact Or.inr ⟨n.toNat, by omega⟩

theorem fig_num {c : UInt8} (h : figB (c.toNat : Int) = true) : gNumB c = true := by
  unfold gNumB
  rw [h]
  rfl

theorem dI_all (n : Int) (h : -1 ≤ n) : ∀ c ∈ dI n, gNumB c = true := by
  rcases dI_cases n h with rfl | ⟨u, rfl⟩
  · rw [dI_minus]
    intro c hc
    rcases List.mem_cons.1 hc with rfl | hc
    · rfl
    · rcases List.mem_singleton.1 hc with rfl
      rfl
  · rw [dI_nat]
    intro c hc
    have := figAll_dec u
    unfold figAll at this
    exact fig_num (List.all_eq_true.1 this c hc)

theorem dI_ne (n : Int) (h : -1 ≤ n) : dI n ≠ [] := by
  rcases dI_cases n h with rfl | ⟨u, rfl⟩
  · rw [dI_minus]
    simp
  · rw [dI_nat]
    exact dec_ne u

theorem signedV_dI (n : Int) (h : -1 ≤ n) (h2 : n ≤ 999999) : signedV (dI n) = some n := by
  rcases dI_cases n h with rfl | ⟨u, rfl⟩
  · rw [dI_minus]
    decide
  · rw [dI_nat]
    have h1 := isNum_dec u (by omega)
    have h3 := numVal_dec u
    have h4 := dec_ne u
    have h5 := figAll_dec u
    cases hd : Lib.decDigits u with
    | nil => exact absurd hd h4
    | cons c t =>
      rw [hd] at h1 h3 h5
      have hc : figB (c.toNat : Int) = true := by
        unfold figAll at h5
        rw [List.all_cons, Bool.and_eq_true] at h5
        exact h5.1
      have hne : c ≠ 45 := by
        rintro rfl
        revert hc
        decide
      unfold signedV
      simp only
      rw [if_neg hne, if_pos h1, h3]

/-- A rest that begins no number. -/
def Ends (r : List UInt8) : Prop := ∀ c t, r = c :: t → gNumB c = false

theorem ends_nil : Ends [] := fun c t h => by cases h
theorem ends_cons {c : UInt8} {t : List UInt8} (h : gNumB c = false) : Ends (c :: t) := fun c' t' e => by
  injection e with e1 e2
  rw [← e1]
  exact h

theorem run_app {a r : List UInt8} (h : ∀ c ∈ a, gNumB c = true) (hr : Ends r) : gRun (a ++ r) = a ∧ gDrop (a ++ r) = r := by
  unfold gRun gDrop
  induction a with
  | nil =>
    cases r with
    | nil => exact ⟨rfl, rfl⟩
    | cons c t =>
      have := hr c t rfl
      rw [List.nil_append, List.takeWhile_cons, List.dropWhile_cons, this]
      exact ⟨rfl, rfl⟩
  | cons c t ih =>
    have hc := h c (by simp)
    obtain ⟨i1, i2⟩ := ih (fun x hx => h x (by simp [hx]))
    rw [List.cons_append, List.takeWhile_cons, List.dropWhile_cons, hc]
    exact ⟨by rw [if_pos rfl, i1], by rw [if_pos rfl, i2]⟩

theorem num_app {n : Int} {r : List UInt8} (h : -1 ≤ n) (h2 : n ≤ 999999) (hr : Ends r) : gVal (dI n ++ r) = n ∧ gOk (dI n ++ r) = true ∧ gDrop (dI n ++ r) = r := by
  obtain ⟨a, b⟩ := run_app (dI_all n h) hr
  unfold gVal gOk
  rw [a, signedV_dI n h h2]
  exact ⟨rfl, rfl, b⟩

theorem dash_app {r : List UInt8} (hr : Ends r) : gOk (45 :: r) = false ∧ gDrop (45 :: r) = r := by
  obtain ⟨a, b⟩ := run_app (a := [45]) (r := r) (by intro c hc; rcases List.mem_singleton.1 hc with rfl; rfl) hr
  have a' : gRun (45 :: r) = [45] := a
  have b' : gDrop (45 :: r) = r := b
  unfold gOk
  rw [a']
  exact ⟨by decide, b'⟩

/-- Votes, one at least, as they are written. -/
def vL : List Int → List UInt8
  | [] => []
  | [v] => dI v
  | v :: x :: t => dI v ++ 44 :: vL (x :: t)

theorem vL_snoc : ∀ (A : List Int) (x : Int), A ≠ [] → vL (A ++ [x]) = vL A ++ 44 :: dI x
  | [], _, h => absurd rfl h
  | [v], x, _ => rfl
  | v :: y :: t, x, _ => by
    have ih := vL_snoc (y :: t) x (by simp)
    show dI v ++ 44 :: vL (y :: t ++ [x]) = _
    rw [ih]
    simp [vL]

theorem vText_vL (V : List Int) : ∀ k, k ≤ V.length → (vText V k).data.toList = vL (V.take k)
  | 0, _ => by simp [vText, vL]
  | k + 1, hk => by
    have ih := vText_vL V k (by omega)
    have hg : V.take (k + 1) = V.take k ++ [V.getD k 0] := by
      rw [List.take_add_one, List.getElem?_eq_getElem (by omega), List.getD_eq_getElem?_getD, List.getElem?_eq_getElem (by omega)]
      rfl
    rw [hg, vText_next]
    by_cases h : 0 < k
    · rw [if_pos h, vL_snoc _ _ (by intro e; have := congrArg List.length e; rw [List.length_take, List.length_nil] at this; omega), ← ih]
      simp [dI]
    · have : k = 0 := by omega
      subst this
      simp [vText, vL, dI]

/-- Votes as they are written. -/
def vP (V : List Int) : List UInt8 := if V = [] then [45] else vL V

theorem putV_vP (V : List Int) : (putV V).data.toList = vP V := by
  unfold putV vP
  split
  · rfl
  · rw [vText_vL V V.length (Nat.le_refl _), List.take_length]

theorem vs_app : ∀ (V : List Int) (r : List UInt8), V ≠ [] → (∀ n ∈ V, -1 ≤ n ∧ n ≤ 127) → Ends r → gHas 44 r = false → gVs (vL V ++ r) = (V, r)
  | [], _, h, _, _, _ => absurd rfl h
  | [v], r, _, hv, hr, h44 => by
    have hb := hv v (by simp)
    obtain ⟨a, b, c⟩ := num_app (n := v) (r := r) hb.1 (by omega) hr
    show gVs (dI v ++ r) = _
    rw [gVs_eq, if_pos b, c, if_neg (by rw [h44]; simp), a]
    congr 1
    cases r with
    | nil => rfl
    | cons x t =>
      rw [gSkip_cons, if_neg]
      intro e
      simp [gHas, e] at h44
  | v :: x :: t, r, _, hv, hr, h44 => by
    have hb := hv v (by simp)
    have ih := vs_app (x :: t) r (by simp) (fun n hn => hv n (by simp [hn])) hr h44
    obtain ⟨a, b, c⟩ := num_app (n := v) (r := 44 :: (vL (x :: t) ++ r)) hb.1 (by omega) (ends_cons (by decide))
    have e : vL (v :: x :: t) ++ r = dI v ++ 44 :: (vL (x :: t) ++ r) := by
      show (dI v ++ 44 :: vL (x :: t)) ++ r = _
      simp
    rw [e, gVs_eq, if_pos b, c, if_pos (by simp [gHas]), a, gSkip_cons, if_pos rfl, ih]

theorem vp_app (V : List Int) (r : List UInt8) (hv : ∀ n ∈ V, -1 ≤ n ∧ n ≤ 127) (hr : Ends r) (h44 : gHas 44 r = false) : gVs (vP V ++ r) = (V, r) := by
  unfold vP
  split
  · rename_i h
    obtain ⟨a, b⟩ := dash_app hr
    rw [h]
    show gVs (45 :: r) = _
    rw [gVs_eq, if_neg (by rw [a]; simp), b]
  · exact vs_app V r (by assumption) hv hr h44

/-- An entry as it is written, and entries, one at least. -/
def eL (e : Ent) : List UInt8 := dI e.1 ++ 58 :: (dI e.2.1 ++ 58 :: vP e.2.2)
def lL : List Ent → List UInt8
  | [] => []
  | [e] => eL e
  | e :: x :: t => eL e ++ 59 :: lL (x :: t)

theorem lL_snoc : ∀ (A : List Ent) (x : Ent), A ≠ [] → lL (A ++ [x]) = lL A ++ 59 :: eL x
  | [], _, h => absurd rfl h
  | [v], x, _ => rfl
  | v :: y :: t, x, _ => by
    have ih := lL_snoc (y :: t) x (by simp)
    show eL v ++ 59 :: lL (y :: t ++ [x]) = _
    rw [ih]
    simp [lL]

theorem lText_lL (L : List Ent) : ∀ k, k ≤ L.length → (lText L k).data.toList = lL (L.take k)
  | 0, _ => by simp [lText, lL]
  | k + 1, hk => by
    have ih := lText_lL L k (by omega)
    have hg : L.take (k + 1) = L.take k ++ [L.getD k (0, 0, [])] := by
      rw [List.take_add_one, List.getElem?_eq_getElem (by omega), List.getD_eq_getElem?_getD, List.getElem?_eq_getElem (by omega)]
      rfl
    rw [hg, lText_next]
    by_cases h : 0 < k
    · rw [if_pos h, lL_snoc _ _ (by intro e; have := congrArg List.length e; rw [List.length_take, List.length_nil] at this; omega), ← ih]
      simp [eL, dI, putV_vP]
    · have : k = 0 := by omega
      subst this
      simp [lText, lL, eL, dI, putV_vP]

def lP (L : List Ent) : List UInt8 := if L = [] then [45] else lL L

theorem putL_lP (L : List Ent) : (putL L).data.toList = lP L := by
  unfold putL lP
  split
  · rfl
  · rw [lText_lL L L.length (Nat.le_refl _), List.take_length]

theorem ent_app {e : Ent} {r : List UInt8} (h : entOk e = true) (hr : Ends r) (h44 : gHas 44 r = false) : gOk (eL e ++ r) = true ∧ gEnt (eL e ++ r) = e ∧ (gVs (gB (eL e ++ r))).2 = r := by
  obtain ⟨f1, f2, f3, f4⟩ := ent_facts h
  have e1 : eL e ++ r = dI e.1 ++ 58 :: (dI e.2.1 ++ 58 :: (vP e.2.2 ++ r)) := by simp [eL]
  obtain ⟨a1, a2, a3⟩ := num_app (n := e.1) (r := 58 :: (dI e.2.1 ++ 58 :: (vP e.2.2 ++ r))) (by omega) (by omega) (ends_cons (by decide))
  obtain ⟨b1, b2, b3⟩ := num_app (n := e.2.1) (r := 58 :: (vP e.2.2 ++ r)) (by omega) (by omega) (ends_cons (by decide))
  have hA : gA (eL e ++ r) = dI e.2.1 ++ 58 :: (vP e.2.2 ++ r) := by
    unfold gA
    rw [e1, a3, gSkip_cons, if_pos rfl]
  have hB : gB (eL e ++ r) = vP e.2.2 ++ r := by
    unfold gB
    rw [hA, b3, gSkip_cons, if_pos rfl]
  have hv := vp_app e.2.2 r f4 hr h44
  refine ⟨by rw [e1]; exact a2, ?_, by rw [hB, hv]⟩
  unfold gEnt
  rw [hA, hB, hv, b1, e1, a1]

theorem es_app : ∀ (L : List Ent) (r : List UInt8), L ≠ [] → (∀ e ∈ L, entOk e = true) → Ends r → gHas 44 r = false → gHas 59 r = false → (gEs (lL L ++ r)).1 = L
  | [], _, h, _, _, _, _ => absurd rfl h
  | [e], r, _, hv, hr, h44, h59 => by
    obtain ⟨a, b, c⟩ := ent_app (hv e (by simp)) hr h44
    show (gEs (eL e ++ r)).1 = _
    rw [gEs_eq, if_pos a, c, if_neg (by rw [h59]; simp), b]
  | e :: x :: t, r, _, hv, hr, h44, h59 => by
    have ih := es_app (x :: t) r (by simp) (fun n hn => hv n (by simp [hn])) hr h44 h59
    obtain ⟨a, b, c⟩ := ent_app (e := e) (r := 59 :: (lL (x :: t) ++ r)) (hv e (by simp)) (ends_cons (by decide)) (by simp [gHas])
    have e1 : lL (e :: x :: t) ++ r = eL e ++ 59 :: (lL (x :: t) ++ r) := by
      show (eL e ++ 59 :: lL (x :: t)) ++ r = _
      simp
    rw [e1, gEs_eq, if_pos a, c, if_pos (by simp [gHas]), b, gSkip_cons, if_pos rfl]
    show e :: (gEs (lL (x :: t) ++ r)).1 = _
    rw [ih]

theorem lp_app (L : List Ent) (r : List UInt8) (hv : ∀ e ∈ L, entOk e = true) (hr : Ends r) (h44 : gHas 44 r = false) (h59 : gHas 59 r = false) : (gEs (lP L ++ r)).1 = L := by
  unfold lP
  split
  · rename_i h
    obtain ⟨a, b⟩ := dash_app hr
    rw [h]
    show (gEs (45 :: r)).1 = _
    rw [gEs_eq, if_neg (by rw [a]; simp)]
  · exact es_app L r (by assumption) hv hr h44 h59

/-- A message as it is written, as bytes. -/
def mL (kd fr tt bl ins : Int) (V : List Int) (L : List Ent) (r : List UInt8) : List UInt8 := dI kd ++ 32 :: (dI fr ++ 32 :: (dI tt ++ 32 :: (dI bl ++ 32 :: (dI ins ++ 32 :: (vP V ++ 32 :: (lP L ++ r))))))

theorem msgT_mL (kd fr tt bl ins : Int) (V : List Int) (L : List Ent) (r : List UInt8) : (msgT kd fr tt bl ins V L).data.toList ++ r = mL kd fr tt bl ins V L r := by
  unfold msgT mL
  simp [dI, putV_vP, putL_lP]

theorem part_step {n : Int} {l r : List UInt8} (h : l = dI n ++ 32 :: r) (h1 : -1 ≤ n) (h2 : n ≤ 999999) : gVal l = n ∧ gSkip 32 (gDrop l) = r := by
  obtain ⟨a, _, c⟩ := num_app (n := n) (r := 32 :: r) h1 h2 (ends_cons (by decide))
  rw [h, a, c, gSkip_cons, if_pos rfl]
  exact ⟨rfl, rfl⟩

/-- What is read of a message that was written. -/
theorem read_back {kd fr tt bl ins : Int} {V : List Int} {L : List Ent} (hok : msgOkP kd fr tt bl ins V L = true) (t : List UInt8) :
    gPart (mL kd fr tt bl ins V L (32 :: t)) 0 = kd ∧ gPart (mL kd fr tt bl ins V L (32 :: t)) 1 = fr ∧ gPart (mL kd fr tt bl ins V L (32 :: t)) 2 = tt ∧ gPart (mL kd fr tt bl ins V L (32 :: t)) 3 = bl ∧ gPart (mL kd fr tt bl ins V L (32 :: t)) 4 = ins ∧ gV (mL kd fr tt bl ins V L (32 :: t)) = V ∧ gL (mL kd fr tt bl ins V L (32 :: t)) = L := by
  simp only [msgOkP, Bool.and_eq_true] at hok
  obtain ⟨⟨⟨⟨⟨⟨g1, g2⟩, g3⟩, g4⟩, g5⟩, g6⟩, g7⟩ := hok
  have r1 : 1 ≤ kd ∧ kd ≤ 9 := by simpa [inB] using g1
  have r2 := party_range g2
  have r3 := party_range g3
  have r4 : 0 ≤ bl ∧ bl ≤ 9999 := by simpa [inB] using g4
  have r5 : 0 ≤ ins ∧ ins ≤ 12 := by simpa [inB] using g5
  have r6 := okV_all g6
  have r8 := okTo_each L L.length g7
  have hE : ∀ e ∈ L, entOk e = true := by
    intro e he
    obtain ⟨i, hi, rfl⟩ := List.getElem_of_mem he
    have := r8 i hi
    rw [List.getD_eq_getElem?_getD, List.getElem?_eq_getElem hi] at this
    exact this
  obtain ⟨l, hl⟩ : ∃ l, l = mL kd fr tt bl ins V L (32 :: t) := ⟨_, rfl⟩
  rw [← hl]
  have s0 : l = dI kd ++ 32 :: _ := hl
  obtain ⟨p0, q0⟩ := part_step s0 (by omega) (by omega)
  obtain ⟨p1, q1⟩ := part_step q0 (by omega) (by omega)
  obtain ⟨p2, q2⟩ := part_step q1 (by omega) (by omega)
  obtain ⟨p3, q3⟩ := part_step q2 (by omega) (by omega)
  obtain ⟨p4, q4⟩ := part_step q3 (by omega) (by omega)
  have e5 : gRest l 5 = vP V ++ 32 :: (lP L ++ 32 :: t) := q4
  have hv := vp_app V (32 :: (lP L ++ 32 :: t)) r6.2 (ends_cons (by decide)) (by simp [gHas])
  refine ⟨p0, p1, p2, p3, p4, ?_, ?_⟩
  · unfold gV
    rw [e5, hv]
  · unfold gL
    rw [e5, hv, gSkip_cons, if_pos rfl]
    exact lp_app L (32 :: t) hE (ends_cons (by decide)) (by simp [gHas]) (by simp [gHas])

end Go.Proofs.YtijdjplajhcilabDoor
