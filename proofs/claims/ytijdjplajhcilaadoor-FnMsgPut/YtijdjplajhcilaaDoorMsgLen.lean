/- DERIVED. How long a message is that was written, and that it is read. -/
import Derived.Test.YtijdjplajhcilaaDoorGetTrip
import Derived.Test.YtijdjplajhcilaaDoorGetImpl
namespace Go.Proofs.YtijdjplajhcilaaDoor

theorem dI_len {n : Int} (h1 : -1 ≤ n) (h2 : n ≤ 9999) : (dI n).length ≤ 4 := by
  by_cases h : n = -1
  · subst h; rw [dI_minus]; decide
  · obtain ⟨u, rfl⟩ : ∃ u : Nat, n = (u : Int) := ⟨n.toNat, by omega⟩
    rw [dI_nat]
    exact dec_len_le u 3 (by omega)

theorem vL_len : ∀ V : List Int, (∀ n ∈ V, -1 ≤ n ∧ n ≤ 127) → (vL V).length ≤ 5 * V.length
  | [], _ => Nat.le_refl _
  | [v], h => by
    have := h v (by simp)
    have := dI_len this.1 (by omega)
    simp [vL]; omega
  | v :: x :: t, h => by
    have h0 := h v (by simp)
    have h1 := dI_len h0.1 (by omega)
    have h2 := vL_len (x :: t) (fun n hn => h n (by simp at hn ⊢; exact Or.inr hn))
    simp [vL] at h2 ⊢; omega

theorem vP_len {V : List Int} (h3 : V.length ≤ 3) (h : ∀ n ∈ V, -1 ≤ n ∧ n ≤ 127) : (vP V).length ≤ 15 := by
  unfold vP
  split
  · simp
  · have := vL_len V h; omega

theorem eL_len {e : Ent} (h : entOk e = true) : (eL e).length ≤ 25 := by
  simp only [entOk, Bool.and_eq_true] at h
  obtain ⟨⟨⟨h1, h2⟩, h3⟩, _⟩ := h
  have r1 : 0 ≤ e.1 ∧ e.1 ≤ 11 := by simpa [inB] using h1
  have r2 : 1 ≤ e.2.1 ∧ e.2.1 ≤ 9999 := by simpa [inB] using h2
  have r3 := okV_all h3
  have a1 := dI_len (n := e.1) (by omega) (by omega)
  have a2 := dI_len (n := e.2.1) (by omega) (by omega)
  have a3 := vP_len r3.1 r3.2
  simp [eL]; omega

theorem lL_len : ∀ L : List Ent, (∀ e ∈ L, entOk e = true) → (lL L).length ≤ 26 * L.length
  | [], _ => Nat.le_refl _
  | [v], h => by
    have := eL_len (h v (by simp))
    simp [lL]; omega
  | v :: x :: t, h => by
    have h1 := eL_len (h v (by simp))
    have h2 := lL_len (x :: t) (fun n hn => h n (by simp at hn ⊢; exact Or.inr hn))
    simp [lL] at h2 ⊢; omega

variable {kd fr tt bl ins : Int} {V : List Int} {L : List Ent}

theorem putText_l (hok : msgOkP kd fr tt bl ins V L = true) : (putText kd fr tt bl ins V L).data.toList = mL kd fr tt bl ins V L (32 :: Lib.decDigits (crcP (msgT kd fr tt bl ins V L))) := by
  unfold putText putMsg
  rw [if_pos hok, ← msgT_mL, ← dI_nat]
  simp [dI]

theorem putText_len (hok : msgOkP kd fr tt bl ins V L = true) (hl : L.length ≤ 6) : (putText kd fr tt bl ins V L).size ≤ 400 := by
  have e := putText_l hok
  have hs : (putText kd fr tt bl ins V L).size = (putText kd fr tt bl ins V L).data.toList.length := by simp
  rw [hs, e]
  simp only [msgOkP, Bool.and_eq_true] at hok
  obtain ⟨⟨⟨⟨⟨⟨g1, g2⟩, g3⟩, g4⟩, g5⟩, g6⟩, g7⟩ := hok
  have r1 : 1 ≤ kd ∧ kd ≤ 9 := by simpa [inB] using g1
  have r2 := party_range g2
  have r3 := party_range g3
  have r4 : 0 ≤ bl ∧ bl ≤ 9999 := by simpa [inB] using g4
  have r5 : 0 ≤ ins ∧ ins ≤ 12 := by simpa [inB] using g5
  have r6 := okV_all g6
  have r8 := okTo_each L L.length g7
  have hE : ∀ e ∈ L, entOk e = true := by
    intro e he
    obtain ⟨i, hi, rfl⟩ := List.getElem_of_mem he
    have := r8 i hi
    rw [List.getD_eq_getElem?_getD, List.getElem?_eq_getElem hi] at this
    exact this
  have a1 := dI_len (n := kd) (by omega) (by omega)
  have a2 := dI_len (n := fr) (by omega) (by omega)
  have a3 := dI_len (n := tt) (by omega) (by omega)
  have a4 := dI_len (n := bl) (by omega) (by omega)
  have a5 := dI_len (n := ins) (by omega) (by omega)
  have a6 := vP_len r6.1 r6.2
  have a7 : (lP L).length ≤ 157 := by
    unfold lP
    split
    · simp
    · have := lL_len L hE; omega
  have a8 := dec_len_le (crcP (msgT kd fr tt bl ins V L)) 9 (by have := crcP_lt (msgT kd fr tt bl ins V L); omega)
  simp [mL]
  omega

theorem putText_ne (hok : msgOkP kd fr tt bl ins V L = true) : putText kd fr tt bl ins V L ≠ (⟨#[]⟩ : ByteArray) := by
  intro h
  have e := putText_l hok
  rw [h] at e
  have := congrArg List.length e
  simp [mL] at this

theorem put_okay (hok : msgOkP kd fr tt bl ins V L = true) (hl : L.length ≤ 6) : gOkay (putText kd fr tt bl ins V L) = true := by
  have e := putText_l hok
  obtain ⟨p0, p1, p2, p3, p4, p5, p6⟩ := read_back hok (Lib.decDigits (crcP (msgT kd fr tt bl ins V L)))
  unfold gOkay
  rw [e, p0, p1, p2, p3, p4, p5, p6, hok, decide_eq_true (putText_len hok hl)]
  simp

end Go.Proofs.YtijdjplajhcilaaDoor
