/- DERIVED. What the model reads of a message that was written: plain. What the model reads of entries that were written: plain. -/
import Derived.Test.YtcielnlhopjijaaDoorSpecVotesR
import Derived.Test.YtcielnlhopjijaaDoorGetTrip
import Derived.Test.YtcielnlhopjijaaDoorSpecListR
namespace Go.Proofs.YtcielnlhopjijaaDoor

theorem cutL_cur (b : UInt8) : ∀ (t : List UInt8) (m : Nat) (cur : List UInt8), (∀ c ∈ t, c ≠ b) → cutL b m cur t = [cur ++ t] := fun t m cur h => cut_none b m cur t h

theorem numOf_dI {n : Int} (h0 : 0 ≤ n) (h1 : n ≤ 999999) : numOf (dI n) = n := by
  obtain ⟨u, rfl⟩ : ∃ u : Nat, n = (u : Int) := ⟨n.toNat, by omega⟩
  rw [dI_nat, numOf_dec u (by omega)]

theorem dI_pos_ne {n : Int} (h0 : 0 ≤ n) : dI n ≠ [45, 49] := by
  obtain ⟨u, rfl⟩ : ∃ u : Nat, n = (u : Int) := ⟨n.toNat, by omega⟩
  rw [dI_nat]
  intro h
  have := List.all_eq_true.1 (figAll_dec u) 45 (by rw [h]; simp)
  exact absurd this (by decide)

theorem mNum_dI {n : Int} (h0 : -1 ≤ n) (h1 : n ≤ 127) : mNum (dI n) = n := by
  unfold mNum
  by_cases h : n = -1
  · subst h
    rw [dI_minus, if_neg (by simp)]
    decide
  · rw [numOf_dI (by omega) (by omega), if_neg (by omega)]

theorem dI_clean (n : Int) (b : UInt8) (h1 : b ≠ 45) (h2 : b.toNat < 48 ∨ 57 < b.toNat) : ∀ c ∈ dI n, c ≠ b := by
  intro c hc e
  subst e
  have hd : ∀ u, c ∈ Lib.decDigits u → False := fun u hu => by
    have h3 := List.all_eq_true.1 (figAll_dec u) c hu
    revert h3
    have : ∀ b : UInt8, (b.toNat < 48 ∨ 57 < b.toNat) → figB (b.toNat : Int) = true → False := by
      intro b hb h
      simp [figB] at h
      omega
    exact this c h2
  unfold dI decI at hc
  split at hc
  · simp [decS] at hc
    rcases hc with rfl | hc
    · exact h1 rfl
    · exact hd _ hc
  · simp [decS] at hc
    exact hd _ hc

theorem cut_vL : ∀ (V : List Int) (m : Nat), V ≠ [] → V.length ≤ m + 1 → cutL 44 m [] (vL V) = V.map dI
  | [], _, h, _ => absurd rfl h
  | [v], m, _, _ => by
    rw [vL, cut_none 44 m [] (dI v) (dI_clean v 44 (by decide) (by decide))]
    rfl
  | v :: x :: t, m, _, hm => by
    obtain ⟨k, rfl⟩ : ∃ k, m = k + 1 := ⟨m - 1, by simp at hm; omega⟩
    rw [vL, cut_at 44 k [] (dI v) _ (dI_clean v 44 (by decide) (by decide)), cut_vL (x :: t) k (by simp) (by simp at hm ⊢; omega)]
    rfl

theorem vL_first {V : List Int} (h : V ≠ []) (hr : ∀ n ∈ V, -1 ≤ n ∧ n ≤ 127) : vL V ≠ [45] := by
  intro e
  cases V with
  | nil => exact h rfl
  | cons v t =>
    have hv := hr v (by simp)
    have hlen : 1 ≤ (dI v).length := by
      by_cases hq : v = -1
      · subst hq; rw [dI_minus]; decide
      · obtain ⟨u, rfl⟩ : ∃ u : Nat, v = (u : Int) := ⟨v.toNat, by omega⟩
        rw [dI_nat]
        exact List.length_pos_iff.2 (dec_ne u)
    cases t with
    | nil =>
      rw [vL] at e
      by_cases hq : v = -1
      · subst hq; rw [dI_minus] at e; simp at e
      · obtain ⟨u, rfl⟩ : ∃ u : Nat, v = (u : Int) := ⟨v.toNat, by omega⟩
        rw [dI_nat] at e
        have := List.all_eq_true.1 (figAll_dec u) 45 (by rw [e]; simp)
        exact absurd this (by decide)
    | cons x r =>
      rw [vL] at e
      have := congrArg List.length e
      simp at this
      omega

theorem mVotes_vP {V : List Int} (h3 : V.length ≤ 3) (hr : ∀ n ∈ V, -1 ≤ n ∧ n ≤ 127) : mVotes (vP V) = V := by
  unfold mVotes vP
  by_cases h : V = []
  · subst h; rfl
  · rw [if_neg h, if_neg (vL_first h hr), cut_vL V 3 h (by omega), List.map_map]
    have : ∀ A : List Int, (∀ n ∈ A, -1 ≤ n ∧ n ≤ 127) → A.map (mNum ∘ dI) = A := by
      intro A hA
      induction A with
      | nil => rfl
      | cons a r ih =>
        have ha := hA a (by simp)
        simp [mNum_dI ha.1 ha.2, ih (fun n hn => hA n (by simp [hn]))]
    exact this V hr

end Go.Proofs.YtcielnlhopjijaaDoor

namespace Go.Proofs.YtcielnlhopjijaaDoor

theorem vL_clean (b : UInt8) (h1 : b ≠ 45) (h2 : b.toNat < 48 ∨ 57 < b.toNat) (h3 : b ≠ 44) : ∀ V : List Int, ∀ c ∈ vL V, c ≠ b
  | [], c, hc => by cases hc
  | [v], c, hc => dI_clean v b h1 h2 c hc
  | v :: x :: t, c, hc => by
    simp only [vL, List.mem_append, List.mem_cons] at hc
    rcases hc with hc | rfl | hc
    · exact dI_clean v b h1 h2 c hc
    · exact fun e => h3 e.symm
    · exact vL_clean b h1 h2 h3 (x :: t) c hc

theorem vP_clean (b : UInt8) (h1 : b ≠ 45) (h2 : b.toNat < 48 ∨ 57 < b.toNat) (h3 : b ≠ 44) (V : List Int) : ∀ c ∈ vP V, c ≠ b := by
  intro c hc
  unfold vP at hc
  split at hc
  · simp at hc; subst hc; exact fun e => h1 e.symm
  · exact vL_clean b h1 h2 h3 V c hc

theorem eL_clean59 (e : Ent) : ∀ c ∈ eL e, c ≠ 59 := by
  intro c hc
  simp only [eL, List.mem_append, List.mem_cons] at hc
  rcases hc with hc | rfl | hc | rfl | hc
  · exact dI_clean _ 59 (by decide) (by decide) c hc
  · decide
  · exact dI_clean _ 59 (by decide) (by decide) c hc
  · decide
  · exact vP_clean 59 (by decide) (by decide) (by decide) _ c hc

theorem cut_lL : ∀ (L : List Ent) (m : Nat), L ≠ [] → L.length ≤ m + 1 → cutL 59 m [] (lL L) = L.map eL
  | [], _, h, _ => absurd rfl h
  | [v], m, _, _ => by
    rw [lL, cut_none 59 m [] (eL v) (eL_clean59 v)]
    rfl
  | v :: x :: t, m, _, hm => by
    obtain ⟨k, rfl⟩ : ∃ k, m = k + 1 := ⟨m - 1, by simp at hm; omega⟩
    rw [lL, cut_at 59 k [] (eL v) _ (eL_clean59 v), cut_lL (x :: t) k (by simp) (by simp at hm ⊢; omega)]
    rfl

theorem mEnt_eL {e : Ent} (h : entOk e = true) : mEnt (eL e) = e := by
  simp only [entOk, Bool.and_eq_true] at h
  obtain ⟨⟨⟨h1, h2⟩, h3⟩, _⟩ := h
  have r1 : 0 ≤ e.1 ∧ e.1 ≤ 11 := by simpa [inB] using h1
  have r2 : 1 ≤ e.2.1 ∧ e.2.1 ≤ 9999 := by simpa [inB] using h2
  have r3 := okV_all h3
  have hc : cutL 58 2 [] (eL e) = [dI e.1, dI e.2.1, vP e.2.2] := by
    unfold eL
    rw [cut_at 58 1 [] (dI e.1) _ (dI_clean _ 58 (by decide) (by decide)), cut_at 58 0 [] (dI e.2.1) _ (dI_clean _ 58 (by decide) (by decide)), cut_zero]
    rfl
  unfold mEnt
  rw [hc, if_pos (show [dI e.1, dI e.2.1, vP e.2.2].length = 3 from rfl)]
  show (numOf (dI e.1), numOf (dI e.2.1), mVotes (vP e.2.2)) = e
  rw [numOf_dI (by omega) (by omega), numOf_dI (by omega) (by omega), mVotes_vP r3.1 r3.2]

theorem lL_first : ∀ {L : List Ent}, L ≠ [] → lL L ≠ [45]
  | [], h => absurd rfl h
  | [e], _ => by
    intro h
    have : (58 : UInt8) ∈ lL [e] := by rw [lL, eL]; simp
    rw [h] at this
    exact absurd this (by decide)
  | e :: x :: t, _ => by
    intro h
    have : (58 : UInt8) ∈ lL (e :: x :: t) := by rw [lL, eL]; simp
    rw [h] at this
    exact absurd this (by decide)

theorem mList_lP {L : List Ent} (h12 : L.length ≤ 12) (hr : ∀ e ∈ L, entOk e = true) : mList (lP L) = L := by
  unfold mList lP
  by_cases h : L = []
  · subst h; rfl
  · rw [if_neg h, if_neg (lL_first h), cut_lL L 12 h (by omega), List.map_map]
    have : ∀ A : List Ent, (∀ e ∈ A, entOk e = true) → A.map (mEnt ∘ eL) = A := by
      intro A hA
      induction A with
      | nil => rfl
      | cons a r ih =>
        simp [mEnt_eL (hA a (by simp)), ih (fun n hn => hA n (by simp [hn]))]
    exact this L hr

/-- The eight words of a message that was written. -/
theorem words_put {kd fr tt bl ins : Int} {V : List Int} {L : List Ent} (u : Nat) : cutL 32 8 [] (mL kd fr tt bl ins V L (32 :: Lib.decDigits u)) = [dI kd, dI fr, dI tt, dI bl, dI ins, vP V, lP L, Lib.decDigits u] := by
  have hl : ∀ c ∈ lP L, c ≠ 32 := by
    intro c hc
    unfold lP at hc
    split at hc
    · simp at hc; subst hc; decide
    · have : ∀ A : List Ent, ∀ c ∈ lL A, c ≠ 32 := by
        intro A
        induction A with
        | nil => intro c hc; cases hc
        | cons e t ih =>
          have he : ∀ c ∈ eL e, c ≠ 32 := by
            intro c hc
            simp only [eL, List.mem_append, List.mem_cons] at hc
            rcases hc with hc | rfl | hc | rfl | hc
            · exact dI_clean _ 32 (by decide) (by decide) c hc
            · decide
            · exact dI_clean _ 32 (by decide) (by decide) c hc
            · decide
            · exact vP_clean 32 (by decide) (by decide) (by decide) _ c hc
          cases t with
          | nil => intro c hc; exact he c hc
          | cons x r =>
            intro c hc
            simp only [lL, List.mem_append, List.mem_cons] at hc
            rcases hc with hc | rfl | hc
            · exact he c hc
            · decide
            · exact ih c hc
      exact this L c hc
  have hd : ∀ n : Int, ∀ c ∈ dI n, c ≠ 32 := fun n => dI_clean n 32 (by decide) (by decide)
  have hu : ∀ c ∈ Lib.decDigits u, c ≠ 32 := by rw [← dI_nat]; exact hd _
  unfold mL
  rw [cut_at 32 7 [] (dI kd) _ (hd _), cut_at 32 6 [] (dI fr) _ (hd _), cut_at 32 5 [] (dI tt) _ (hd _), cut_at 32 4 [] (dI bl) _ (hd _), cut_at 32 3 [] (dI ins) _ (hd _), cut_at 32 2 [] (vP V) _ (vP_clean 32 (by decide) (by decide) (by decide) V), cut_at 32 1 [] (lP L) _ hl, cut_none 32 1 [] _ hu]
  rfl

end Go.Proofs.YtcielnlhopjijaaDoor

