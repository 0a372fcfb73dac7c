/- DERIVED. Plain: what a sum comes to, of a text without capital letters: within bounds, or a reason. -/
import Derived.Test.YtaabcbpbijkmnabParPlain2
namespace Go.Proofs.Ytaabcbpbijkmnab

theorem all_bd (rk : Bool) (V : Vs) (s : ByteArray) : (∀ v, allP rk V s = .ok v → -999999 ≤ v ∧ v ≤ 999999) ∧ ∀ e, allP rk V s = .error e → 1 ≤ e ∧ e ≤ 4 := by
  obtain ⟨g1, g2⟩ := good_sum rk V s _ (good_inner rk V s 6) 0 (Nat.zero_le _)
  unfold allP
  by_cases h60 : 60 < s.size
  · rw [if_pos h60]
    exact ⟨fun v h => (by cases h), fun e h => by injection h with h; omega⟩
  · rw [if_neg h60]
    cases hz : sumOfP rk V s (innerP rk V s 6) 0 with
    | error c => exact ⟨fun v h => (by cases h), fun e h => by injection h with h; have := g2 c hz; omega⟩
    | ok x =>
      obtain ⟨v, q⟩ := x
      have hv := g1 v q hz
      dsimp only
      by_cases hq : q < s.size
      · rw [if_pos hq]
        exact ⟨fun v h => (by cases h), fun e h => by injection h with h; omega⟩
      · rw [if_neg hq]
        exact ⟨fun v' h => by injection h with h; omega, fun e h => (by cases h)⟩

theorem read_some2 (V : Vs) (s : ByteArray) (hcap : NoCap s) (o : List Op3) (h : readM s = some o) : mathOkP s = true ∧ ((∃ v, allP true V s = .ok v ∧ ∀ st, execV V o st = .ok (v :: st)) ∨ ∃ e, allP true V s = .error e ∧ ∀ st, execV V o st = .error e) := by
  refine ⟨(read_some V s hcap o h).1, ?_⟩
  have hf := sum_fits V s hcap _ _ _ (inner_fits V s hcap 6) 0 (Nat.zero_le _)
  unfold readM at h
  by_cases h60 : 60 < s.size
  · rw [if_pos h60] at h; cases h
  · rw [if_neg h60] at h
    cases hm : sumM s (innerM s 6) 0 with
    | none => rw [hm] at h; cases h
    | some y =>
      obtain ⟨o', q⟩ := y
      rw [hm] at hf h
      dsimp only at h
      by_cases hq : q = s.size
      · rw [if_pos hq] at h
        injection h with h
        subst h
        obtain ⟨k1, k2, k3, k4⟩ := hf
        have hst : stuck s q = false := by unfold stuck; rw [atP_none s q (by omega)]
        obtain ⟨_, ev⟩ := k4 hst
        unfold allP
        rw [if_neg h60]
        rcases ev with ⟨v, gt, gx⟩ | ⟨e, gt, gx⟩
        · rw [gt]; dsimp only; rw [if_neg (by omega)]; exact Or.inl ⟨v, rfl, gx⟩
        · rw [gt]; exact Or.inr ⟨e, rfl, gx⟩
      · rw [if_neg hq] at h; cases h

theorem join_err {c : UInt8} {a b e : Int} (h : joinP true c a b = .error e) : e = 2 ∨ e = 3 := by
  unfold joinP at h
  rw [if_neg (by decide)] at h
  split at h
  · injection h with h; exact Or.inl h.symm
  · split at h
    · injection h with h; exact Or.inr h.symm
    · cases h

theorem valQ_err {t : ByteArray} {e : Int} (h : valQ t = .error e) : e = 4 := by
  unfold valQ at h
  split at h
  · cases h
  · split at h
    · cases h
    · injection h with h; exact h.symm

theorem step_err {V : Vs} {o : Op3} {st : List Int} {e : Int} (h : stepV V o st = .error e) : e = 0 ∨ e = 2 ∨ e = 3 ∨ e = 4 := by
  unfold stepV at h
  split at h
  · cases h
  · split at h
    · cases hv : valQ (textV V o.2.2) with
      | ok x => rw [hv] at h; cases h
      | error e' => rw [hv] at h; injection h with h; have := valQ_err hv; omega
    · split at h
      · split at h
        · cases h
        · injection h with h; omega
      · split at h
        · rename_i b a r
          cases hj : joinP true o.1 a b with
          | ok z => rw [hj] at h; cases h
          | error e' => rw [hj] at h; injection h with h; have := join_err hj; omega
        · injection h with h; omega

theorem exec_err {V : Vs} (o : List Op3) : ∀ (st : List Int) (e : Int), execV V o st = .error e → e = 0 ∨ e = 2 ∨ e = 3 ∨ e = 4 := by
  induction o with
  | nil => intro st e h; cases h
  | cons x t ih =>
    intro st e h
    rw [execV] at h
    cases hs : stepV V x st with
    | ok st' => rw [hs] at h; exact ih st' e h
    | error e' => rw [hs] at h; injection h with h; have := step_err hs; omega

/-- What a sum comes to. -/
def SumIs (ok : Bool) (x y : Int) : Prop := (ok = false ∧ x = 0 ∧ y = 1) ∨ (ok = true ∧ -999999 ≤ x ∧ x ≤ 999999 ∧ y = 0) ∨ (ok = true ∧ x = 0 ∧ (y = 2 ∨ y = 3 ∨ y = 4))

theorem run_is (V : Vs) (s : ByteArray) (hcap : NoCap s) : SumIs (mathOkP s) (mathRunP s V).1 (mathRunP s V).2 := by
  unfold mathRunP
  cases hm : readM s with
  | none =>
    have := read_none s hcap hm
    rw [this, if_neg (by decide)]
    exact Or.inl ⟨rfl, rfl, rfl⟩
  | some o =>
    obtain ⟨h1, h2⟩ := read_some2 V s hcap o hm
    rw [h1, if_pos rfl]
    unfold tryP
    rcases h2 with ⟨v, hv, _⟩ | ⟨e, he, hx⟩
    · have := (all_bd true V s).1 v hv
      rw [hv]
      exact Or.inr (Or.inl ⟨rfl, this.1, this.2, rfl⟩)
    · have h3 := (all_bd true V s).2 e he
      have h4 := exec_err o [] e (hx [])
      rw [he]
      exact Or.inr (Or.inr ⟨rfl, rfl, by show e = 2 ∨ e = 3 ∨ e = 4; omega⟩)

end Go.Proofs.Ytaabcbpbijkmnab
