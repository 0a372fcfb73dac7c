/- DERIVED. Plain: the parts of a list that was read; a row of numbers as a stack. -/
import Derived.Test.YtaabcbpbijkmnabParRead
namespace Go.Proofs.Ytaabcbpbijkmnab
open Go.RowKit

/-- A part that can be run: a number within bounds, a name, or a sign. -/
def goodOp (x : Op3) : Prop := (x.1 = 0 ∧ -999999 ≤ x.2.1 ∧ x.2.1 ≤ 999999) ∨ x.1 = 110 ∨ x.1 = 126 ∨ signB true x.1 = true ∨ signB false x.1 = true

def GoodM (mp : Nat → MRes) : Prop := ∀ p o q, mp p = some (o, q) → ∀ x ∈ o, goodOp x

theorem gm_num (s : ByteArray) : GoodM (numM s) := by
  intro p o q h x hx
  unfold numM at h
  split at h
  · rename_i hn
    injection h with h
    injection h with h1 h2
    subst h1
    simp at hx
    subst hx
    have := numOf_yes _ hn
    unfold numOf at this
    rw [if_pos hn] at this
    exact Or.inl ⟨rfl, by show -999999 ≤ numVal _; omega, this.2⟩
  · cases h

theorem gm_name (s : ByteArray) : GoodM (nameM s) := by
  intro p o q h x hx
  unfold nameM at h
  split at h
  · split at h
    · injection h with h
      injection h with h1 h2
      subst h1
      simp at hx
      subst hx
      exact Or.inr (Or.inl rfl)
    · cases h
  · cases h

theorem gm_prim (s : ByteArray) {mi : Nat → MRes} (hi : GoodM mi) : GoodM (primM s mi) := by
  intro p o q h x hx
  unfold primM at h
  split at h
  · split at h
    · exact hi _ _ _ h x hx
    · split at h
      · exact gm_num s _ _ _ h x hx
      · exact gm_name s _ _ _ h x hx
  · cases h

theorem gm_unary (s : ByteArray) {mi : Nat → MRes} (hi : GoodM mi) : GoodM (unaryM s mi) := by
  intro p o q h x hx
  unfold unaryM at h
  cases hm : primM s mi (minusM s (s.size + 1) 0 p).2 with
  | none => rw [hm] at h; cases h
  | some y =>
    obtain ⟨o1, q1⟩ := y
    rw [hm] at h
    injection h with h
    injection h with h1 h2
    subst h1
    rcases List.mem_append.1 hx with hx | hx
    · exact gm_prim s hi _ _ _ hm x hx
    · have := List.eq_of_mem_replicate hx
      subst this
      exact Or.inr (Or.inr (Or.inl rfl))

theorem gm_loopM (s : ByteArray) (t : Bool) {mp : Nat → MRes} (hp : GoodM mp) (n : Nat) : ∀ (ol o : List Op3) (q q2 : Nat), (∀ x ∈ ol, goodOp x) → loopM s t mp n ol q = some (o, q2) → ∀ x ∈ o, goodOp x := by
  induction n with
  | zero => intro ol o q q2 _ h; cases h
  | succ n ih =>
    intro ol o q q2 hol h
    cases hsg : (signP s t q).1 with
    | none =>
      rw [loop_end hsg] at h
      injection h with h
      injection h with h1 h2
      subst h1
      exact hol
    | some c =>
      have h' := (loop_next (mp := mp) (g := n) (ol := ol) hsg).symm.trans h
      cases hm : mp (skipP s q + 1) with
      | none => rw [hm] at h'; cases h'
      | some y =>
        obtain ⟨o1, q3⟩ := y
        rw [hm] at h'
        refine ih _ _ _ _ ?_ h'
        intro x hx
        rcases List.mem_append.1 hx with hx | hx
        · exact hol x hx
        · rcases List.mem_append.1 hx with hx | hx
          · exact hp _ _ _ hm x hx
          · simp at hx
            subst hx
            have := sign_is hsg
            cases t
            · exact Or.inr (Or.inr (Or.inr (Or.inr this)))
            · exact Or.inr (Or.inr (Or.inr (Or.inl this)))

theorem gm_row (s : ByteArray) (t : Bool) {mp : Nat → MRes} (hp : GoodM mp) : GoodM (rowM s t mp) := by
  intro p o q h
  unfold rowM at h
  cases hm : mp p with
  | none => rw [hm] at h; cases h
  | some y =>
    obtain ⟨o1, q1⟩ := y
    rw [hm] at h
    exact gm_loopM s t hp _ _ _ _ _ (hp _ _ _ hm) h

theorem gm_sum (s : ByteArray) {mi : Nat → MRes} (hi : GoodM mi) : GoodM (sumM s mi) := gm_row s false (gm_row s true (gm_unary s hi))

theorem gm_inner (s : ByteArray) (n : Nat) : GoodM (innerM s n) := by
  induction n with
  | zero => intro p o q h; cases h
  | succ n ih =>
    intro p o q h
    rw [innerM] at h
    cases hm : sumM s (innerM s n) p with
    | none => rw [hm] at h; cases h
    | some y =>
      obtain ⟨o1, q1⟩ := y
      rw [hm] at h
      dsimp only at h
      split at h
      · injection h with h
        injection h with h1 h2
        subst h1
        exact gm_sum s ih _ _ _ hm
      · cases h

theorem gm_read (s : ByteArray) (o : List Op3) (h : readM s = some o) : ∀ x ∈ o, goodOp x := by
  unfold readM at h
  split at h
  · cases h
  · cases hm : sumM s (innerM s 6) 0 with
    | none => rw [hm] at h; cases h
    | some y =>
      obtain ⟨o1, q1⟩ := y
      rw [hm] at h
      dsimp only at h
      split at h
      · injection h with h
        subst h
        exact gm_sum s (gm_inner s 6) _ _ _ hm
      · cases h

theorem row_set1 {w : World} {base : Nat} {e : TypeId} {g n cap : Nat} {xs : List Value} (h : w.ownsRow base e 1 (.slice (some ⟨g, 0, none⟩) n cap) n xs) (j : Nat) (v : Value) : (w.setCell ⟨g, j, none⟩ v).ownsRow base e 1 (.slice (some ⟨g, 0, none⟩) n cap) n (xs.set j v) := by
  obtain ⟨h1, h2⟩ := h
  refine ⟨by rw [List.length_set]; exact h1, ?_⟩
  rcases h2 with ⟨h0, _⟩ | ⟨g', cap', cur, hv, hg, hh, hn, hcap, hsz, htake⟩
  · cases h0
  · cases hv
    refine Or.inr ⟨g, cap, cur.setIfInBounds j v, rfl, hg, heap_setCell_same w g j cur e v hh, hn, hcap, by rw [Array.size_setIfInBounds]; exact hsz, ?_⟩
    rw [Array.toList_setIfInBounds, List.take_set, htake]

theorem row_pop1 {w : World} {base : Nat} {e : TypeId} {g n cap : Nat} {xs : List Value} (h : w.ownsRow base e 1 (.slice (some ⟨g, 0, none⟩) n cap) n xs) (m : Nat) (hm : m ≤ n) : w.ownsRow base e 1 (.slice (some ⟨g, 0, none⟩) m cap) m (xs.take m) := by
  obtain ⟨h1, h2⟩ := h
  refine ⟨by rw [List.length_take]; omega, ?_⟩
  rcases h2 with ⟨h0, _⟩ | ⟨g', cap', cur, hv, hg, hh, hn, hcap, hsz, htake⟩
  · cases h0
  · cases hv
    refine Or.inr ⟨g, cap, cur, rfl, hg, hh, by omega, hcap, hsz, ?_⟩
    rw [← htake, List.take_take, Nat.min_eq_left (by omega)]
    congr 1
    omega

theorem ocells_get (o : List Op3) (i : Nat) (hi : i < o.length) : (ocells o)[i * 3]? = some (.int .u8 (o[i].1.toNat : Int)) ∧ (ocells o)[i * 3 + 1]? = some (.int .i64 o[i].2.1) ∧ (ocells o)[i * 3 + 2]? = some (.string o[i].2.2) := by
  induction o generalizing i with
  | nil => simp at hi
  | cons x t ih =>
    cases i with
    | zero => exact ⟨rfl, rfl, rfl⟩
    | succ i =>
      have := ih i (by simpa using hi)
      rw [show (i + 1) * 3 = i * 3 + 3 by omega, show i * 3 + 3 + 1 = (i * 3 + 1) + 3 by omega, show i * 3 + 3 + 2 = (i * 3 + 2) + 3 by omega]
      exact this

end Go.Proofs.Ytaabcbpbijkmnab
