/- DERIVED. Patterns: what a star stands for, and the walk with two fingers, over lists of bytes: nothing of the program. -/
import Derived.WalkKit
namespace Go.Proofs.YtkcmcbkhkabhdaaDoor

/-- A text is as a pattern says: a star (byte 42) stands for any text, all else for itself. -/
def Mt : List UInt8 → List UInt8 → Prop
  | [], s => s = []
  | c :: p, s => if c = 42 then ∃ k, Mt p (s.drop k) else ∃ t, s = c :: t ∧ Mt p t

theorem mt_nil (s : List UInt8) : Mt [] s ↔ s = [] := Iff.rfl
theorem mt_star (p s : List UInt8) : Mt (42 :: p) s ↔ ∃ k, Mt p (s.drop k) := by simp [Mt]
theorem mt_lit (c : UInt8) (p s : List UInt8) (h : c ≠ 42) : Mt (c :: p) s ↔ ∃ t, s = c :: t ∧ Mt p t := by simp [Mt, h]

theorem mt_same (c : UInt8) (p t : List UInt8) (h : c ≠ 42) : Mt (c :: p) (c :: t) ↔ Mt p t := by
  rw [mt_lit c p _ h]
  constructor
  · rintro ⟨t', e, m⟩; injection e with _ e; subst e; exact m
  · exact fun m => ⟨t, rfl, m⟩

/-- A part of the pattern without stars stands for itself. -/
theorem mt_plain (A R T : List UInt8) (h : ∀ a ∈ A, a ≠ 42) : Mt (A ++ R) T ↔ ∃ T', T = A ++ T' ∧ Mt R T' := by
  induction A generalizing T with
  | nil => simp
  | cons a A ih =>
    rw [List.cons_append, mt_lit a _ _ (h a (by simp))]
    constructor
    · rintro ⟨t, rfl, m⟩
      obtain ⟨T', rfl, m'⟩ := (ih t (fun b hb => h b (by simp [hb]))).1 m
      exact ⟨T', rfl, m'⟩
    · rintro ⟨T', rfl, m⟩
      exact ⟨A ++ T', rfl, (ih _ (fun b hb => h b (by simp [hb]))).2 ⟨T', rfl, m⟩⟩

theorem mt_end (p : List UInt8) : Mt p [] ↔ ∀ a ∈ p, a = 42 := by
  induction p with
  | nil => simp [Mt]
  | cons a p ih =>
    by_cases h : a = 42
    · subst h
      rw [mt_star]
      simp [ih]
    · rw [mt_lit a p [] h]
      constructor
      · rintro ⟨t, e, _⟩; simp at e
      · intro hh; exact absurd (hh a (by simp)) h

/-- Where the fingers stand: P the pattern, S the text; p, i the fingers; the last star, if there is one, and from where it ends. -/
def At (P S : List UInt8) (p i : Nat) (star : Option Nat) (frm : Nat) : Prop :=
  p ≤ P.length ∧ i ≤ S.length ∧ frm ≤ i ∧
  match star with
  | none => frm = 0 ∧ (Mt P S ↔ Mt (P.drop p) (S.drop i))
  | some st => st < p ∧ (∃ A : List UInt8, (∀ a ∈ A, a ≠ 42) ∧ P.drop (st + 1) = A ++ P.drop p ∧ S.drop frm = A ++ S.drop i) ∧ (Mt P S ↔ ∃ j, frm ≤ j ∧ Mt (P.drop (st + 1)) (S.drop j))

theorem at_start (P S : List UInt8) : At P S 0 0 none 0 := ⟨Nat.zero_le _, Nat.zero_le _, Nat.le_refl _, rfl, by simp⟩

theorem at_len {S A : List UInt8} {i frm : Nat} (hi : i ≤ S.length) (hf : frm ≤ i) (h : S.drop frm = A ++ S.drop i) : i = frm + A.length := by
  have := congrArg List.length h
  simp at this
  omega

theorem at_star {P S : List UInt8} {p i frm : Nat} {star : Option Nat} (h : At P S p i star frm) (hp : P[p]? = some 42) : At P S (p + 1) i (some p) i := by
  obtain ⟨h1, h2, h3, h4⟩ := h
  have hlt : p < P.length := by
    rcases Nat.lt_or_ge p P.length with h | h
    · exact h
    · rw [List.getElem?_eq_none h] at hp; simp at hp
  have hd : P.drop p = 42 :: P.drop (p + 1) := by
    rw [List.drop_eq_getElem_cons hlt]
    rw [List.getElem?_eq_getElem hlt] at hp
    injection hp with hp
    rw [hp]
  refine ⟨by omega, h2, Nat.le_refl _, by omega, ⟨[], by simp, rfl, rfl⟩, ?_⟩
  cases star with
  | none =>
    obtain ⟨_, h5⟩ := h4
    rw [h5, hd, mt_star]
    constructor
    · rintro ⟨k, m⟩
      exact ⟨i + k, by omega, by rw [List.drop_drop] at m; exact m⟩
    · rintro ⟨j, hj, m⟩
      exact ⟨j - i, by rw [List.drop_drop, show i + (j - i) = j by omega]; exact m⟩
  | some st =>
    obtain ⟨_, ⟨A, hA, e1, e2⟩, h5⟩ := h4
    have hlen := at_len h2 h3 e2
    rw [h5, e1, hd]
    constructor
    · rintro ⟨j, hj, m⟩
      obtain ⟨T', e3, m2⟩ := (mt_plain A _ _ hA).1 m
      obtain ⟨k, m3⟩ := (mt_star _ _).1 m2
      have e4 : T' = S.drop (j + A.length) := by
        rw [← List.drop_drop, e3]; simp
      refine ⟨j + A.length + k, by omega, ?_⟩
      rw [e4, List.drop_drop] at m3
      exact m3
    · rintro ⟨j, hj, m⟩
      refine ⟨frm, Nat.le_refl _, (mt_plain A _ _ hA).2 ⟨S.drop i, e2, (mt_star _ _).2 ⟨j - i, ?_⟩⟩⟩
      rw [List.drop_drop, show i + (j - i) = j by omega]
      exact m

theorem at_same {P S : List UInt8} {p i frm : Nat} {star : Option Nat} {c : UInt8} (h : At P S p i star frm) (hp : P[p]? = some c) (hs : S[i]? = some c) (hc : c ≠ 42) : At P S (p + 1) (i + 1) star frm := by
  obtain ⟨h1, h2, h3, h4⟩ := h
  have hlt : p < P.length := by
    rcases Nat.lt_or_ge p P.length with h | h
    · exact h
    · rw [List.getElem?_eq_none h] at hp; simp at hp
  have hli : i < S.length := by
    rcases Nat.lt_or_ge i S.length with h | h
    · exact h
    · rw [List.getElem?_eq_none h] at hs; simp at hs
  have hd : P.drop p = c :: P.drop (p + 1) := by
    rw [List.drop_eq_getElem_cons hlt]
    rw [List.getElem?_eq_getElem hlt] at hp
    injection hp with hp
    rw [hp]
  have he : S.drop i = c :: S.drop (i + 1) := by
    rw [List.drop_eq_getElem_cons hli]
    rw [List.getElem?_eq_getElem hli] at hs
    injection hs with hs
    rw [hs]
  refine ⟨by omega, by omega, by omega, ?_⟩
  cases star with
  | none =>
    obtain ⟨h0, h5⟩ := h4
    exact ⟨h0, by rw [h5, hd, he, mt_same c _ _ hc]⟩
  | some st =>
    obtain ⟨h0, ⟨A, hA, e1, e2⟩, h5⟩ := h4
    refine ⟨by omega, ⟨A ++ [c], ?_, ?_, ?_⟩, h5⟩
    · intro a ha
      simp at ha
      rcases ha with ha | ha
      · exact hA a ha
      · rw [ha]; exact hc
    · rw [e1, hd]; simp
    · rw [e2, he]; simp

/-- The fingers part: the pattern is at its end, or stands at another byte, which is no star. -/
theorem mt_part {P S : List UInt8} {p i : Nat} (hi : i < S.length) (hp : ∀ c, P[p]? = some c → c ≠ 42 ∧ S[i]? ≠ some c) : ¬ Mt (P.drop p) (S.drop i) := by
  have he : S.drop i = S[i] :: S.drop (i + 1) := List.drop_eq_getElem_cons hi
  rcases Nat.lt_or_ge p P.length with h | h
  · obtain ⟨h1, h2⟩ := hp _ (List.getElem?_eq_getElem h)
    rw [List.drop_eq_getElem_cons h, mt_lit _ _ _ h1, he]
    rintro ⟨t, e, _⟩
    injection e with e _
    exact h2 (by rw [List.getElem?_eq_getElem hi, e])
  · clear hp
    rw [List.drop_of_length_le h, mt_nil, he]
    exact List.cons_ne_nil _ _

theorem at_back {P S : List UInt8} {p i frm st : Nat} (h : At P S p i (some st) frm) (hi : i < S.length) (hp : ∀ c, P[p]? = some c → c ≠ 42 ∧ S[i]? ≠ some c) : At P S (st + 1) (frm + 1) (some st) (frm + 1) := by
  obtain ⟨h1, h2, h3, h0, ⟨A, hA, e1, e2⟩, h5⟩ := h
  refine ⟨by omega, by omega, Nat.le_refl _, by omega, ⟨[], by simp, rfl, rfl⟩, ?_⟩
  rw [h5]
  constructor
  · rintro ⟨j, hj, m⟩
    rcases Nat.lt_or_ge frm j with h | h
    · exact ⟨j, h, m⟩
    · exfalso
      have : j = frm := by omega
      subst this
      rw [e1, e2] at m
      obtain ⟨T', e3, m2⟩ := (mt_plain A _ _ hA).1 m
      have := List.append_cancel_left e3
      rw [← this] at m2
      exact mt_part hi hp m2
  · rintro ⟨j, hj, m⟩
    exact ⟨j, by omega, m⟩

theorem at_no {P S : List UInt8} {p i frm : Nat} (h : At P S p i none frm) (hi : i < S.length) (hp : ∀ c, P[p]? = some c → c ≠ 42 ∧ S[i]? ≠ some c) : ¬ Mt P S := by
  obtain ⟨h1, h2, h3, h0, h5⟩ := h
  rw [h5]
  exact mt_part hi hp

theorem at_end {P S : List UInt8} {p i frm : Nat} {star : Option Nat} (h : At P S p i star frm) (hi : ¬ i < S.length) : Mt P S ↔ ∀ a ∈ P.drop p, a = 42 := by
  obtain ⟨h1, h2, h3, h4⟩ := h
  have he : S.drop i = [] := List.drop_of_length_le (by omega)
  cases star with
  | none =>
    obtain ⟨_, h5⟩ := h4
    rw [h5, he, mt_end]
  | some st =>
    obtain ⟨_, ⟨A, hA, e1, e2⟩, h5⟩ := h4
    rw [he, List.append_nil] at e2
    rw [h5, ← mt_end, e1]
    constructor
    · rintro ⟨j, hj, m⟩
      obtain ⟨T', e3, m2⟩ := (mt_plain A _ _ hA).1 m
      have l3 := congrArg List.length e3
      have l2 := congrArg List.length e2
      simp at l3 l2
      have : T' = [] := List.length_eq_zero_iff.mp (by omega)
      rw [this] at m2
      exact m2
    · intro m
      exact ⟨frm, Nat.le_refl _, (mt_plain A _ _ hA).2 ⟨[], by rw [e2]; simp, m⟩⟩

/-- How much is left to do. -/
def pleft (P S : Nat) (p : Nat) (star : Int) (frm : Nat) : Nat := ((P - (star + 1).toNat) * (S + 1) + (S - frm)) * (P + 1) + (P - p)

theorem left_star {P S p i frm : Nat} {star : Int} (h0 : -1 ≤ star) (h : star < p) (hp : p < P) (hi : i ≤ S) : pleft P S (p + 1) p i < pleft P S p star frm := by
  unfold pleft
  have e1 : ((p : Int) + 1).toNat = p + 1 := by omega
  rw [e1]
  obtain ⟨x, hx⟩ : ∃ x, (star + 1).toNat = x := ⟨_, rfl⟩
  rw [hx]
  have hxp : x ≤ p := by omega
  have a1 : (P - (p + 1) + 1) * (S + 1) ≤ (P - x) * (S + 1) := Nat.mul_le_mul_right _ (by omega)
  have a2 : (P - (p + 1)) * (S + 1) + (S + 1) ≤ (P - x) * (S + 1) := by rw [Nat.add_mul, Nat.one_mul] at a1; exact a1
  have a3 : ((P - (p + 1)) * (S + 1) + (S - i) + 1) * (P + 1) ≤ ((P - x) * (S + 1) + (S - frm)) * (P + 1) := Nat.mul_le_mul_right _ (by omega)
  rw [Nat.add_mul _ 1, Nat.one_mul] at a3
  omega

theorem left_same {P S p frm : Nat} {star : Int} (hp : p < P) : pleft P S (p + 1) star frm < pleft P S p star frm := by
  unfold pleft; omega

theorem left_back {P S p p' frm : Nat} {star : Int} (hp : p ≤ P) (hf : frm < S) : pleft P S p' star (frm + 1) < pleft P S p star frm := by
  unfold pleft
  have a3 : ((P - (star + 1).toNat) * (S + 1) + (S - (frm + 1)) + 1) * (P + 1) ≤ ((P - (star + 1).toNat) * (S + 1) + (S - frm)) * (P + 1) := Nat.mul_le_mul_right _ (by omega)
  rw [Nat.add_mul _ 1, Nat.one_mul] at a3
  omega

theorem mtB_ex (P S : List UInt8) : ∃ b : Bool, b = true ↔ Mt P S := by
  rcases Classical.em (Mt P S) with h | h
  · exact ⟨true, by simp [h]⟩
  · exact ⟨false, by simp [h]⟩

end Go.Proofs.YtkcmcbkhkabhdaaDoor
