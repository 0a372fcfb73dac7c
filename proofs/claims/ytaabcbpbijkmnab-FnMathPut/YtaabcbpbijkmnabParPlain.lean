/- DERIVED. Plain: the model's reader of sums, which makes a list that is run, held against the reader with numbers. Nothing of the program. -/
import Derived.Test.YtaabcbpbijkmnabMathPlain
namespace Go.Proofs.Ytaabcbpbijkmnab

abbrev Op3 := UInt8 × Int × ByteArray
abbrev MRes := Option (List Op3 × Nat)

/-- The number that a text says; nothing says 0. -/
def valQ (t : ByteArray) : Except Int Int := if t.size = 0 then .ok 0 else match signedV t.data.toList with
  | some z => .ok z
  | none => .error 4

theorem named_valQ (V : Vs) (n : ByteArray) : namedP true V n = valQ (textV V n) := by
  unfold namedP valQ
  by_cases h : (textV V n).size = 0
  · rw [if_pos (Or.inr h), if_pos h]
  · rw [if_neg (fun c => by rcases c with c | c; cases c; exact h c), if_neg h]; rfl

/-- One part of a list is run: what lies on the stack. -/
def stepV (V : Vs) (o : Op3) (st : List Int) : Except Int (List Int) :=
  if o.1 = 0 then .ok (o.2.1 :: st) else
  if o.1 = 110 then (match valQ (textV V o.2.2) with
    | .ok x => .ok (x :: st)
    | .error e => .error e) else
  if o.1 = 126 then (match st with
    | a :: r => .ok (-a :: r)
    | [] => .error 0) else
  (match st with
    | b :: a :: r => (match joinP true o.1 a b with
      | .ok z => .ok (z :: r)
      | .error e => .error e)
    | _ => .error 0)

/-- A list is run. -/
def execV (V : Vs) : List Op3 → List Int → Except Int (List Int)
  | [], st => .ok st
  | o :: t, st => match stepV V o st with
    | .ok st' => execV V t st'
    | .error e => .error e

theorem exec_append (V : Vs) (A B : List Op3) (st : List Int) : execV V (A ++ B) st = match execV V A st with
    | .ok st' => execV V B st'
    | .error e => .error e := by
  induction A generalizing st with
  | nil => rfl
  | cons o t ih =>
    rw [List.cons_append, execV, execV]
    cases stepV V o st with
    | ok st' => exact ih st'
    | error e => rfl

theorem exec_single (V : Vs) (o : Op3) (st : List Int) : execV V [o] st = stepV V o st := by
  rw [execV]
  cases stepV V o st with
  | ok st' => rfl
  | error e => rfl

/-- What two readings say of a list: both come to the same. -/
def Ev (V : Vs) (ops : List Op3) (q : Nat) (t : Res) : Prop :=
  (∃ v, t = .ok (v, q) ∧ ∀ st, execV V ops st = .ok (v :: st)) ∨ ∃ e, t = .error e ∧ ∀ st, execV V ops st = .error e

/-- A byte of a name stands at a place: no sum goes on there. -/
def stuck (s : ByteArray) (q : Nat) : Bool := match atP s q with
  | some c => nameB (c.toNat : Int)
  | none => false

/-- The model's part of a sum, and the reader's: as a form, and as a number. -/
def Fits (V : Vs) (s : ByteArray) (p : Nat) (m : MRes) (f t : Res) : Prop := match m with
  | none => f = .error 1
  | some (ops, q) => p ≤ q ∧ q ≤ s.size ∧ (stuck s q = true → f = .error 1 ∨ ∃ z, f = .ok (z, q)) ∧ (stuck s q = false → (∃ z, f = .ok (z, q)) ∧ Ev V ops q t)

theorem stuck_skip {s : ByteArray} {q : Nat} (h : stuck s q = true) : skipP s q = q ∧ ∃ c, atP s q = some c ∧ nameB (c.toNat : Int) = true := by
  unfold stuck at h
  cases hc : atP s q with
  | none => rw [hc] at h; cases h
  | some c =>
    rw [hc] at h
    refine ⟨?_, c, rfl, h⟩
    rcases Nat.lt_or_ge q s.size with hl | hl
    · refine skipP_other s q hl ?_
      intro e
      rw [atP_some s q hl, e] at hc
      injection hc with hc
      subst hc
      exact absurd h (by decide)
    · exact skipP_end s q hl

theorem name_not_sign {c : UInt8} (h : nameB (c.toNat : Int) = true) (t : Bool) : signB t c = false := by
  cases t
  · unfold signB
    rw [if_neg (by decide)]
    by_cases h1 : c = 43
    · subst h1; exact absurd h (by decide)
    · by_cases h2 : c = 45
      · subst h2; exact absurd h (by decide)
      · simp [h1, h2]
  · unfold signB
    rw [if_pos rfl]
    by_cases h1 : c = 42
    · subst h1; exact absurd h (by decide)
    · by_cases h2 : c = 47
      · subst h2; exact absurd h (by decide)
      · by_cases h3 : c = 37
        · subst h3; exact absurd h (by decide)
        · simp [h1, h2, h3]

theorem stuck_sign {s : ByteArray} {q : Nat} (h : stuck s q = true) (t : Bool) : signP s t q = (none, q) := by
  obtain ⟨h1, c, h2, h3⟩ := stuck_skip h
  unfold signP
  rw [h1, h2]
  dsimp only
  rw [if_neg (by rw [name_not_sign h3 t]; decide)]

/-- The model's loop over parts with signs between. -/
def loopM (s : ByteArray) (tight : Bool) (part : Nat → MRes) : Nat → List Op3 → Nat → MRes
  | 0, _, _ => none
  | n + 1, ops, p => match (signP s tight p).1 with
    | none => some (ops, (signP s tight p).2)
    | some c => match part (signP s tight p).2 with
      | none => none
      | some (o, q) => loopM s tight part n (ops ++ (o ++ [(c, 0, ⟨#[]⟩)])) q

def rowM (s : ByteArray) (tight : Bool) (part : Nat → MRes) (p : Nat) : MRes := match part p with
  | none => none
  | some (o, q) => loopM s tight part (s.size + 1) o q

theorem loopM_stuck {s : ByteArray} {tight : Bool} {part : Nat → MRes} {n : Nat} {ops : List Op3} {p : Nat} (h : stuck s p = true) : loopM s tight part (n + 1) ops p = some (ops, p) := by
  rw [loopM, stuck_sign h tight]

theorem loopP_stuck {rk : Bool} {s : ByteArray} {tight : Bool} {part : Nat → Res} {n : Nat} {z : Int} {p : Nat} (h : stuck s p = true) : loopP rk s tight part (n + 1) z p = .ok (z, p) := by
  rw [loopP, stuck_sign h tight]

theorem sign_is {s : ByteArray} {tight : Bool} {p : Nat} {c : UInt8} (h : (signP s tight p).1 = some c) : signB tight c = true := by
  unfold signP at h
  split at h
  · split at h
    · rename_i hh; injection h with h; subst h; exact hh
    · cases h
  · cases h

theorem exec_sign (V : Vs) (c : UInt8) (t : Bool) (h : signB t c = true) (v r : Int) (st : List Int) : execV V [(c, 0, ⟨#[]⟩)] (r :: v :: st) = match joinP true c v r with
    | .ok z => .ok (z :: st)
    | .error e => .error e := by
  have h0 : ¬ c = 0 := by intro e; subst e; revert h; cases t <;> decide
  have h1 : ¬ c = 110 := by intro e; subst e; revert h; cases t <;> decide
  have h2 : ¬ c = 126 := by intro e; subst e; revert h; cases t <;> decide
  rw [exec_single, stepV]
  dsimp only
  rw [if_neg h0, if_neg h1, if_neg h2]

theorem loop_fits (V : Vs) (s : ByteArray) (tight : Bool) (mp : Nat → MRes) (fp tp : Nat → Res) (hpart : ∀ p, p ≤ s.size → Fits V s p (mp p) (fp p) (tp p)) (n : Nat) :
    ∀ (p : Nat) (ops : List Op3) (zf : Int), p ≤ s.size → s.size + 1 - p ≤ n →
      (∀ v, (∀ st, execV V ops st = .ok (v :: st)) → Fits V s p (loopM s tight mp n ops p) (loopP false s tight fp n zf p) (loopP true s tight tp n v p)) ∧
      (∀ e, (∀ st, execV V ops st = .error e) → Fits V s p (loopM s tight mp n ops p) (loopP false s tight fp n zf p) (.error e)) := by
  induction n with
  | zero => intro p ops zf hp hn; omega
  | succ n ih =>
    intro p ops zf hp hn
    have hle := signP_le s tight p hp
    cases hs : (signP s tight p).1 with
    | none =>
      constructor
      · intro v hv
        rw [loopM, loopP, loopP, hs]
        exact ⟨hle.1, hle.2.1, fun _ => Or.inr ⟨zf, rfl⟩, fun _ => ⟨⟨zf, rfl⟩, Or.inl ⟨v, rfl, hv⟩⟩⟩
      · intro e he
        rw [loopM, loopP, hs]
        exact ⟨hle.1, hle.2.1, fun _ => Or.inr ⟨zf, rfl⟩, fun _ => ⟨⟨zf, rfl⟩, Or.inr ⟨e, rfl, he⟩⟩⟩
    | some c =>
      have hsb := sign_is hs
      have hlt : p < (signP s tight p).2 := hle.2.2 (by rw [hs]; simp)
      have hp1 := hpart (signP s tight p).2 hle.2.1
      have hj0 : ∀ a b, joinP false c a b = .ok 0 := fun a b => by unfold joinP; rw [if_pos rfl]
      cases hm : mp (signP s tight p).2 with
      | none =>
        rw [hm] at hp1
        have hf : fp (signP s tight p).2 = .error 1 := hp1
        constructor
        · intro v hv
          rw [loopM, loopP, hs]
          dsimp only
          rw [hm, hf]
          exact rfl
        · intro e he
          rw [loopM, loopP, hs]
          dsimp only
          rw [hm, hf]
          exact rfl
      | some x =>
        obtain ⟨o, q⟩ := x
        rw [hm] at hp1
        obtain ⟨g1, g2, g3, g4⟩ := hp1
        have hn1 : s.size + 1 - q ≤ n := by omega
        obtain ⟨n', rfl⟩ : ∃ n', n = n' + 1 := ⟨n - 1, by omega⟩
        cases hst : stuck s q with
        | true =>
          have hM : ∀ ops', loopM s tight mp (n' + 1) ops' q = some (ops', q) := fun ops' => loopM_stuck hst
          have fin : ∀ t, Fits V s p (loopM s tight mp (n' + 1 + 1) ops p) (loopP false s tight fp (n' + 1 + 1) zf p) t := by
            intro t
            rw [loopM, loopP, hs]
            dsimp only
            rw [hm]
            dsimp only
            rw [hM]
            refine ⟨by omega, g2, fun _ => ?_, fun h => by rw [hst] at h; cases h⟩
            rcases g3 hst with g | ⟨z, g⟩
            · rw [g]; exact Or.inl rfl
            · rw [g]
              dsimp only
              rw [hj0]
              dsimp only
              rw [loopP_stuck hst]
              exact Or.inr ⟨0, rfl⟩
          exact ⟨fun v _ => fin _, fun e _ => fin _⟩
        | false =>
          obtain ⟨⟨z, gf⟩, gev⟩ := g4 hst
          have lift : ∀ t, Fits V s q (loopM s tight mp (n' + 1) (ops ++ (o ++ [(c, 0, ⟨#[]⟩)])) q) (loopP false s tight fp (n' + 1) 0 q) t → Fits V s p (loopM s tight mp (n' + 1 + 1) ops p) (loopP false s tight fp (n' + 1 + 1) zf p) t := by
            intro t h
            rw [loopM, loopP, hs]
            dsimp only
            rw [hm, gf]
            dsimp only
            rw [hj0]
            dsimp only
            cases hr : loopM s tight mp (n' + 1) (ops ++ (o ++ [(c, 0, ⟨#[]⟩)])) q with
            | none => rw [hr] at h; exact h
            | some y =>
              obtain ⟨oy, qy⟩ := y
              rw [hr] at h
              obtain ⟨k1, k2, k3, k4⟩ := h
              exact ⟨by omega, k2, k3, k4⟩
          obtain ⟨ihA, ihB⟩ := ih q (ops ++ (o ++ [(c, 0, ⟨#[]⟩)])) 0 g2 hn1
          constructor
          · intro v hv
            refine lift _ ?_
            rcases gev with ⟨r, gt, gx⟩ | ⟨e, gt, gx⟩
            · have hx : ∀ st, execV V (ops ++ (o ++ [(c, 0, ⟨#[]⟩)])) st = match joinP true c v r with
                  | .ok z => .ok (z :: st)
                  | .error e => .error e := by
                intro st
                rw [exec_append, hv]
                dsimp only
                rw [exec_append, gx]
                exact exec_sign V c tight hsb v r st
              have ht : loopP true s tight tp (n' + 1 + 1) v p = match joinP true c v r with
                  | .error e => .error e
                  | .ok z => loopP true s tight tp (n' + 1) z q := by
                rw [loopP, hs]
                dsimp only
                rw [gt]
                rfl
              rw [ht]
              cases hj : joinP true c v r with
              | ok z' => exact ihA z' (fun st => by rw [hx st, hj])
              | error e => exact ihB e (fun st => by rw [hx st, hj])
            · have hx : ∀ st, execV V (ops ++ (o ++ [(c, 0, ⟨#[]⟩)])) st = .error e := by
                intro st
                rw [exec_append, hv]
                dsimp only
                rw [exec_append, gx]
              have ht : loopP true s tight tp (n' + 1 + 1) v p = .error e := by
                rw [loopP, hs]
                dsimp only
                rw [gt]
              rw [ht]
              exact ihB e hx
          · intro e he
            exact lift _ (ihB e (fun st => by rw [exec_append, he]))

theorem row_fits (V : Vs) (s : ByteArray) (tight : Bool) (mp : Nat → MRes) (fp tp : Nat → Res) (hpart : ∀ p, p ≤ s.size → Fits V s p (mp p) (fp p) (tp p)) (p : Nat) (hp : p ≤ s.size) :
    Fits V s p (rowM s tight mp p) (rowP false s tight fp p) (rowP true s tight tp p) := by
  have h := hpart p hp
  unfold rowM rowP
  cases hm : mp p with
  | none =>
    rw [hm] at h
    have hf : fp p = .error 1 := h
    rw [hf]
    exact rfl
  | some x =>
    obtain ⟨o, q⟩ := x
    rw [hm] at h
    obtain ⟨g1, g2, g3, g4⟩ := h
    dsimp only
    cases hst : stuck s q with
    | true =>
      rw [loopM_stuck hst]
      refine ⟨g1, g2, fun _ => ?_, fun h => by rw [hst] at h; cases h⟩
      rcases g3 hst with g | ⟨z, g⟩
      · rw [g]; exact Or.inl rfl
      · rw [g]
        dsimp only
        rw [loopP_stuck hst]
        exact Or.inr ⟨z, rfl⟩
    | false =>
      obtain ⟨⟨z, gf⟩, gev⟩ := g4 hst
      obtain ⟨hA, hB⟩ := loop_fits V s tight mp fp tp hpart (s.size + 1) q o z g2 (by omega)
      have lift : ∀ t, Fits V s q (loopM s tight mp (s.size + 1) o q) (loopP false s tight fp (s.size + 1) z q) t → Fits V s p (loopM s tight mp (s.size + 1) o q) (loopP false s tight fp (s.size + 1) z q) t := by
        intro t h
        cases hr : loopM s tight mp (s.size + 1) o q with
        | none => rw [hr] at h; exact h
        | some y =>
          obtain ⟨oy, qy⟩ := y
          rw [hr] at h
          obtain ⟨k1, k2, k3, k4⟩ := h
          exact ⟨by omega, k2, k3, k4⟩
      rw [gf]
      dsimp only
      rcases gev with ⟨v, gt, gx⟩ | ⟨e, gt, gx⟩
      · rw [gt]
        exact lift _ (hA v gx)
      · rw [gt]
        exact lift _ (hB e gx)

/-- No capital letter stands in a text. -/
def NoCap (s : ByteArray) : Prop := ∀ p c, atP s p = some c → ¬ (65 ≤ (c.toNat : Int) ∧ (c.toNat : Int) ≤ 90)

/-- How many figures stand ahead. -/
def figN : List UInt8 → Nat
  | [] => 0
  | c :: l => if figB (c.toNat : Int) = true then figN l + 1 else 0

theorem figN_le (l : List UInt8) : figN l ≤ l.length := by
  induction l with
  | nil => exact Nat.le_refl _
  | cons c l ih => rw [figN]; split <;> simp; omega

theorem figN_all (l : List UInt8) : figAll (l.take (figN l)) = true := by
  induction l with
  | nil => rfl
  | cons c l ih =>
    rw [figN]
    split
    · rename_i h
      simp only [List.take_succ_cons, figAll, List.all_cons, h, Bool.true_and]
      exact ih
    · rfl

theorem fig_name {c : UInt8} (h : figB (c.toNat : Int) = true) : nameB (c.toNat : Int) = true := by
  unfold nameB; rw [h]; simp

/-- Behind the figures: no byte of a name, and then the word is the figures; or one. -/
theorem fig_lead (l : List UInt8) : ((∀ c, l[figN l]? = some c → nameB (c.toNat : Int) = false) → leadN l = figN l) ∧ (∀ c, l[figN l]? = some c → nameB (c.toNat : Int) = true → figAll (l.take (leadN l)) = false) := by
  induction l with
  | nil => exact ⟨fun _ => rfl, fun c h => by simp at h⟩
  | cons c l ih =>
    by_cases hf : figB (c.toNat : Int) = true
    · have e1 : figN (c :: l) = figN l + 1 := by rw [figN, if_pos hf]
      have e2 : leadN (c :: l) = leadN l + 1 := by rw [leadN, if_pos (fig_name hf)]
      rw [e1, e2]
      refine ⟨fun h => ?_, fun x hx hn => ?_⟩
      · rw [ih.1 (fun x hx => h x (by simpa using hx))]
      · have := ih.2 x (by simpa using hx) hn
        simp only [List.take_succ_cons, figAll, List.all_cons]
        rw [show (l.take (leadN l)).all (fun c => figB (c.toNat : Int)) = false from this]
        simp
    · have e1 : figN (c :: l) = 0 := by rw [figN, if_neg hf]
      rw [e1]
      refine ⟨fun h => ?_, fun x hx hn => ?_⟩
      · have := h c rfl
        rw [leadN, if_neg (by rw [this]; decide)]
      · have hx' : c = x := by simpa using hx
        subst hx'
        rw [leadN, if_pos hn]
        simp only [List.take_succ_cons, figAll, List.all_cons]
        simp [hf]

/-- Behind a word no byte of a name stands. -/
theorem lead_end (l : List UInt8) : ∀ c, l[leadN l]? = some c → nameB (c.toNat : Int) = false := by
  induction l with
  | nil => intro c h; simp at h
  | cons a l ih =>
    intro c h
    by_cases hn : nameB (a.toNat : Int) = true
    · rw [leadN, if_pos hn] at h
      exact ih c (by simpa using h)
    · rw [leadN, if_neg hn] at h
      have : a = c := by simpa using h
      subst this
      simpa using hn

theorem lead_all' (l : List UInt8) : nameAll (l.take (leadN l)) = true := by
  induction l with
  | nil => rfl
  | cons a l ih =>
    by_cases hn : nameB (a.toNat : Int) = true
    · rw [leadN, if_pos hn]
      simp only [List.take_succ_cons, nameAll, List.all_cons, hn, Bool.true_and]
      exact ih
    · rw [leadN, if_neg hn]; rfl

theorem atP_rest (s : ByteArray) (p k : Nat) : atP s (p + k) = (restL s p)[k]? := by
  unfold atP restL; rw [List.getElem?_drop]

theorem extract_rest (s : ByteArray) (p k : Nat) : (s.extract p (p + k)).data.toList = (restL s p).take k := by
  unfold restL
  simp

/-- The model's number. -/
def numM (s : ByteArray) (q : Nat) : MRes :=
  if isNum ((restL s q).take (figN (restL s q))) = true then some ([(0, numVal ((restL s q).take (figN (restL s q))), ⟨#[]⟩)], q + figN (restL s q)) else none

/-- The first byte of a name. -/
def firstB (c : Int) : Bool := lowB c || decide (c = 95)

/-- The model's name. -/
def nameM (s : ByteArray) (q : Nat) : MRes := match atP s q with
  | some c => if firstB (c.toNat : Int) = true ∧ leadN (restL s q) ≤ 6 then some ([(110, 0, wordP s q)], q + leadN (restL s q)) else none
  | none => none

def primM (s : ByteArray) (inner : Nat → MRes) (p : Nat) : MRes := match atP s (skipP s p) with
  | some c => if c = 40 then inner (skipP s p + 1) else if figB (c.toNat : Int) = true then numM s (skipP s p) else nameM s (skipP s p)
  | none => none

def minusM (s : ByteArray) : Nat → Nat → Nat → Nat × Nat
  | 0, k, p => (k, p)
  | n + 1, k, p => if (takeP s 45 p).1 = true then minusM s n (k + 1) (takeP s 45 p).2 else (k, (takeP s 45 p).2)

def unaryM (s : ByteArray) (inner : Nat → MRes) (p : Nat) : MRes := match primM s inner (minusM s (s.size + 1) 0 p).2 with
  | some (o, q) => some (o ++ List.replicate (minusM s (s.size + 1) 0 p).1 (126, 0, ⟨#[]⟩), q)
  | none => none

def termM (s : ByteArray) (inner : Nat → MRes) : Nat → MRes := rowM s true (unaryM s inner)
def sumM (s : ByteArray) (inner : Nat → MRes) : Nat → MRes := rowM s false (termM s inner)

def innerM (s : ByteArray) : Nat → Nat → MRes
  | 0, _ => none
  | d + 1, p => match sumM s (innerM s d) p with
    | none => none
    | some (o, q) => if (takeP s 41 q).1 = true then some (o, (takeP s 41 q).2) else none

theorem stuck_at {s : ByteArray} {q : Nat} {c : UInt8} (h : atP s q = some c) : stuck s q = nameB (c.toNat : Int) := by
  unfold stuck; rw [h]

theorem num_first {l : List UInt8} (h : isNum l = true) : ∃ c t, l = c :: t ∧ figB (c.toNat : Int) = true := by
  cases l with
  | nil => simp [isNum] at h
  | cons c t =>
    refine ⟨c, t, rfl, ?_⟩
    unfold isNum at h
    simp only [Bool.and_eq_true] at h
    have := h.2.2.1
    unfold figAll at this
    rw [List.all_cons, Bool.and_eq_true] at this
    exact this.1

theorem num_figs {l : List UInt8} (h : figAll l = false) : isNum l = false := by
  unfold isNum; rw [h]; simp

end Go.Proofs.Ytaabcbpbijkmnab
