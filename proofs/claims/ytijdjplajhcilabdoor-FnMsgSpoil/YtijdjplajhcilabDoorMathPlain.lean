/- DERIVED. Plain: how a sum is read from the left, with its number. Nothing of the program. -/
import Derived.Test.YtijdjplajhcilabDoorNumPlain
namespace Go.Proofs.YtijdjplajhcilabDoor

/-- A byte of a name. -/
def nameB (c : Int) : Bool := (lowB c || (decide (65 ≤ c) && decide (c ≤ 90))) || (figB c || decide (c = 95))

def nameAll (l : List UInt8) : Bool := l.all fun c => nameB (c.toNat : Int)

theorem nameAll_snoc (s : ByteArray) (k : Nat) (h : k < s.size) : nameAll (s.data.toList.take (k + 1)) = (nameAll (s.data.toList.take k) && nameB (s[k].toNat : Int)) := by
  rw [take_snoc s k h]; simp [nameAll]

def leadN : List UInt8 → Nat
  | [] => 0
  | c :: l => if nameB (c.toNat : Int) = true then leadN l + 1 else 0

theorem leadN_none (l : List UInt8) (k : Nat) (hk : k < l.length) (h : nameAll (l.take k) = true) (hc : nameB (l[k].toNat : Int) = false) : leadN l = k := by
  induction l generalizing k with
  | nil => simp at hk
  | cons c l ih =>
    cases k with
    | zero => simp at hc; simp [leadN, hc]
    | succ k =>
      simp [nameAll] at h
      simp at hk hc
      rw [leadN, if_pos h.1, ih k hk (by simpa [nameAll] using h.2) hc]

theorem leadN_all (l : List UInt8) (h : nameAll l = true) : leadN l = l.length := by
  induction l with
  | nil => rfl
  | cons c l ih =>
    simp [nameAll] at h
    rw [leadN, if_pos h.1, ih (by simpa [nameAll] using h.2)]; rfl

theorem leadN_le (l : List UInt8) : leadN l ≤ l.length := by
  induction l with
  | nil => exact Nat.le_refl _
  | cons c l ih => rw [leadN]; split <;> simp; omega

/-- How many blanks stand ahead. -/
def skipL : List UInt8 → Nat
  | [] => 0
  | c :: l => if c = 32 then skipL l + 1 else 0

theorem skipL_le (l : List UInt8) : skipL l ≤ l.length := by
  induction l with
  | nil => exact Nat.le_refl _
  | cons c l ih => rw [skipL]; split <;> simp; omega

def restL (s : ByteArray) (p : Nat) : List UInt8 := s.data.toList.drop p

theorem restL_len (s : ByteArray) (p : Nat) : (restL s p).length = s.size - p := by simp [restL]

theorem restL_cons (s : ByteArray) (p : Nat) (h : p < s.size) : restL s p = s[p] :: restL s (p + 1) := by
  unfold restL
  rw [List.drop_eq_getElem_cons (by simpa using h)]
  rfl

theorem restL_end (s : ByteArray) (p : Nat) (h : s.size ≤ p) : restL s p = [] := by
  unfold restL; rw [List.drop_eq_nil_iff]; simpa using h

/-- Where the blanks end. -/
def skipP (s : ByteArray) (p : Nat) : Nat := p + skipL (restL s p)

theorem skipP_blank (s : ByteArray) (p : Nat) (h : p < s.size) (hb : s[p] = 32) : skipP s p = skipP s (p + 1) := by
  unfold skipP; rw [restL_cons s p h, skipL, if_pos hb]; omega

theorem skipP_other (s : ByteArray) (p : Nat) (h : p < s.size) (hb : s[p] ≠ 32) : skipP s p = p := by
  unfold skipP; rw [restL_cons s p h, skipL, if_neg hb]; rfl

theorem skipP_end (s : ByteArray) (p : Nat) (h : s.size ≤ p) : skipP s p = p := by
  unfold skipP; rw [restL_end s p h]; rfl

theorem skipP_le (s : ByteArray) (p : Nat) (h : p ≤ s.size) : p ≤ skipP s p ∧ skipP s p ≤ s.size := by
  unfold skipP
  have := skipL_le (restL s p)
  rw [restL_len] at this
  omega

theorem skipP_idem (s : ByteArray) (p : Nat) (n : Nat) (hn : s.size - p ≤ n) : skipP s (skipP s p) = skipP s p := by
  induction n generalizing p with
  | zero => rw [skipP_end s p (by omega), skipP_end s p (by omega)]
  | succ n ih =>
    by_cases h : p < s.size
    · by_cases hb : s[p] = 32
      · rw [skipP_blank s p h hb]; exact ih (p + 1) (by omega)
      · rw [skipP_other s p h hb, skipP_other s p h hb]
    · rw [skipP_end s p (by omega), skipP_end s p (by omega)]

/-- The byte at a place; none behind the end. -/
def atP (s : ByteArray) (p : Nat) : Option UInt8 := s.data.toList[p]?

theorem atP_some (s : ByteArray) (p : Nat) (h : p < s.size) : atP s p = some s[p] := by
  unfold atP; rw [List.getElem?_eq_getElem (by simpa using h)]; rfl

theorem atP_none (s : ByteArray) (p : Nat) (h : s.size ≤ p) : atP s p = none := by
  unfold atP; rw [List.getElem?_eq_none (by simpa using h)]

/-- Whether a byte follows the blanks, and where one stands then. -/
def takeP (s : ByteArray) (c : UInt8) (p : Nat) : Bool × Nat :=
  if atP s (skipP s p) = some c then (true, skipP s p + 1) else (false, skipP s p)

theorem takeP_le (s : ByteArray) (c : UInt8) (p : Nat) (h : p ≤ s.size) : p ≤ (takeP s c p).2 ∧ (takeP s c p).2 ≤ s.size ∧ ((takeP s c p).1 = true → p < (takeP s c p).2) := by
  have h1 := skipP_le s p h
  unfold takeP
  split
  · rename_i hc
    have h2 : skipP s p < s.size := by
      rcases Nat.lt_or_ge (skipP s p) s.size with h2 | h2
      · exact h2
      · rw [atP_none s _ h2] at hc; cases hc
    exact ⟨by dsimp only; omega, by dsimp only; omega, fun _ => by dsimp only; omega⟩
  · exact ⟨h1.1, h1.2, fun h => by cases h⟩

abbrev Vs := List (ByteArray × ByteArray)

/-- What a name says. -/
def textV : Vs → ByteArray → ByteArray
  | [], _ => ⟨#[]⟩
  | x :: l, n => if x.1 = n then x.2 else textV l n

/-- A number, ahead of which a sign may stand. -/
def signedV (l : List UInt8) : Option Int :=
  match l with
  | c :: t => if c = 45 then (if isNum t = true then (if numVal t = 0 then none else some (-numVal t)) else none) else (if isNum l = true then some (numVal l) else none)
  | [] => none

theorem signedV_bd (l : List UInt8) (z : Int) (h : signedV l = some z) : -999999 ≤ z ∧ z ≤ 999999 := by
  have hb : ∀ t, isNum t = true → 0 ≤ numVal t ∧ numVal t ≤ 999999 := fun t ht => by
    have := numOf_yes t ht; unfold numOf at this; rw [if_pos ht] at this; exact this
  unfold signedV at h
  split at h
  · split at h
    · split at h
      · rename_i t _ hn
        split at h
        · cases h
        · injection h with h; have := hb _ hn; omega
      · cases h
    · split at h
      · rename_i hn; injection h with h; have := hb _ hn; omega
      · cases h
  · cases h

/-- Whether a text is a name. -/
def nameOkL (l : List UInt8) : Bool := (!l.isEmpty && decide (l.length ≤ 6)) && (nameAll l && !figB ((l.headD 0).toNat : Int))

abbrev Res := Except Int (Int × Nat)

/-- What a name comes to. -/
def namedP (rk : Bool) (V : Vs) (n : ByteArray) : Except Int Int :=
  if rk = false ∨ (textV V n).size = 0 then .ok 0 else match signedV (textV V n).data.toList with
    | some z => .ok z
    | none => .error 4

/-- What a sign makes of two numbers. -/
def opP (c : UInt8) (a b : Int) : Int := if c = 43 then a + b else if c = 45 then a - b else if c = 42 then a * b else if c = 47 then a.tdiv b else a.tmod b

/-- What two numbers come to by a sign. -/
def joinP (rk : Bool) (c : UInt8) (a b : Int) : Except Int Int :=
  if rk = false then .ok 0 else
  if (c = 47 ∨ c = 37) ∧ b = 0 then .error 2 else
  if opP c a b < -999999 ∨ 999999 < opP c a b then .error 3 else .ok (opP c a b)

/-- The word at a place. -/
def wordP (s : ByteArray) (p : Nat) : ByteArray := s.extract p (p + leadN (restL s p))

/-- A number, a name, or what stands between parentheses. -/
def singleP (rk : Bool) (V : Vs) (s : ByteArray) (inner : Nat → Res) (p : Nat) : Res :=
  if (takeP s 40 p).1 = true then inner (takeP s 40 p).2 else
  let q := (takeP s 40 p).2
  let word := wordP s q
  if isNum word.data.toList = true then .ok (numVal word.data.toList, q + leadN (restL s q)) else
  if nameOkL word.data.toList = true then (match namedP rk V word with
    | .ok z => .ok (z, q + leadN (restL s q))
    | .error c => .error c) else .error 1

/-- The signs ahead. -/
def minusP (s : ByteArray) : Nat → Int → Nat → Int × Nat
  | 0, f, p => (f, p)
  | n + 1, f, p => if (takeP s 45 p).1 = true then minusP s n (-f) (takeP s 45 p).2 else (f, (takeP s 45 p).2)

def signedP (rk : Bool) (V : Vs) (s : ByteArray) (inner : Nat → Res) (p : Nat) : Res :=
  match singleP rk V s inner (minusP s (s.size + 1) 1 p).2 with
  | .ok (z, q) => .ok ((minusP s (s.size + 1) 1 p).1 * z, q)
  | .error c => .error c

def signB (tight : Bool) (c : UInt8) : Bool := if tight = true then (c == 42 || (c == 47 || c == 37)) else (c == 43 || c == 45)

/-- The sign that follows. -/
def signP (s : ByteArray) (tight : Bool) (p : Nat) : Option UInt8 × Nat :=
  match atP s (skipP s p) with
  | some c => if signB tight c = true then (some c, skipP s p + 1) else (none, skipP s p)
  | none => (none, skipP s p)

theorem signP_le (s : ByteArray) (t : Bool) (p : Nat) (h : p ≤ s.size) : p ≤ (signP s t p).2 ∧ (signP s t p).2 ≤ s.size ∧ ((signP s t p).1 ≠ none → p < (signP s t p).2) := by
  have h1 := skipP_le s p h
  unfold signP
  split
  · rename_i c hc
    have h2 : skipP s p < s.size := by
      rcases Nat.lt_or_ge (skipP s p) s.size with h2 | h2
      · exact h2
      · rw [atP_none s _ h2] at hc; cases hc
    split
    · exact ⟨by dsimp only; omega, by dsimp only; omega, fun _ => by dsimp only; omega⟩
    · exact ⟨h1.1, h1.2, fun h => absurd rfl h⟩
  · exact ⟨h1.1, h1.2, fun h => absurd rfl h⟩

/-- Parts with signs between, from the left. -/
def loopP (rk : Bool) (s : ByteArray) (tight : Bool) (part : Nat → Res) : Nat → Int → Nat → Res
  | 0, _, _ => .error 0
  | n + 1, v, p => match (signP s tight p).1 with
    | none => .ok (v, (signP s tight p).2)
    | some c => match part (signP s tight p).2 with
      | .error e => .error e
      | .ok (r, q) => match joinP rk c v r with
        | .error e => .error e
        | .ok z => loopP rk s tight part n z q

def rowP (rk : Bool) (s : ByteArray) (tight : Bool) (part : Nat → Res) (p : Nat) : Res :=
  match part p with
  | .error e => .error e
  | .ok (v, q) => loopP rk s tight part (s.size + 1) v q

def termP (rk : Bool) (V : Vs) (s : ByteArray) (inner : Nat → Res) : Nat → Res := rowP rk s true (signedP rk V s inner)

def sumOfP (rk : Bool) (V : Vs) (s : ByteArray) (inner : Nat → Res) : Nat → Res := rowP rk s false (termP rk V s inner)

/-- What stands behind a parenthesis, where so many more may stand open. -/
def innerP (rk : Bool) (V : Vs) (s : ByteArray) : Nat → Nat → Res
  | 0, _ => .error 1
  | d + 1, p => match sumOfP rk V s (innerP rk V s d) p with
    | .error e => .error e
    | .ok (v, q) => if (takeP s 41 q).1 = true then .ok (v, (takeP s 41 q).2) else .error 1

def allP (rk : Bool) (V : Vs) (s : ByteArray) : Except Int Int :=
  if 60 < s.size then .error 1 else match sumOfP rk V s (innerP rk V s 6) 0 with
    | .error e => .error e
    | .ok (v, q) => if q < s.size then .error 1 else .ok v

/-- What a reader answers: a number and a code. -/
def tryP (rk : Bool) (V : Vs) (s : ByteArray) : Int × Int := match allP rk V s with
  | .ok v => (v, 0)
  | .error e => (0, e)

def mathOkP (s : ByteArray) : Bool := decide ((tryP false [] s).2 = 0)

def mathRunP (s : ByteArray) (V : Vs) : Int × Int := if mathOkP s = true then tryP true V s else (0, 1)

/-- What is known of every part. -/
def Good (s : ByteArray) (part : Nat → Res) : Prop := ∀ p, p ≤ s.size →
  (∀ v q, part p = .ok (v, q) → p ≤ q ∧ q ≤ s.size ∧ -999999 ≤ v ∧ v ≤ 999999) ∧ ∀ e, part p = .error e → 1 ≤ e ∧ e ≤ 4

theorem joinP_bd (rk : Bool) (c : UInt8) (a b : Int) : (∀ z, joinP rk c a b = .ok z → -999999 ≤ z ∧ z ≤ 999999) ∧ ∀ e, joinP rk c a b = .error e → 1 ≤ e ∧ e ≤ 4 := by
  unfold joinP
  constructor
  · intro z h
    split at h
    · injection h with h; omega
    · split at h
      · cases h
      · split at h
        · cases h
        · injection h with h; omega
  · intro e h
    split at h
    · cases h
    · split at h
      · injection h with h; omega
      · split at h
        · injection h with h; omega
        · cases h

theorem namedP_bd (rk : Bool) (V : Vs) (n : ByteArray) : (∀ z, namedP rk V n = .ok z → -999999 ≤ z ∧ z ≤ 999999) ∧ ∀ e, namedP rk V n = .error e → e = 4 := by
  unfold namedP
  constructor
  · intro z h
    split at h
    · injection h with h; omega
    · split at h
      · rename_i hs; injection h with h; subst h; exact signedV_bd _ _ hs
      · cases h
  · intro e h
    split at h
    · cases h
    · split at h
      · cases h
      · injection h with h; exact h.symm

theorem good_single (rk : Bool) (V : Vs) (s : ByteArray) (inner : Nat → Res) (h : Good s inner) : Good s (singleP rk V s inner) := by
  intro p hp
  have ht := takeP_le s 40 p hp
  have hl := leadN_le (restL s (takeP s 40 p).2)
  rw [restL_len] at hl
  unfold singleP
  by_cases hb : (takeP s 40 p).1 = true
  · rw [if_pos hb]
    obtain ⟨h1, h2⟩ := h (takeP s 40 p).2 ht.2.1
    exact ⟨fun v q e => by have := h1 v q e; omega, h2⟩
  · rw [if_neg hb]
    dsimp only
    by_cases hn : isNum (wordP s (takeP s 40 p).2).data.toList = true
    · rw [if_pos hn]
      have := numOf_yes _ hn
      unfold numOf at this
      rw [if_pos hn] at this
      exact ⟨fun v q e => by injection e with e; injection e with e1 e2; omega, fun e he => by cases he⟩
    · rw [if_neg hn]
      by_cases hk : nameOkL (wordP s (takeP s 40 p).2).data.toList = true
      · rw [if_pos hk]
        obtain ⟨n1, n2⟩ := namedP_bd rk V (wordP s (takeP s 40 p).2)
        cases hz : namedP rk V (wordP s (takeP s 40 p).2) with
        | ok z => exact ⟨fun v q e => by injection e with e; injection e with e1 e2; have := n1 z hz; omega, fun e he => by cases he⟩
        | error c => exact ⟨fun v q e => (by cases e), fun e he => by injection he with he; have := n2 c hz; omega⟩
      · rw [if_neg hk]
        exact ⟨fun v q e => (by cases e), fun e he => by injection he with he; omega⟩

theorem minusP_bd (s : ByteArray) (n : Nat) (f : Int) (p : Nat) (hp : p ≤ s.size) (hf : f = 1 ∨ f = -1) : ((minusP s n f p).1 = 1 ∨ (minusP s n f p).1 = -1) ∧ p ≤ (minusP s n f p).2 ∧ (minusP s n f p).2 ≤ s.size := by
  induction n generalizing f p with
  | zero => exact ⟨hf, Nat.le_refl _, hp⟩
  | succ n ih =>
    have ht := takeP_le s 45 p hp
    rw [minusP]
    split
    · have := ih (-f) _ ht.2.1 (by omega)
      exact ⟨this.1, by omega, this.2.2⟩
    · exact ⟨hf, ht.1, ht.2.1⟩

theorem good_signed (rk : Bool) (V : Vs) (s : ByteArray) (inner : Nat → Res) (h : Good s inner) : Good s (signedP rk V s inner) := by
  intro p hp
  obtain ⟨hf, h1, h2⟩ := minusP_bd s (s.size + 1) 1 p hp (Or.inl rfl)
  obtain ⟨g1, g2⟩ := good_single rk V s inner h _ h2
  unfold signedP
  cases hz : singleP rk V s inner (minusP s (s.size + 1) 1 p).2 with
  | error c => exact ⟨fun v q e => (by cases e), fun e he => by injection he with he; have := g2 c hz; omega⟩
  | ok x =>
    obtain ⟨z, r⟩ := x
    have := g1 z r hz
    refine ⟨fun v q e => ?_, fun e he => by cases he⟩
    injection e with e; injection e with e1 e2
    rcases hf with hf | hf
    · rw [hf] at e1; omega
    · rw [hf] at e1; omega

theorem good_loop (rk : Bool) (s : ByteArray) (t : Bool) (part : Nat → Res) (h : Good s part) (n : Nat) : ∀ (v : Int) (p : Nat), p ≤ s.size → s.size - p < n → -999999 ≤ v → v ≤ 999999 →
    (∀ z q, loopP rk s t part n v p = .ok (z, q) → p ≤ q ∧ q ≤ s.size ∧ -999999 ≤ z ∧ z ≤ 999999) ∧ ∀ e, loopP rk s t part n v p = .error e → 1 ≤ e ∧ e ≤ 4 := by
  induction n with
  | zero => intro v p hp hn; omega
  | succ n ih =>
    intro v p hp hn hv0 hv1
    have hs := signP_le s t p hp
    rw [loopP]
    cases hc : (signP s t p).1 with
    | none => exact ⟨fun z q e => by injection e with e; injection e with e1 e2; omega, fun e he => by cases he⟩
    | some c =>
      dsimp only
      obtain ⟨g1, g2⟩ := h (signP s t p).2 hs.2.1
      have hlt := hs.2.2 (by rw [hc]; exact fun x => by cases x)
      cases hz : part (signP s t p).2 with
      | error c => exact ⟨fun v q e => (by cases e), fun e he => by injection he with he; have := g2 c hz; omega⟩
      | ok x =>
        obtain ⟨r, q⟩ := x
        have hr := g1 r q hz
        dsimp only
        obtain ⟨j1, j2⟩ := joinP_bd rk c v r
        cases hj : joinP rk c v r with
        | error c => exact ⟨fun v q e => (by cases e), fun e he => by injection he with he; have := j2 c hj; omega⟩
        | ok z =>
          have := j1 z hj
          obtain ⟨i1, i2⟩ := ih z q (by omega) (by omega) this.1 this.2
          exact ⟨fun z' q' e => by have := i1 z' q' e; omega, i2⟩

theorem good_row (rk : Bool) (s : ByteArray) (t : Bool) (part : Nat → Res) (h : Good s part) : Good s (rowP rk s t part) := by
  intro p hp
  obtain ⟨g1, g2⟩ := h p hp
  unfold rowP
  cases hz : part p with
  | error c => exact ⟨fun v q e => (by cases e), fun e he => by injection he with he; have := g2 c hz; omega⟩
  | ok x =>
    obtain ⟨r, q⟩ := x
    have hr := g1 r q hz
    obtain ⟨i1, i2⟩ := good_loop rk s t part h (s.size + 1) r q hr.2.1 (by omega) hr.2.2.1 hr.2.2.2
    exact ⟨fun z' q' e => by have := i1 z' q' e; omega, i2⟩

theorem good_sum (rk : Bool) (V : Vs) (s : ByteArray) (inner : Nat → Res) (h : Good s inner) : Good s (sumOfP rk V s inner) :=
  good_row rk s false _ (good_row rk s true _ (good_signed rk V s inner h))

theorem good_inner (rk : Bool) (V : Vs) (s : ByteArray) (d : Nat) : Good s (innerP rk V s d) := by
  induction d with
  | zero => exact fun p hp => ⟨fun v q e => (by cases e), fun e he => by injection he with he; omega⟩
  | succ d ih =>
    intro p hp
    obtain ⟨g1, g2⟩ := good_sum rk V s _ ih p hp
    rw [innerP]
    cases hz : sumOfP rk V s (innerP rk V s d) p with
    | error c => exact ⟨fun v q e => (by cases e), fun e he => by injection he with he; have := g2 c hz; omega⟩
    | ok x =>
      obtain ⟨r, q⟩ := x
      have hr := g1 r q hz
      have ht := takeP_le s 41 q hr.2.1
      dsimp only
      split
      · exact ⟨fun v q e => by injection e with e; injection e with e1 e2; omega, fun e he => by cases he⟩
      · exact ⟨fun v q e => (by cases e), fun e he => by injection he with he; omega⟩

end Go.Proofs.YtijdjplajhcilabDoor
