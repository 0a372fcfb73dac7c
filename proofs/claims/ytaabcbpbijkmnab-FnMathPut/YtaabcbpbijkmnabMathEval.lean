/- DERIVED. Plain: the reader of sums at the texts of the law FnMathName. -/
import Derived.Test.YtaabcbpbijkmnabMathPlain
namespace Go.Proofs.Ytaabcbpbijkmnab

/-- A text of one byte. -/
def oneT (c : UInt8) : ByteArray := ⟨#[c]⟩

/-- The same between blanks, times one. -/
def timesT (c : UInt8) : ByteArray := ⟨#[32, c, 32, 42, 32, 49]⟩

/-- The letters of the names that are drawn. -/
def letB (c : UInt8) : Bool := c == 105 || (c == 110 || (c == 113 || (c == 120 || c == 121)))

theorem let_cases {c : UInt8} (h : letB c = true) : c = 105 ∨ c = 110 ∨ c = 113 ∨ c = 120 ∨ c = 121 := by
  simp [letB] at h; exact h

/-- What a name alone comes to. -/
def nameE (V : Vs) (n : ByteArray) : Int × Int := match namedP true V n with
  | .ok z => (z, 0)
  | .error e => (0, e)

theorem single_one (rk : Bool) (V : Vs) (inner : Nat → Res) (c : UInt8) (h : letB c = true) : singleP rk V (oneT c) inner 0 = match namedP rk V (oneT c) with
    | .ok z => .ok (z, 1)
    | .error e => .error e := by
  rcases let_cases h with rfl | rfl | rfl | rfl | rfl <;> rfl

theorem signed_one (rk : Bool) (V : Vs) (inner : Nat → Res) (c : UInt8) (h : letB c = true) : signedP rk V (oneT c) inner 0 = match namedP rk V (oneT c) with
    | .ok z => .ok (z, 1)
    | .error e => .error e := by
  have h1 : minusP (oneT c) ((oneT c).size + 1) 1 0 = (1, 0) := by rcases let_cases h with rfl | rfl | rfl | rfl | rfl <;> rfl
  unfold signedP
  rw [h1]
  dsimp only
  rw [single_one rk V inner c h]
  cases namedP rk V (oneT c) with
  | ok z => dsimp only; rw [Int.one_mul]
  | error e => rfl

theorem row_end (rk t : Bool) (s : ByteArray) (part : Nat → Res) (p q : Nat) (h : signP s t q = (none, q)) : (∀ v, part p = .ok (v, q) → rowP rk s t part p = .ok (v, q)) ∧ ∀ e, part p = .error e → rowP rk s t part p = .error e := by
  constructor
  · intro v hv
    unfold rowP
    rw [hv]
    dsimp only
    rw [loopP, h]
  · intro e he
    unfold rowP
    rw [he]

theorem all_one (V : Vs) (c : UInt8) (h : letB c = true) : allP true V (oneT c) = namedP true V (oneT c) := by
  have s1 : signP (oneT c) true 1 = (none, 1) := by rcases let_cases h with rfl | rfl | rfl | rfl | rfl <;> rfl
  have s2 : signP (oneT c) false 1 = (none, 1) := by rcases let_cases h with rfl | rfl | rfl | rfl | rfl <;> rfl
  have hz : (oneT c).size = 1 := rfl
  unfold allP sumOfP
  rw [if_neg (by rw [hz]; decide)]
  have hs := signed_one true V (innerP true V (oneT c) 6) c h
  cases hn : namedP true V (oneT c) with
  | ok z =>
    rw [hn] at hs
    have h1 := (row_end true true (oneT c) (signedP true V (oneT c) (innerP true V (oneT c) 6)) 0 1 s1).1 z hs
    have h2 := (row_end true false (oneT c) (termP true V (oneT c) (innerP true V (oneT c) 6)) 0 1 s2).1 z h1
    rw [h2]
    dsimp only
    rw [if_neg (by rw [hz]; decide)]
  | error e =>
    rw [hn] at hs
    have h1 := (row_end true true (oneT c) (signedP true V (oneT c) (innerP true V (oneT c) 6)) 0 1 s1).2 e hs
    have h2 := (row_end true false (oneT c) (termP true V (oneT c) (innerP true V (oneT c) 6)) 0 1 s2).2 e h1
    rw [h2]

theorem run_one (V : Vs) (c : UInt8) (h : letB c = true) : mathRunP (oneT c) V = nameE V (oneT c) := by
  have ho : mathOkP (oneT c) = true := by rcases let_cases h with rfl | rfl | rfl | rfl | rfl <;> decide +kernel
  unfold mathRunP nameE tryP
  rw [if_pos ho, all_one V c h]
  rfl

theorem single_times (rk : Bool) (V : Vs) (inner : Nat → Res) (c : UInt8) (h : letB c = true) : singleP rk V (timesT c) inner 1 = match namedP rk V (oneT c) with
    | .ok z => .ok (z, 2)
    | .error e => .error e := by
  rcases let_cases h with rfl | rfl | rfl | rfl | rfl <;> rfl

theorem signed_times (rk : Bool) (V : Vs) (inner : Nat → Res) (c : UInt8) (h : letB c = true) : signedP rk V (timesT c) inner 0 = match namedP rk V (oneT c) with
    | .ok z => .ok (z, 2)
    | .error e => .error e := by
  have h1 : minusP (timesT c) ((timesT c).size + 1) 1 0 = (1, 1) := by rcases let_cases h with rfl | rfl | rfl | rfl | rfl <;> rfl
  unfold signedP
  rw [h1]
  dsimp only
  rw [single_times rk V inner c h]
  cases namedP rk V (oneT c) with
  | ok z => dsimp only; rw [Int.one_mul]
  | error e => rfl

theorem signed_four (rk : Bool) (V : Vs) (inner : Nat → Res) (c : UInt8) (h : letB c = true) : signedP rk V (timesT c) inner 4 = .ok (1, 6) := by
  rcases let_cases h with rfl | rfl | rfl | rfl | rfl <;> rfl

theorem all_times (V : Vs) (c : UInt8) (h : letB c = true) : allP true V (timesT c) = namedP true V (oneT c) := by
  have s0 : signP (timesT c) true 2 = (some 42, 4) := by rcases let_cases h with rfl | rfl | rfl | rfl | rfl <;> rfl
  have s1 : signP (timesT c) true 6 = (none, 6) := by rcases let_cases h with rfl | rfl | rfl | rfl | rfl <;> rfl
  have s2 : signP (timesT c) false 6 = (none, 6) := by rcases let_cases h with rfl | rfl | rfl | rfl | rfl <;> rfl
  have hz : (timesT c).size = 6 := rfl
  unfold allP sumOfP
  rw [if_neg (by rw [hz]; decide)]
  have hs := signed_times true V (innerP true V (timesT c) 6) c h
  have h4 := signed_four true V (innerP true V (timesT c) 6) c h
  cases hn : namedP true V (oneT c) with
  | ok z =>
    rw [hn] at hs
    have hb := (namedP_bd true V (oneT c)).1 z hn
    have hj : joinP true 42 z 1 = .ok z := by
      unfold joinP opP
      rw [if_neg (by decide), if_neg (fun c => by rcases c.1 with c | c <;> cases c)]
      simp
      omega
    have h1 : termP true V (timesT c) (innerP true V (timesT c) 6) 0 = .ok (z, 6) := by
      unfold termP rowP
      rw [hs]
      dsimp only
      rw [loopP, s0]
      dsimp only
      rw [h4]
      dsimp only
      rw [hj]
      dsimp only
      rw [hz, loopP, s1]
    have h2 := (row_end true false (timesT c) (termP true V (timesT c) (innerP true V (timesT c) 6)) 0 6 s2).1 z h1
    rw [h2]
    dsimp only
    rw [if_neg (by rw [hz]; decide)]
  | error e =>
    rw [hn] at hs
    have h1 : termP true V (timesT c) (innerP true V (timesT c) 6) 0 = .error e := by
      unfold termP rowP
      rw [hs]
    have h2 := (row_end true false (timesT c) (termP true V (timesT c) (innerP true V (timesT c) 6)) 0 6 s2).2 e h1
    rw [h2]

theorem run_times (V : Vs) (c : UInt8) (h : letB c = true) : mathRunP (timesT c) V = nameE V (oneT c) := by
  have ho : mathOkP (timesT c) = true := by rcases let_cases h with rfl | rfl | rfl | rfl | rfl <;> decide +kernel
  unfold mathRunP nameE tryP
  rw [if_pos ho, all_times V c h]
  rfl

/-- The name that nobody has. -/
def nobodyT : ByteArray := ⟨#[110, 111, 98, 111, 100, 121]⟩

theorem run_nobody (V : Vs) (h : textV V nobodyT = ⟨#[]⟩) : mathRunP nobodyT V = (0, 0) := by
  have ho : mathOkP nobodyT = true := by decide +kernel
  have hn : namedP true V nobodyT = .ok 0 := by unfold namedP; rw [h]; rfl
  have hsi : singleP true V nobodyT (innerP true V nobodyT 6) 0 = match namedP true V nobodyT with
    | .ok z => .ok (z, 6)
    | .error e => .error e := rfl
  rw [hn] at hsi
  have h1 : minusP nobodyT (nobodyT.size + 1) 1 0 = (1, 0) := rfl
  have hs : signedP true V nobodyT (innerP true V nobodyT 6) 0 = .ok (0, 6) := by
    unfold signedP; rw [h1]; dsimp only; rw [hsi]; rfl
  have s1 : signP nobodyT true 6 = (none, 6) := rfl
  have s2 : signP nobodyT false 6 = (none, 6) := rfl
  have h2 := (row_end true true nobodyT (signedP true V nobodyT (innerP true V nobodyT 6)) 0 6 s1).1 0 hs
  have h3 := (row_end true false nobodyT (termP true V nobodyT (innerP true V nobodyT 6)) 0 6 s2).1 0 h2
  have ha : allP true V nobodyT = .ok 0 := by
    unfold allP sumOfP
    rw [if_neg (by decide), h3]
    rfl
  unfold mathRunP tryP
  rw [if_pos ho, ha]

end Go.Proofs.Ytaabcbpbijkmnab
