/- DERIVED. Plain functions and facts: how folded hosts are read. Nothing of the program. -/
import Derived.Test.YtahhjhhnjpbocaaDoorFoldPlain
import Derived.Test.YtahhjhhnjpbocaaDoorTrip
import Derived.Lib.Split
namespace Go.Proofs.YtahhjhhnjpbocaaDoor

abbrev Hs := List (ByteArray × Int)

/-- So many hosts from i on. -/
def hostsFrom (S : Nat → ByteArray) (M : Nat → Int) : Nat → Nat → Hs
  | _, 0 => []
  | i, k + 1 => (S i, M i) :: hostsFrom S M (i + 1) k

theorem hostsFrom_len (S : Nat → ByteArray) (M : Nat → Int) (i k : Nat) : (hostsFrom S M i k).length = k := by
  induction k generalizing i with
  | zero => rfl
  | succ k ih => simp [hostsFrom, ih]

theorem hostsFrom_add (S : Nat → ByteArray) (M : Nat → Int) (i a b : Nat) : hostsFrom S M i (a + b) = hostsFrom S M i a ++ hostsFrom S M (i + a) b := by
  induction a generalizing i with
  | zero => simp [hostsFrom]
  | succ a ih =>
    rw [show a + 1 + b = (a + b) + 1 by omega]
    simp only [hostsFrom, List.cons_append]
    rw [ih, show i + 1 + a = i + (a + 1) by omega]

/-- A run of numbers of one name. -/
def seqH (nm : ByteArray) (n : Int) : Nat → Hs
  | 0 => []
  | k + 1 => (nm, n) :: seqH nm (n + 1) k

theorem seqH_len (nm : ByteArray) (n : Int) (k : Nat) : (seqH nm n k).length = k := by
  induction k generalizing n with
  | zero => rfl
  | succ k ih => simp [seqH, ih]

theorem seqH_snoc (nm : ByteArray) (n : Int) (k : Nat) : seqH nm n (k + 1) = seqH nm n k ++ [(nm, n + k)] := by
  induction k generalizing n with
  | zero => simp [seqH]
  | succ k ih =>
    rw [seqH, ih (n + 1)]
    simp only [seqH, List.cons_append]
    rw [show n + 1 + (k : Int) = n + ((k + 1 : Nat) : Int) by omega]

theorem hosts_seq (S : Nat → ByteArray) (M : Nat → Int) (nm : ByteArray) (i k : Nat) (hS : ∀ j, i ≤ j → j < i + k → S j = nm) (hM : ∀ j, i < j → j < i + k → nextP M j = true) : hostsFrom S M i k = seqH nm (M i) k := by
  induction k generalizing i with
  | zero => rfl
  | succ k ih =>
    simp only [hostsFrom, seqH]
    rw [hS i (Nat.le_refl _) (by omega)]
    rw [ih (i + 1) (fun j a b => hS j (by omega) (by omega)) (fun j a b => hM j (by omega) (by omega))]
    cases k with
    | zero => rfl
    | succ k =>
      have := hM (i + 1) (by omega) (by omega)
      unfold nextP at this
      rw [beq_iff_eq, Nat.add_sub_cancel] at this
      rw [this]

/-- The model's cut: at a byte, so many times at most. -/
def cutL (b : UInt8) : Nat → List UInt8 → List UInt8 → List (List UInt8)
  | _, cur, [] => [cur]
  | 0, cur, c :: t => [cur ++ c :: t]
  | m + 1, cur, c :: t => if c = b then cur :: cutL b m [] t else cutL b (m + 1) (cur ++ [c]) t

theorem cut_zero (b : UInt8) (cur t : List UInt8) : cutL b 0 cur t = [cur ++ t] := by
  cases t <;> simp [cutL]

theorem cut_none (b : UInt8) (m : Nat) (cur t : List UInt8) (h : ∀ c ∈ t, c ≠ b) : cutL b m cur t = [cur ++ t] := by
  induction t generalizing cur with
  | nil => simp [cutL]
  | cons c t ih =>
    cases m with
    | zero => rfl
    | succ m =>
      rw [cutL, if_neg (h c (by simp)), ih (cur ++ [c]) (fun x hx => h x (by simp [hx]))]
      simp

theorem cut_at (b : UInt8) (m : Nat) (cur t r : List UInt8) (h : ∀ c ∈ t, c ≠ b) : cutL b (m + 1) cur (t ++ b :: r) = (cur ++ t) :: cutL b m [] r := by
  induction t generalizing cur with
  | nil => simp [cutL]
  | cons c t ih =>
    rw [List.cons_append, cutL, if_neg (h c (by simp)), ih (cur ++ [c]) (fun x hx => h x (by simp [hx]))]
    simp

/-- The model's parts: cut at commas that are not between brackets. -/
def partsL : Int → List UInt8 → List UInt8 → List (List UInt8)
  | _, cur, [] => [cur]
  | d, cur, c :: t =>
    if c = 91 then partsL (d + 1) (cur ++ [c]) t
    else if c = 93 then partsL (d - 1) (cur ++ [c]) t
    else if c = 44 ∧ d = 0 then cur :: partsL d [] t
    else partsL d (cur ++ [c]) t

theorem parts_pass (d : Int) (cur t r : List UInt8) (h : ∀ c ∈ t, c ≠ 91 ∧ c ≠ 93 ∧ (c = 44 → d ≠ 0)) : partsL d cur (t ++ r) = partsL d (cur ++ t) r := by
  induction t generalizing cur with
  | nil => simp
  | cons c t ih =>
    obtain ⟨h1, h2, h3⟩ := h c (by simp)
    rw [List.cons_append, partsL, if_neg h1, if_neg h2, if_neg (fun e => h3 e.1 e.2), ih (cur ++ [c]) (fun x hx => h x (by simp [hx]))]
    simp

/-- The model's range of numbers. -/
def rangeL (nm : ByteArray) : Nat → Int → Int → Hs → Hs
  | 0, _, _, out => out
  | f + 1, n, hi, out => if n ≤ hi ∧ out.length ≤ 30 ∧ n ≤ 999 then rangeL nm f (n + 1) hi (out ++ [(nm, n)]) else out

theorem range_stop (nm : ByteArray) (f : Nat) (n hi : Int) (out : Hs) (h : ¬ (n ≤ hi ∧ out.length ≤ 30 ∧ n ≤ 999)) : rangeL nm f n hi out = out := by
  cases f with
  | zero => rfl
  | succ f => rw [rangeL, if_neg h]

theorem range_seq (nm : ByteArray) (f : Nat) (n hi : Int) (k : Nat) (out : Hs) (hf : k ≤ f) (hk : n + k = hi + 1) (h9 : hi ≤ 999) (hl : out.length + k ≤ 31) : rangeL nm f n hi out = out ++ seqH nm n k := by
  induction k generalizing f n out with
  | zero => rw [range_stop _ _ _ _ _ (by omega)]; simp [seqH]
  | succ k ih =>
    obtain ⟨g, rfl⟩ : ∃ g, f = g + 1 := ⟨f - 1, by omega⟩
    rw [rangeL, if_pos (by omega), ih g (n + 1) _ (by omega) (by omega) (by simp; omega)]
    simp [seqH]

theorem range_len (nm : ByteArray) (f : Nat) (n hi : Int) (out : Hs) : (rangeL nm f n hi out).length ≤ max out.length 31 := by
  induction f generalizing n out with
  | zero => simp [rangeL]; omega
  | succ f ih =>
    rw [rangeL]
    split
    · have := ih (n + 1) (out ++ [(nm, n)])
      simp at this
      omega
    · omega

def rangeOf (nm : ByteArray) (t : List UInt8) (out : Hs) : Hs :=
  match cutL 45 1 [] t with
  | a :: b :: _ => rangeL nm (31 - out.length) (numOf a) (numOf b) out
  | a :: _ => rangeL nm (31 - out.length) (numOf a) (numOf a) out
  | _ => out

/-- The host that the model reads of a text; nothing, if it is none. -/
def getHost (s : ByteArray) : ByteArray × Int := if getOk s = true then (getName s, getNum s) else (ByteArray.empty, 0)

def mkB (l : List UInt8) : ByteArray := ⟨l.toArray⟩

def partL (t : List UInt8) (out : Hs) : Hs :=
  match cutL 91 1 [] t with
  | a :: (c :: r) :: _ => (cutL 44 30 [] (c :: r).dropLast).foldl (fun o x => rangeOf (mkB a) x o) out
  | _ => out ++ [getHost (mkB t)]

/-- What the model reads of a text, ahead of holding it against the text. -/
def readS (t : List UInt8) : Hs := (partsL 0 [] t).foldl (fun o x => partL x o) []

/- Bytes of what is written. -/
theorem dec_bytes (u : Nat) (c : UInt8) (h : c ∈ Lib.decDigits u) : 48 ≤ c.toNat ∧ c.toNat ≤ 57 := by
  have := figAll_dec u
  unfold figAll at this
  rw [List.all_eq_true] at this
  have := this c h
  simp [figB] at this
  omega

theorem low_bytes (l : List UInt8) (hl : lowAll l = true) (c : UInt8) (h : c ∈ l) : 97 ≤ c.toNat ∧ c.toNat ≤ 122 := by
  unfold lowAll at hl
  rw [List.all_eq_true] at hl
  have := hl c h
  simp [lowB] at this
  omega

theorem ne_of_toNat {c d : UInt8} (h : c.toNat ≠ d.toNat) : c ≠ d := fun e => h (by rw [e])

theorem run_bytes (M : Nat → Int) (i k : Nat) (c : UInt8) (h : c ∈ runL M i k) : (48 ≤ c.toNat ∧ c.toNat ≤ 57) ∨ c.toNat = 45 := by
  unfold runL at h
  rw [List.mem_append] at h
  rcases h with h | h
  · exact Or.inl (dec_bytes _ _ h)
  · split at h
    · rcases List.mem_cons.1 h with e | h
      · right; rw [e]; rfl
      · exact Or.inl (dec_bytes _ _ h)
    · cases h

theorem nums_bytes (M : Nat → Int) (i n : Nat) (c : UInt8) (h : c ∈ numsL M i n) : (48 ≤ c.toNat ∧ c.toNat ≤ 57) ∨ c.toNat = 45 ∨ c.toNat = 44 := by
  generalize hd : n - i = d
  induction d using Nat.strongRecOn generalizing i with
  | _ d ih =>
    have hp := stretch_pos (nextP M) i n
    rw [numsL_eqn] at h
    split at h
    · rcases List.mem_append.1 h with h | h
      · rcases run_bytes _ _ _ _ h with h | h
        · exact Or.inl h
        · exact Or.inr (Or.inl h)
      · split at h
        · rcases List.mem_cons.1 h with e | h
          · right; right; rw [e]; rfl
          · exact ih _ (by omega) _ h rfl
        · cases h
    · cases h

theorem name_run {S : Nat → ByteArray} {i n j : Nat} (h1 : i ≤ j) (h2 : j < i + stretch (sameP S) i n) : S j = S i := by
  apply Go.WideShapes.bytes_inj
  have : (S j).toList = (S i).toList := by
    have hk := same_chain S i (j - i + 1) (by omega) (fun x a b => stretch_all (sameP S) i n x a (by omega))
    rw [show i + (j - i + 1) - 1 = j by omega] at hk
    exact hk
  rw [ByteArray.toList_eq, ByteArray.toList_eq] at this
  exact this

/-- A run of numbers, read by the model. -/
theorem rangeOf_run (nm : ByteArray) (M : Nat → Int) (i k : Nat) (out : Hs) (hk : 1 ≤ k) (h0 : ∀ j, i ≤ j → j < i + k → 0 ≤ M j ∧ M j ≤ 999) (hn : ∀ j, i < j → j < i + k → nextP M j = true) (hl : out.length + k ≤ 30) :
    rangeOf nm (runL M i k) out = out ++ seqH nm (M i) k := by
  have a0 := h0 i (Nat.le_refl _) (by omega)
  have e0 : numOf (decL (M i)) = M i := by unfold decL; rw [numOf_dec _ (by omega)]; omega
  have hne : ∀ u c, c ∈ decL u → c ≠ 45 := fun u c hc => ne_of_toNat (by have := dec_bytes _ _ hc; show c.toNat ≠ 45; omega)
  unfold rangeOf runL
  by_cases h1 : 1 < k
  · rw [if_pos h1, cut_at 45 0 [] _ _ (hne _), cut_zero]
    have a1 := h0 (i + k - 1) (by omega) (by omega)
    have e1 : numOf (decL (M (i + k - 1))) = M (i + k - 1) := by unfold decL; rw [numOf_dec _ (by omega)]; omega
    have hc := next_chain M i k hk hn
    simp only [List.nil_append]
    rw [e0, e1, hc]
    exact range_seq nm _ _ _ k out (by omega) (by omega) (by omega) (by omega)
  · have : k = 1 := by omega
    subst this
    rw [if_neg h1, List.append_nil, cut_none 45 1 [] _ (hne _)]
    simp only [List.nil_append]
    rw [e0]
    exact range_seq nm _ _ _ 1 out (by omega) (by omega) (by omega) (by omega)

/-- The numbers of one name, read by the model. -/
theorem nums_read (nm : ByteArray) (S : Nat → ByteArray) (M : Nat → Int) (i n m : Nat) (out : Hs) (hi : i < n) (hS : ∀ j, i ≤ j → j < n → S j = nm) (h0 : ∀ j, i ≤ j → j < n → 0 ≤ M j ∧ M j ≤ 999) (hl : out.length + (n - i) ≤ 30) (hm : n - i ≤ m) :
    (cutL 44 m [] (numsL M i n)).foldl (fun o x => rangeOf nm x o) out = out ++ hostsFrom S M i (n - i) := by
  generalize hd : n - i = d
  induction d using Nat.strongRecOn generalizing i out m with
  | _ d ih =>
    have hp := stretch_pos (nextP M) i n
    have hle := stretch_le (nextP M) i n hi
    have hrun := fun out hl => rangeOf_run nm M i (stretch (nextP M) i n) out hp (fun j a b => h0 j a (by omega)) (fun j a b => stretch_all (nextP M) i n j a b) hl
    have hne : ∀ c, c ∈ runL M i (stretch (nextP M) i n) → c ≠ 44 := fun c hc => ne_of_toNat (by have := run_bytes _ _ _ _ hc; show c.toNat ≠ 44; omega)
    have hseq := hosts_seq S M nm i (stretch (nextP M) i n) (fun j a b => hS j a (by omega)) (fun j a b => stretch_all (nextP M) i n j a b)
    rw [numsL_eqn, dif_pos hi]
    by_cases hlt : i + stretch (nextP M) i n < n
    · obtain ⟨m', rfl⟩ : ∃ m', m = m' + 1 := ⟨m - 1, by omega⟩
      rw [if_pos hlt, cut_at 44 m' [] _ _ hne, List.foldl_cons, List.nil_append, hrun out (by omega)]
      rw [ih (n - (i + stretch (nextP M) i n)) (by omega) (i + stretch (nextP M) i n) m' _ hlt (fun j a b => hS j (by omega) b) (fun j a b => h0 j (by omega) b) (by rw [List.length_append, seqH_len]; omega) (by omega) rfl]
      rw [← hseq, List.append_assoc, ← hostsFrom_add]
      congr 2; omega
    · rw [if_neg hlt, List.append_nil, cut_none 44 m [] _ hne, List.foldl_cons, List.foldl_nil, List.nil_append, hrun out (by omega), ← hseq]
      congr 2; omega

theorem okB_low {s : ByteArray} {n : Int} (h : okB s n = true) : lowAll s.data.toList = true := by
  unfold okB at h; rw [Bool.and_eq_true] at h; exact h.1

theorem mkB_data (s : ByteArray) : mkB s.data.toList = s := by
  apply Go.WideShapes.bytes_inj; simp [mkB]

theorem getHost_put (s : ByteArray) (n : Int) (h : okB s n = true) : getHost (mkB (s.data.toList ++ decL n)) = (s, n) := by
  have e : mkB (s.data.toList ++ decL n) = putS s n := by
    unfold putS; rw [if_pos h]
    apply Go.WideShapes.bytes_inj; simp [mkB, decS, decL]
  have := get_put s n h
  rw [e]
  unfold getVal at this
  unfold getHost
  by_cases hk : getOk (putS s n) = true
  · rw [if_pos hk] at this ⊢
    simp at this
    exact Prod.ext this.1 this.2
  · rw [if_neg hk] at this
    simp at this

/-- One name with its numbers, read by the model. -/
theorem part_name (S : Nat → ByteArray) (M : Nat → Int) (i k : Nat) (out : Hs) (hk : 1 ≤ k) (hok : ∀ j, i ≤ j → j < i + k → okB (S j) (M j) = true) (hS : ∀ j, i ≤ j → j < i + k → S j = S i) (hl : out.length + k ≤ 30) :
    partL (nameL S M i k) out = out ++ hostsFrom S M i k := by
  have hlow := low_bytes _ (okB_low (hok i (Nat.le_refl _) (by omega)))
  have hne : ∀ c, c ∈ (S i).data.toList → c ≠ 91 := fun c hc => ne_of_toNat (by have := hlow c hc; show c.toNat ≠ 91; omega)
  unfold partL nameL
  by_cases h1 : k = 1
  · subst h1
    rw [if_pos rfl]
    have hne2 : ∀ c, c ∈ (S i).data.toList ++ decL (M i) → c ≠ 91 := by
      intro c hc
      rcases List.mem_append.1 hc with h | h
      · exact hne c h
      · exact ne_of_toNat (by have := dec_bytes _ _ h; show c.toNat ≠ 91; omega)
    rw [cut_none 91 1 [] _ hne2]
    dsimp only
    rw [getHost_put _ _ (hok i (Nat.le_refl _) (by omega))]
    rfl
  · rw [if_neg h1, cut_at 91 0 [] _ _ hne, cut_zero]
    simp only [List.nil_append]
    cases hx : numsL M i (i + k) ++ [93] with
    | nil => simp at hx
    | cons c r =>
      dsimp only
      rw [← hx, List.dropLast_concat, mkB_data]
      have := nums_read (S i) S M i (i + k) 30 out (by omega) (fun j a b => hS j a b) (fun j a b => (okB_num (hok j a b)).2) (by omega) (by omega)
      rw [this]
      congr 2; omega

/-- A name with its numbers passes as one part. -/
theorem name_pass (S : Nat → ByteArray) (M : Nat → Int) (i k : Nat) (cur r : List UInt8) (hlow : lowAll (S i).data.toList = true) : partsL 0 cur (nameL S M i k ++ r) = partsL 0 (cur ++ nameL S M i k) r := by
  have h1 : ∀ c ∈ (S i).data.toList, c ≠ 91 ∧ c ≠ 93 ∧ (c = 44 → (0 : Int) ≠ 0) := fun c hc => by
    have := low_bytes _ hlow c hc
    exact ⟨ne_of_toNat (by show c.toNat ≠ 91; omega), ne_of_toNat (by show c.toNat ≠ 93; omega), fun e => by rw [e] at this; simp at this⟩
  unfold nameL
  split
  · refine parts_pass 0 cur _ r ?_
    intro c hc
    rcases List.mem_append.1 hc with h | h
    · exact h1 c h
    · have := dec_bytes _ _ h
      exact ⟨ne_of_toNat (by show c.toNat ≠ 91; omega), ne_of_toNat (by show c.toNat ≠ 93; omega), fun e => by rw [e] at this; simp at this⟩
  · have h2 : ∀ c ∈ numsL M i (i + k), c ≠ 91 ∧ c ≠ 93 ∧ (c = 44 → (0 + 1 : Int) ≠ 0) := fun c hc => by
      have := nums_bytes _ _ _ _ hc
      exact ⟨ne_of_toNat (by show c.toNat ≠ 91; omega), ne_of_toNat (by show c.toNat ≠ 93; omega), fun _ => by decide⟩
    rw [List.append_assoc, parts_pass 0 cur _ _ h1, List.cons_append, partsL, if_pos rfl, List.append_assoc (numsL M i (i + k)), parts_pass (0 + 1) _ (numsL M i (i + k)) ([93] ++ r) h2]
    rw [List.singleton_append, partsL, if_neg (by decide), if_pos rfl]
    simp

/-- What was folded is read back by the model. -/
theorem read_from (S : Nat → ByteArray) (M : Nat → Int) (i n : Nat) (out : Hs) (hi : i < n) (hok : ∀ j, i ≤ j → j < n → okB (S j) (M j) = true) (hl : out.length + (n - i) ≤ 30) :
    (partsL 0 [] (foldL S M i n)).foldl (fun o x => partL x o) out = out ++ hostsFrom S M i (n - i) := by
  generalize hd : n - i = d
  induction d using Nat.strongRecOn generalizing i out with
  | _ d ih =>
    have hp := stretch_pos (sameP S) i n
    have hle := stretch_le (sameP S) i n hi
    have hpart := fun out hl => part_name S M i (stretch (sameP S) i n) out hp (fun j a b => hok j a (by omega)) (fun j a b => name_run a b) hl
    have hlow := okB_low (hok i (Nat.le_refl _) hi)
    rw [foldL_eqn, dif_pos hi, name_pass _ _ _ _ _ _ hlow, List.nil_append]
    by_cases hlt : i + stretch (sameP S) i n < n
    · rw [if_pos hlt, partsL, if_neg (by decide), if_neg (by decide), if_pos ⟨rfl, rfl⟩, List.foldl_cons, hpart out (by omega)]
      rw [ih (n - (i + stretch (sameP S) i n)) (by omega) (i + stretch (sameP S) i n) _ hlt (fun j a b => hok j (by omega) b) (by rw [List.length_append, hostsFrom_len]; omega) rfl]
      rw [List.append_assoc, ← hostsFrom_add]
      congr 2; omega
    · rw [if_neg hlt]
      show List.foldl _ out [nameL S M i (stretch (sameP S) i n)] = _
      rw [List.foldl_cons, List.foldl_nil, hpart out (by omega)]
      congr 2; omega

theorem readS_fold (S : Nat → ByteArray) (M : Nat → Int) (n : Nat) (hn : 0 < n) (h30 : n ≤ 30) (hok : ∀ j, j < n → okB (S j) (M j) = true) : readS (foldL S M 0 n) = hostsFrom S M 0 n := by
  have := read_from S M 0 n [] hn (fun j _ b => hok j b) (by simpa using h30)
  simpa [readS] using this

end Go.Proofs.YtahhjhhnjpbocaaDoor
