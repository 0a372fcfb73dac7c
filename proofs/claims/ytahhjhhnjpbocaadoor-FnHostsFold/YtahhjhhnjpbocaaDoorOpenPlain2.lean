/- DERIVED. Plain functions and facts: how the program reads folded hosts. Nothing of the program's walks. -/
import Derived.Test.YtahhjhhnjpbocaaDoorOpenPlain
import Derived.Lib.SplitLaws
import Derived.Lib.IndexBytes
namespace Go.Proofs.YtahhjhhnjpbocaaDoor

theorem indexByte_hit (t r : List UInt8) (c : UInt8) (h : ∀ x ∈ t, x ≠ c) : Lib.indexByte (t ++ c :: r) c = t.length := by
  induction t with
  | nil => simp [Lib.indexByte]
  | cons a t ih =>
    have ha : (a == c) = false := by rw [beq_eq_false_iff_ne]; exact h a (by simp)
    have := ih (fun x hx => h x (by simp [hx]))
    rw [List.cons_append, Lib.indexByte, ha, this]
    have hn : (((t.length : Int)) == -1) = false := by rw [beq_eq_false_iff_ne]; omega
    simp only [hn]
    simp

theorem indexByte_miss (t : List UInt8) (c : UInt8) (h : ∀ x ∈ t, x ≠ c) : Lib.indexByte t c = -1 := by
  induction t with
  | nil => rfl
  | cons a t ih =>
    have ha : (a == c) = false := by rw [beq_eq_false_iff_ne]; exact h a (by simp)
    rw [Lib.indexByte, ha, ih (fun x hx => h x (by simp [hx]))]
    rfl

theorem cut_hit (t r : List UInt8) (c : UInt8) (h : ∀ x ∈ t, x ≠ c) : Lib.cut (t ++ c :: r) [c] = (t, r, true) := by
  unfold Lib.cut
  rw [Lib.index_one, indexByte_hit t r c h, if_pos (by omega)]
  simp

theorem cut_miss (t : List UInt8) (c : UInt8) (h : ∀ x ∈ t, x ≠ c) : Lib.cut t [c] = (t, [], false) := by
  unfold Lib.cut
  rw [Lib.index_one, indexByte_miss t c h, if_neg (by omega)]

theorem split_hit (t r : List UInt8) (c : UInt8) (h : ∀ x ∈ t, x ≠ c) : Lib.split (t ++ c :: r) [c] = t :: Lib.split r [c] := by
  unfold Lib.split
  have hc : Lib.count (t ++ c :: r) [c] = Lib.count r [c] + 1 := by
    rw [Lib.count_one, Lib.count_one, List.count_append, List.count_cons_self]
    rw [List.count_eq_zero.2 (fun hm => h c hm rfl)]; omega
  rw [hc, Lib.splitK, Lib.index_one, indexByte_hit t r c h]
  have hn : (((t.length : Int)) == -1) = false := by rw [beq_eq_false_iff_ne]; omega
  simp [hn]

theorem split_miss (t : List UInt8) (c : UInt8) (h : ∀ x ∈ t, x ≠ c) : Lib.split t [c] = [t] := by
  unfold Lib.split
  have hc : Lib.count t [c] = 0 := by
    rw [Lib.count_one, List.count_eq_zero.2 (fun hm => h c hm rfl)]
  rw [hc]; rfl

/-- A number, or a first and a last one: what the program reads. -/
def numsI (t : List UInt8) : Option (Int × Int) :=
  if isNum (Lib.cut t [45]).1 = true then
    (if (Lib.cut t [45]).2.2 = true then (if isNum (Lib.cut t [45]).2.1 = true then some (numOf (Lib.cut t [45]).1, numOf (Lib.cut t [45]).2.1) else none)
     else some (numOf (Lib.cut t [45]).1, numOf (Lib.cut t [45]).1))
  else none

def addI (nm : ByteArray) (out : Hs) (t : List UInt8) : Option Hs :=
  match numsI t with
  | none => none
  | some (a, b) => if 30 ≤ b - a then none else some (out ++ seqH nm a (b + 1 - a).toNat)

def addAll (nm : ByteArray) : List (List UInt8) → Hs → Option Hs
  | [], out => some out
  | t :: l, out => match addI nm out t with
    | none => none
    | some o => addAll nm l o

def cutI (t : List UInt8) : List UInt8 × List UInt8 :=
  if Lib.hasPrefix t [91] = true then ((Lib.cut (Lib.trimPrefix t [91]) [93]).1, Lib.trimPrefix (Lib.cut (Lib.trimPrefix t [91]) [93]).2.1 [44])
  else ((Lib.cut t [44]).1, (Lib.cut t [44]).2.1)

/-- What the program reads of a text, ahead of holding it against the text. -/
def readI : Nat → List UInt8 → Hs → Option Hs
  | 0, _, out => some out
  | f + 1, t, out => if t = [] then some out else
    match addAll (mkB (t.take (lead t))) (Lib.split (cutI (t.drop (lead t))).1 [44]) out with
    | none => none
    | some o => readI f (cutI (t.drop (lead t))).2 o

theorem numsI_run (M : Nat → Int) (i k : Nat) (hk : 1 ≤ k) (h0 : ∀ j, i ≤ j → j < i + k → 0 ≤ M j ∧ M j ≤ 999) : numsI (runL M i k) = some (M i, M (i + k - 1)) := by
  have a0 := h0 i (Nat.le_refl _) (by omega)
  have a1 := h0 (i + k - 1) (by omega) (by omega)
  have e0 : numOf (decL (M i)) = M i := by unfold decL; rw [numOf_dec _ (by omega)]; omega
  have i0 : isNum (decL (M i)) = true := isNum_dec _ (by omega)
  have e1 : numOf (decL (M (i + k - 1))) = M (i + k - 1) := by unfold decL; rw [numOf_dec _ (by omega)]; omega
  have i1 : isNum (decL (M (i + k - 1))) = true := isNum_dec _ (by omega)
  have hne : ∀ u c, c ∈ decL u → c ≠ 45 := fun u c hc => ne_of_toNat (by have := dec_bytes _ _ hc; show c.toNat ≠ 45; omega)
  unfold numsI runL
  by_cases h1 : 1 < k
  · rw [if_pos h1, cut_hit _ _ _ (hne _)]
    simp only [i0, i1, e0, e1, if_true]
  · have : k = 1 := by omega
    subst this
    rw [if_neg h1, List.append_nil, cut_miss _ _ (hne _)]
    simp [i0, e0]

theorem addI_run (nm : ByteArray) (M : Nat → Int) (i k : Nat) (out : Hs) (hk : 1 ≤ k) (hk30 : k ≤ 30) (h0 : ∀ j, i ≤ j → j < i + k → 0 ≤ M j ∧ M j ≤ 999) (hn : ∀ j, i < j → j < i + k → nextP M j = true) :
    addI nm out (runL M i k) = some (out ++ seqH nm (M i) k) := by
  unfold addI
  rw [numsI_run M i k hk h0]
  have hc := next_chain M i k hk hn
  dsimp only
  rw [hc, if_neg (by omega), show (M i + ((k : Int) - 1) + 1 - M i).toNat = k by omega]

theorem nums_readI (nm : ByteArray) (S : Nat → ByteArray) (M : Nat → Int) (i n : Nat) (out : Hs) (hi : i < n) (hS : ∀ j, i ≤ j → j < n → S j = nm) (h0 : ∀ j, i ≤ j → j < n → 0 ≤ M j ∧ M j ≤ 999) (hl : n - i ≤ 30) :
    addAll nm (Lib.split (numsL M i n) [44]) out = some (out ++ hostsFrom S M i (n - i)) := by
  generalize hd : n - i = d
  induction d using Nat.strongRecOn generalizing i out with
  | _ d ih =>
    have hp := stretch_pos (nextP M) i n
    have hle := stretch_le (nextP M) i n hi
    have hrun := addI_run nm M i (stretch (nextP M) i n) out hp (by omega) (fun j a b => h0 j a (by omega)) (fun j a b => stretch_all (nextP M) i n j a b)
    have hne : ∀ c, c ∈ runL M i (stretch (nextP M) i n) → c ≠ 44 := fun c hc => ne_of_toNat (by have := run_bytes _ _ _ _ hc; show c.toNat ≠ 44; omega)
    have hseq := hosts_seq S M nm i (stretch (nextP M) i n) (fun j a b => hS j a (by omega)) (fun j a b => stretch_all (nextP M) i n j a b)
    rw [numsL_eqn, dif_pos hi]
    by_cases hlt : i + stretch (nextP M) i n < n
    · rw [if_pos hlt, split_hit _ _ _ hne, addAll, hrun]
      dsimp only
      rw [ih (n - (i + stretch (nextP M) i n)) (by omega) (i + stretch (nextP M) i n) _ hlt (fun j a b => hS j (by omega) b) (fun j a b => h0 j (by omega) b) (by omega) rfl]
      rw [← hseq, List.append_assoc, ← hostsFrom_add]
      congr 3; omega
    · rw [if_neg hlt, List.append_nil, split_miss _ _ hne, addAll, hrun, ← hseq]
      dsimp only
      rw [addAll]
      congr 3; omega

theorem dec_cons (n : Int) : ∃ c r, decL n = c :: r ∧ 48 ≤ c.toNat ∧ c.toNat ≤ 57 := by
  cases h : decL n with
  | nil => exact absurd h (dec_ne _)
  | cons c r => exact ⟨c, r, rfl, dec_bytes n.toNat c (by unfold decL at h; rw [h]; simp)⟩

theorem lead_name (l t r : List UInt8) (c : UInt8) (hl : lowAll l = true) (ht : t = c :: r) (hc : ¬ (97 ≤ c.toNat ∧ c.toNat ≤ 122)) : lead (l ++ t) = l.length := by
  refine lead_append l t hl ?_
  intro c' t' e
  rw [ht] at e
  injection e with e1 e2
  rw [← e1]
  simp [lowB]; omega

theorem pre91 (c : UInt8) (r : List UInt8) (h : c.toNat ≠ 91) : Lib.hasPrefix (c :: r) [91] = false := by
  unfold Lib.hasPrefix
  have : ((91 : UInt8) == c) = false := by rw [beq_eq_false_iff_ne]; exact fun e => h (by rw [← e]; rfl)
  simp [List.isPrefixOf, this]

/-- One name with its numbers, and what stands behind it, read by the program. -/
theorem readI_name (S : Nat → ByteArray) (M : Nat → Int) (i k f : Nat) (out : Hs) (tail behind : List UInt8) (hk : 1 ≤ k) (hk30 : k ≤ 30) (hok : ∀ j, i ≤ j → j < i + k → okB (S j) (M j) = true) (hS : ∀ j, i ≤ j → j < i + k → S j = S i)
    (htail : tail = [] ∧ behind = [] ∨ tail = 44 :: behind) : readI (f + 1) (nameL S M i k ++ tail) out = readI f behind (out ++ hostsFrom S M i k) := by
  have hlow := okB_low (hok i (Nat.le_refl _) (by omega))
  have hnums := fun (out : Hs) => nums_readI (S i) S M i (i + k) out (by omega) hS (fun j a b => (okB_num (hok j a b)).2) (by omega)
  have hkk : i + k - i = k := by omega
  rw [hkk] at hnums
  have hin : ∀ c, c ∈ numsL M i (i + k) → c ≠ 93 := fun c hc => ne_of_toNat (by have := nums_bytes _ _ _ _ hc; show c.toNat ≠ 93; omega)
  unfold nameL
  by_cases h1 : k = 1
  · subst h1
    rw [if_pos rfl, List.append_assoc]
    obtain ⟨c, r, hc, hc1, hc2⟩ := dec_cons (M i)
    have hl : lead ((S i).data.toList ++ (decL (M i) ++ tail)) = (S i).data.toList.length := lead_name _ _ (r ++ tail) c hlow (by rw [hc]; rfl) (by omega)
    have hne : (S i).data.toList ++ (decL (M i) ++ tail) ≠ [] := by rw [hc]; simp
    rw [readI, if_neg hne, hl, List.take_left, List.drop_left, mkB_data]
    have hp : Lib.hasPrefix (decL (M i) ++ tail) [91] = false := by rw [hc]; exact pre91 _ _ (by omega)
    have hd : ∀ x ∈ decL (M i), x ≠ 44 := fun x hx => ne_of_toNat (by have := dec_bytes _ _ hx; show x.toNat ≠ 44; omega)
    have hcut : cutI (decL (M i) ++ tail) = (decL (M i), behind) := by
      unfold cutI
      rw [if_neg (by rw [hp]; decide)]
      rcases htail with ⟨rfl, rfl⟩ | rfl
      · rw [List.append_nil, cut_miss _ _ hd]
      · rw [cut_hit _ _ _ hd]
    rw [hcut]
    have hrun := hnums out
    have e1 : numsL M i (i + 1) = decL (M i) := by
      have hp := stretch_pos (nextP M) i (i + 1)
      have hle := stretch_le (nextP M) i (i + 1) (by omega)
      have hs : stretch (nextP M) i (i + 1) = 1 := by omega
      rw [numsL_eqn, dif_pos (by omega), hs, if_neg (by omega)]
      simp [runL]
    rw [e1] at hrun
    rw [hrun]
  · rw [if_neg h1, List.append_assoc]
    have hl : lead ((S i).data.toList ++ (91 :: (numsL M i (i + k) ++ [93]) ++ tail)) = (S i).data.toList.length := lead_name _ _ _ 91 hlow rfl (by decide)
    have hne : (S i).data.toList ++ (91 :: (numsL M i (i + k) ++ [93]) ++ tail) ≠ [] := by simp
    rw [readI, if_neg hne, hl, List.take_left, List.drop_left, mkB_data]
    have hcut : cutI (91 :: (numsL M i (i + k) ++ [93]) ++ tail) = (numsL M i (i + k), behind) := by
      unfold cutI
      have hp : Lib.hasPrefix (91 :: (numsL M i (i + k) ++ [93]) ++ tail) [91] = true := rfl
      have ht : Lib.trimPrefix (91 :: (numsL M i (i + k) ++ [93]) ++ tail) [91] = numsL M i (i + k) ++ 93 :: tail := by
        unfold Lib.trimPrefix; rw [if_pos hp]; simp
      rw [if_pos hp, ht, cut_hit _ _ _ hin]
      rcases htail with ⟨rfl, rfl⟩ | rfl
      · rfl
      · dsimp only
        unfold Lib.trimPrefix
        rw [if_pos (show Lib.hasPrefix (44 :: behind) [44] = true by simp [Lib.hasPrefix, List.isPrefixOf])]; rfl
    rw [hcut, hnums out]

theorem readI_nil (f : Nat) (out : Hs) : readI f [] out = some out := by
  cases f with
  | zero => rfl
  | succ f => rw [readI, if_pos rfl]

/-- What was folded is read back by the program. -/
theorem readI_from (S : Nat → ByteArray) (M : Nat → Int) (i n f : Nat) (out : Hs) (hi : i < n) (hf : n - i ≤ f) (h30 : n - i ≤ 30) (hok : ∀ j, i ≤ j → j < n → okB (S j) (M j) = true) :
    readI f (foldL S M i n) out = some (out ++ hostsFrom S M i (n - i)) := by
  generalize hd : n - i = d
  induction d using Nat.strongRecOn generalizing i out f with
  | _ d ih =>
    have hp := stretch_pos (sameP S) i n
    have hle := stretch_le (sameP S) i n hi
    obtain ⟨g, rfl⟩ : ∃ g, f = g + 1 := ⟨f - 1, by omega⟩
    have hname := fun tail behind ht => readI_name S M i (stretch (sameP S) i n) g out tail behind hp (by omega) (fun j a b => hok j a (by omega)) (fun j a b => name_run a b) ht
    rw [foldL_eqn, dif_pos hi]
    by_cases hlt : i + stretch (sameP S) i n < n
    · rw [if_pos hlt, hname _ _ (Or.inr rfl)]
      rw [ih (n - (i + stretch (sameP S) i n)) (by omega) (i + stretch (sameP S) i n) g _ hlt (by omega) (by omega) (fun j a b => hok j (by omega) b) rfl]
      rw [List.append_assoc, ← hostsFrom_add]
      congr 3; omega
    · rw [if_neg hlt, hname _ _ (Or.inl ⟨rfl, rfl⟩), readI_nil]
      congr 3; omega

theorem index_bd (t : List UInt8) (c : UInt8) : -1 ≤ Lib.indexByte t c ∧ Lib.indexByte t c < t.length := by
  induction t with
  | nil => simp [Lib.indexByte]
  | cons a t ih =>
    unfold Lib.indexByte
    split
    · simp
    · split
      · constructor
        · omega
        · simp; omega
      · simp only [List.length_cons]; omega

theorem cut_len (t : List UInt8) (c : UInt8) : (Lib.cut t [c]).1.length ≤ t.length ∧ (Lib.cut t [c]).2.1.length ≤ t.length ∧ (t ≠ [] → (Lib.cut t [c]).2.1.length < t.length) := by
  have := index_bd t c
  unfold Lib.cut
  rw [Lib.index_one]
  split
  · simp; omega
  · simp
    intro h
    cases t with
    | nil => exact absurd rfl h
    | cons => simp

theorem trim_len (t p : List UInt8) : (Lib.trimPrefix t p).length ≤ t.length := by
  unfold Lib.trimPrefix; split <;> simp

theorem cutI_len (t : List UInt8) : (cutI t).1.length ≤ t.length ∧ (cutI t).2.length ≤ t.length ∧ (t ≠ [] → (cutI t).2.length < t.length) := by
  unfold cutI
  split
  · rename_i hp
    have h1 := cut_len (Lib.trimPrefix t [91]) 93
    have h2 := trim_len t [91]
    have h3 := trim_len (Lib.cut (Lib.trimPrefix t [91]) [93]).2.1 [44]
    have h4 : (Lib.trimPrefix t [91]).length < t.length := by
      unfold Lib.trimPrefix
      rw [if_pos hp]
      cases t with
      | nil => simp [Lib.hasPrefix, List.isPrefixOf] at hp
      | cons => simp
    dsimp only
    exact ⟨by omega, by omega, fun _ => by omega⟩
  · have h1 := cut_len t 44
    exact ⟨h1.1, h1.2.1, h1.2.2⟩

theorem behind_lt (t : List UInt8) (h : t ≠ []) : (cutI (t.drop (lead t))).2.length < t.length := by
  have hl := lead_le t
  have h1 := cutI_len (t.drop (lead t))
  have hd : (t.drop (lead t)).length = t.length - lead t := by simp
  by_cases e : t.drop (lead t) = []
  · have h2 := h1.2.1
    rw [e] at h2 ⊢
    have : 0 < t.length := by cases t with
      | nil => exact absurd rfl h
      | cons => simp
    have h3 : ([] : List UInt8).length = 0 := rfl
    omega
  · have := h1.2.2 e
    omega

theorem addI_len (nm : ByteArray) (out o : Hs) (t : List UInt8) (h : addI nm out t = some o) : o.length ≤ out.length + 30 := by
  unfold addI at h
  split at h
  · cases h
  · split at h
    · cases h
    · injection h with h
      rw [← h, List.length_append, seqH_len]
      omega

end Go.Proofs.YtahhjhhnjpbocaaDoor
