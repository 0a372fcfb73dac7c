/- DERIVED. Plain: how long a fold is at most, and that it is read back. -/
import Derived.Test.YtahhjhhnjpbocaaDoorOpenEq
namespace Go.Proofs.YtahhjhhnjpbocaaDoor

theorem stretch_stop (p : Nat → Bool) (i n : Nat) (hi : i < n) (h : i + stretch p i n < n) : p (i + stretch p i n) = false := by
  generalize hd : n - i = d
  induction d generalizing i with
  | zero => omega
  | succ d ih =>
    by_cases hc : i + 1 < n ∧ p (i + 1) = true
    · have e : stretch p i n = stretch p (i + 1) n + 1 := by rw [stretch_eqn, dif_pos hc]
      rw [e] at h ⊢
      have := ih (i + 1) hc.1 (by omega) (by omega)
      rw [show i + (stretch p (i + 1) n + 1) = i + 1 + stretch p (i + 1) n by omega]
      exact this
    · have e : stretch p i n = 1 := by rw [stretch_eqn, dif_neg hc]
      rw [e] at h ⊢
      cases hp : p (i + 1)
      · rfl
      · exact absurd ⟨h, hp⟩ hc

/-- So much the decimals of k numbers take, each with one byte more. -/
def dR (M : Nat → Int) (i : Nat) : Nat → Nat
  | 0 => 0
  | k + 1 => dR M i k + ((decL (M (i + k))).length + 1)

theorem dR_add (M : Nat → Int) (i a b : Nat) : dR M i (a + b) = dR M i a + dR M (i + a) b := by
  induction b with
  | zero => rfl
  | succ b ih => rw [← Nat.add_assoc, dR, ih, dR, show i + (a + b) = i + a + b by omega]; omega

theorem run_wt (M : Nat → Int) (i k : Nat) (hk : 1 ≤ k) : (runL M i k).length + 1 ≤ dR M i k := by
  unfold runL
  by_cases h1 : 1 < k
  · obtain ⟨m, rfl⟩ : ∃ m, k = 1 + (m + 1) := ⟨k - 2, by omega⟩
    rw [if_pos h1, dR_add M i 1 (m + 1)]
    have e : i + (1 + (m + 1)) - 1 = i + 1 + m := by omega
    rw [e]
    simp only [dR, List.length_append, List.length_cons, Nat.add_zero]
    omega
  · have : k = 1 := by omega
    subst this
    simp [dR]

theorem nums_wt (M : Nat → Int) (i n : Nat) (hi : i < n) : (numsL M i n).length + 1 ≤ dR M i (n - i) := by
  generalize hd : n - i = d
  induction d using Nat.strongRecOn generalizing i with
  | _ d ih =>
    have hp := stretch_pos (nextP M) i n
    have hle := stretch_le (nextP M) i n hi
    have hr := run_wt M i (stretch (nextP M) i n) hp
    rw [numsL_eqn, dif_pos hi, List.length_append]
    obtain ⟨r, hrr⟩ : ∃ r, d = stretch (nextP M) i n + r := ⟨d - stretch (nextP M) i n, by omega⟩
    rw [hrr, dR_add]
    by_cases hlt : i + stretch (nextP M) i n < n
    · have := ih (n - (i + stretch (nextP M) i n)) (by omega) _ hlt rfl
      rw [if_pos hlt, List.length_cons]
      rw [show n - (i + stretch (nextP M) i n) = r by omega] at this
      omega
    · rw [if_neg hlt, List.length_nil]; omega

/-- What the law counts for one host. -/
def wOf (S : Nat → ByteArray) (M : Nat → Int) (i : Nat) : Nat := (S i).size + (decL (M i)).length + 1 + (if i = 0 ∨ sameP S i = false then 1 else 0)

def wR (S : Nat → ByteArray) (M : Nat → Int) (i : Nat) : Nat → Nat
  | 0 => 0
  | k + 1 => wR S M i k + wOf S M (i + k)

theorem wR_add (S : Nat → ByteArray) (M : Nat → Int) (i a b : Nat) : wR S M i (a + b) = wR S M i a + wR S M (i + a) b := by
  induction b with
  | zero => rfl
  | succ b ih => rw [← Nat.add_assoc, wR, ih, wR, show i + (a + b) = i + a + b by omega]; omega

theorem wR_ge (S : Nat → ByteArray) (M : Nat → Int) (i k : Nat) : dR M i k + k * 0 ≤ wR S M i k ∧ ∀ c, (∀ j, i ≤ j → j < i + k → c ≤ (S j).size) → k * c + dR M i k ≤ wR S M i k := by
  induction k with
  | zero => exact ⟨by simp [dR], fun c _ => by simp [dR]⟩
  | succ k ih =>
    constructor
    · have := ih.1
      simp only [dR, wR, wOf] at this ⊢
      omega
    · intro c hc
      have h1 := ih.2 c (fun j a b => hc j a (by omega))
      have h2 := hc (i + k) (by omega) (by omega)
      simp only [dR, wR, wOf]
      rw [Nat.succ_mul]
      omega

theorem name_wt (S : Nat → ByteArray) (M : Nat → Int) (i k : Nat) (hk : 1 ≤ k) (hfirst : i = 0 ∨ sameP S i = false) (hS : ∀ j, i ≤ j → j < i + k → S j = S i) (hs : 1 ≤ (S i).size) : (nameL S M i k).length + 1 ≤ wR S M i k := by
  have hsl : (S i).data.toList.length = (S i).size := by simp
  unfold nameL
  by_cases h1 : k = 1
  · subst h1
    rw [if_pos rfl, List.length_append, hsl]
    simp only [wR, wOf, Nat.add_zero]
    rw [if_pos hfirst]; omega
  · rw [if_neg h1]
    have hn := nums_wt M i (i + k) (by omega)
    rw [show i + k - i = k by omega] at hn
    obtain ⟨m, rfl⟩ : ∃ m, k = 1 + m := ⟨k - 1, by omega⟩
    rw [dR_add] at hn
    have h2 := (wR_ge S M (i + 1) m).2 (S i).size (fun j a b => by rw [hS j (by omega) (by omega)]; exact Nat.le_refl _)
    rw [wR_add]
    simp only [wR, wOf, dR, Nat.add_zero, Nat.zero_add] at hn ⊢
    rw [if_pos hfirst]
    simp only [List.length_append, List.length_cons, List.length_nil, hsl]
    have h3 : 1 ≤ m * (S i).size := Nat.mul_pos (by omega) hs
    omega

theorem fold_wt (S : Nat → ByteArray) (M : Nat → Int) (i n : Nat) (hi : i < n) (hfirst : i = 0 ∨ sameP S i = false) (hs : ∀ j, i ≤ j → j < n → 1 ≤ (S j).size) : (foldL S M i n).length + 1 ≤ wR S M i (n - i) := by
  generalize hd : n - i = d
  induction d using Nat.strongRecOn generalizing i with
  | _ d ih =>
    have hp := stretch_pos (sameP S) i n
    have hle := stretch_le (sameP S) i n hi
    have hr := name_wt S M i (stretch (sameP S) i n) hp hfirst (fun j a b => name_run a b) (hs i (Nat.le_refl _) hi)
    rw [foldL_eqn, dif_pos hi, List.length_append]
    obtain ⟨r, hrr⟩ : ∃ r, d = stretch (sameP S) i n + r := ⟨d - stretch (sameP S) i n, by omega⟩
    rw [hrr, wR_add]
    by_cases hlt : i + stretch (sameP S) i n < n
    · have := ih (n - (i + stretch (sameP S) i n)) (by omega) _ hlt (Or.inr (stretch_stop _ _ _ hi hlt)) (fun j a b => hs j (by omega) b) rfl
      rw [if_pos hlt, List.length_cons]
      rw [show n - (i + stretch (sameP S) i n) = r by omega] at this
      omega
    · rw [if_neg hlt, List.length_nil]; omega

theorem wR_le (S : Nat → ByteArray) (M : Nat → Int) (k : Nat) (h : ∀ j, j < k → okB (S j) (M j) = true) : wR S M 0 k ≤ 11 * k := by
  induction k with
  | zero => simp [wR]
  | succ k ih =>
    have h1 := ih (fun j hj => h j (by omega))
    have h2 := okB_num (h k (by omega))
    have h3 : (decL (M k)).length ≤ 3 := dec_len_le (M k).toNat 2 (by omega)
    rw [wR, Nat.zero_add]
    unfold wOf
    split <;> omega

theorem okB_pos {s : ByteArray} {n : Int} (h : okB s n = true) : 1 ≤ s.size := by
  simp [okB, inB] at h
  omega

theorem mkB_size' (l : List UInt8) : (mkB l).size = l.length := by simp [mkB, ByteArray.size]

/-- What is folded is read back. -/
theorem open_fold (o : Hs) (hok : okH o = true) : openS (mkB (foldH o)) = some o ∧ (foldH o).length ≤ 400 ∧ (0 < o.length → (foldH o).length < wR (Sof o) (Mof o) 0 o.length) := by
  obtain ⟨h30, hall⟩ := okH_each o hok
  by_cases h0 : o.length = 0
  · have e := List.eq_nil_of_length_eq_zero h0
    subst e
    refine ⟨?_, by rw [foldH_nil]; simp, fun h => by simp at h⟩
    rw [foldH_nil]
    rfl
  · have hw := fold_wt (Sof o) (Mof o) 0 o.length (by omega) (Or.inl rfl) (fun j _ hj => okB_pos (hall j hj))
    have hw2 := wR_le (Sof o) (Mof o) o.length hall
    rw [Nat.sub_zero] at hw
    have hl : (foldH o).length + 1 ≤ wR (Sof o) (Mof o) 0 o.length := hw
    refine ⟨?_, by omega, fun _ => by omega⟩
    have hb := fun hne => readI_back o (foldH o) hok rfl hne
    have hne : foldH o ≠ [] := by
      intro e
      unfold foldH at e
      rw [foldL_eqn, dif_pos (by omega)] at e
      have e1 := List.append_eq_nil_iff.1 e
      have hp := stretch_pos (sameP (Sof o)) 0 o.length
      have e2 := e1.1
      unfold nameL at e2
      split at e2
      · exact dec_ne _ (List.append_eq_nil_iff.1 e2).2
      · simp at e2
    have hsz : (mkB (foldH o)).size = (foldH o).length := mkB_size' _
    unfold openS
    rw [if_neg (by rw [hsz]; exact fun e => hne (List.eq_nil_of_length_eq_zero e)), if_neg (by omega)]
    have hlist : (mkB (foldH o)).data.toList = foldH o := by simp [mkB]
    rw [hlist, (hb hne).2, if_pos ⟨hok, rfl⟩]

end Go.Proofs.YtahhjhhnjpbocaaDoor
