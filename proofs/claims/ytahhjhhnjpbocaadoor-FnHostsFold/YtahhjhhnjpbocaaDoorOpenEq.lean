/- DERIVED. Plain: both readings come to the same. -/
import Derived.Test.YtahhjhhnjpbocaaDoorOpenPlain2
namespace Go.Proofs.YtahhjhhnjpbocaaDoor

def Sof (o : Hs) (i : Nat) : ByteArray := (o.getD i (ByteArray.empty, 0)).1
def Mof (o : Hs) (i : Nat) : Int := (o.getD i (ByteArray.empty, 0)).2

theorem hosts_of (o : Hs) : hostsFrom (Sof o) (Mof o) 0 o.length = o := by
  have hg : ∀ (k : Nat) (pre rest : Hs), pre ++ rest = o → rest.length = k → hostsFrom (Sof o) (Mof o) pre.length k = rest := by
    intro k
    induction k with
    | zero => intro pre rest _ hr; rw [List.eq_nil_of_length_eq_zero hr]; rfl
    | succ k ih =>
      intro pre rest hp hr
      cases rest with
      | nil => simp at hr
      | cons h t =>
        have e : o[pre.length]? = some h := by rw [← hp]; simp
        have := ih (pre ++ [h]) t (by simpa using hp) (by simpa using hr)
        rw [hostsFrom]
        have e1 : (Sof o pre.length, Mof o pre.length) = h := by simp [Sof, Mof, List.getD, e]
        rw [e1]
        rw [List.length_append, List.length_singleton] at this
        rw [this]
  exact hg o.length [] o rfl rfl

def okH (o : Hs) : Bool := listOk (Sof o) (Mof o) o.length
def foldH (o : Hs) : List UInt8 := foldL (Sof o) (Mof o) 0 o.length

theorem okUpto_each (S : Nat → ByteArray) (M : Nat → Int) (n i : Nat) (h : okUpto S M n = true) (hi : i < n) : okB (S i) (M i) = true := by
  cases e : okB (S i) (M i)
  · have := okUpto_le S M (k := i + 1) (n := n) (by omega) (by simp [okUpto, e])
    rw [h] at this; cases this
  · rfl

theorem okH_each (o : Hs) (h : okH o = true) : o.length ≤ 30 ∧ ∀ j, j < o.length → okB (Sof o j) (Mof o j) = true := by
  unfold okH listOk at h
  rw [Bool.and_eq_true, decide_eq_true_eq] at h
  exact ⟨by omega, fun j hj => okUpto_each _ _ _ _ h.1 hj⟩

theorem foldH_nil : foldH [] = [] := by
  unfold foldH; rw [foldL_eqn, dif_neg (by simp)]

def openS (s : ByteArray) : Option Hs :=
  if s.size = 0 then some [] else if 400 < s.size then none else
    if okH (readS s.data.toList) = true ∧ foldH (readS s.data.toList) = s.data.toList then some (readS s.data.toList) else none

def foldO (o : Hs) : List UInt8 := if okH o = true then foldH o else []

def openI (s : ByteArray) : Option Hs :=
  if 400 < s.size then none else
    match readI (s.data.toList.length + 1) s.data.toList [] with
    | none => none
    | some o => if foldO o = s.data.toList then some o else none

theorem readI_more (f g : Nat) (t : List UInt8) (out : Hs) (hf : t.length < f) (hg : t.length < g) : readI f t out = readI g t out := by
  induction f generalizing g t out with
  | zero => omega
  | succ f ih =>
    obtain ⟨g', rfl⟩ : ∃ g', g = g' + 1 := ⟨g - 1, by omega⟩
    rw [readI, readI]
    split
    · rfl
    · rename_i ht
      have hb := behind_lt t ht
      split
      · rfl
      · exact ih g' _ _ (by omega) (by omega)

theorem readI_back (o : Hs) (t : List UInt8) (hok : okH o = true) (hf : foldH o = t) (ht : t ≠ []) : readI (t.length + 1) t [] = some o ∧ readS t = o := by
  have ho : 0 < o.length := by
    rcases Nat.eq_zero_or_pos o.length with e | e
    · rw [List.eq_nil_of_length_eq_zero e, foldH_nil] at hf; exact absurd hf.symm ht
    · exact e
  obtain ⟨h30, hall⟩ := okH_each o hok
  constructor
  · rw [readI_more (t.length + 1) (t.length + 1 + 31) t [] (by omega) (by omega), ← hf]
    have := readI_from (Sof o) (Mof o) 0 o.length ((foldH o).length + 1 + 31) [] ho (by omega) (by omega) (fun j _ b => hall j b)
    rw [Nat.sub_zero, hosts_of, List.nil_append] at this
    exact this
  · have := readS_fold (Sof o) (Mof o) o.length ho h30 (fun j hj => hall j hj)
    rw [hosts_of] at this
    rw [← hf]; exact this

theorem open_same (s : ByteArray) : openI s = openS s := by
  have hsz : s.data.toList.length = s.size := by simp
  unfold openI openS
  by_cases h0 : s.size = 0
  · have e : s.data.toList = [] := List.eq_nil_of_length_eq_zero (by omega)
    rw [if_neg (by omega), if_pos h0, e, readI_nil]
    dsimp only
    rw [if_pos]
    unfold foldO
    split
    · exact foldH_nil
    · rfl
  · have hne : s.data.toList ≠ [] := fun e => h0 (by rw [← hsz, e]; rfl)
    rw [if_neg h0]
    by_cases h4 : 400 < s.size
    · rw [if_pos h4, if_pos h4]
    · rw [if_neg h4, if_neg h4]
      by_cases hS : okH (readS s.data.toList) = true ∧ foldH (readS s.data.toList) = s.data.toList
      · rw [if_pos hS]
        obtain ⟨h1, h2⟩ := readI_back _ _ hS.1 hS.2 hne
        rw [h1]
        dsimp only
        rw [if_pos]
        unfold foldO
        rw [if_pos hS.1]; exact hS.2
      · rw [if_neg hS]
        split
        · rfl
        · rename_i o ho
          rw [if_neg]
          intro hf
          apply hS
          unfold foldO at hf
          split at hf
          · rename_i hok
            obtain ⟨_, h2⟩ := readI_back o _ hok hf hne
            rw [h2]; exact ⟨hok, hf⟩
          · exact absurd hf.symm hne

/- Names are no longer than the text. -/
theorem range_names (nm : ByteArray) (k : Nat) (hnm : nm.size ≤ k) (f : Nat) (n hi : Int) (out : Hs) (ho : ∀ h ∈ out, h.1.size ≤ k) : ∀ h ∈ rangeL nm f n hi out, h.1.size ≤ k := by
  induction f generalizing n out with
  | zero => exact ho
  | succ f ih =>
    rw [rangeL]
    split
    · refine ih _ _ ?_
      intro h hh
      rcases List.mem_append.1 hh with h1 | h1
      · exact ho h h1
      · rw [List.mem_singleton] at h1; rw [h1]; exact hnm
    · exact ho

theorem rangeOf_names (nm : ByteArray) (k : Nat) (hnm : nm.size ≤ k) (t : List UInt8) (out : Hs) (ho : ∀ h ∈ out, h.1.size ≤ k) : ∀ h ∈ rangeOf nm t out, h.1.size ≤ k := by
  unfold rangeOf
  split
  · exact range_names nm k hnm _ _ _ out ho
  · exact range_names nm k hnm _ _ _ out ho
  · exact ho

theorem rangeAll_names (nm : ByteArray) (k : Nat) (hnm : nm.size ≤ k) (L : List (List UInt8)) (out : Hs) (ho : ∀ h ∈ out, h.1.size ≤ k) : ∀ h ∈ L.foldl (fun o x => rangeOf nm x o) out, h.1.size ≤ k := by
  induction L generalizing out with
  | nil => exact ho
  | cons x L ih => exact ih _ (rangeOf_names nm k hnm x out ho)

theorem seq_names (nm : ByteArray) (k : Nat) (hnm : nm.size ≤ k) (n : Int) (m : Nat) : ∀ h ∈ seqH nm n m, h.1.size ≤ k := by
  induction m generalizing n with
  | zero => intro h hh; cases hh
  | succ m ih =>
    intro h hh
    rcases List.mem_cons.1 hh with e | h1
    · rw [e]; exact hnm
    · exact ih _ h h1

end Go.Proofs.YtahhjhhnjpbocaaDoor
