/- DERIVED. With which record a text begins, and all records of a log: plain. -/
import Derived.Test.YtplbfllhimcpiaaGreatDoorLogPlain
import Derived.Test.YtplbfllhimcpiaaGreatDoorNumTrip
import Derived.Test.YtplbfllhimcpiaaGreatDoorRowStr
import Derived.Lib.IndexMore
import Derived.Lib.IndexBytes
namespace Go.Proofs.YtplbfllhimcpiaaGreatDoor

theorem first_at (c : UInt8) (l : List UInt8) : (∀ x ∈ l, x ≠ c) ∨ ∃ a r, l = a ++ c :: r ∧ ∀ x ∈ a, x ≠ c := by
  induction l with
  | nil => left; simp
  | cons b t ih =>
    by_cases hb : b = c
    · right; subst hb; exact ⟨[], t, rfl, by simp⟩
    · rcases ih with h | ⟨a, r, e, h⟩
      · left
        intro x hx
        rcases List.mem_cons.1 hx with rfl | hx
        · exact hb
        · exact h x hx
      · right
        refine ⟨b :: a, r, by rw [e]; rfl, ?_⟩
        intro x hx
        rcases List.mem_cons.1 hx with rfl | hx
        · exact hb
        · exact h x hx

/-- The record with which a text begins: of the length ahead of the first colon. -/
def oneL (a b : List UInt8) : Option ByteArray :=
  if 1 ≤ numOf a ∧ numOf a < b.length ∧ b[(numOf a).toNat]? = some 59 ∧ recOk (mkB (b.take (numOf a).toNat)) = true then some (mkB (b.take (numOf a).toNat)) else none

def oneR (s : ByteArray) : Option ByteArray := if (Lib.cut s.data.toList [58]).2.2 = true then oneL (Lib.cut s.data.toList [58]).1 (Lib.cut s.data.toList [58]).2.1 else none

theorem indexByte_miss (t : List UInt8) (c : UInt8) (h : ∀ x ∈ t, x ≠ c) : Lib.indexByte t c = -1 := by
  induction t with
  | nil => rfl
  | cons b t ih =>
    have h1 : b ≠ c := h b (by simp)
    have h2 := ih (fun x hx => h x (by simp [hx]))
    simp [Lib.indexByte, h1, h2]

theorem indexByte_hit (t r : List UInt8) (c : UInt8) (h : ∀ x ∈ t, x ≠ c) : Lib.indexByte (t ++ c :: r) c = t.length := by
  induction t with
  | nil => simp [Lib.indexByte]
  | cons b t ih =>
    have h1 : b ≠ c := h b (by simp)
    have h2 := ih (fun x hx => h x (by simp [hx]))
    simp only [List.cons_append, Lib.indexByte, h2]
    rw [if_neg (by simpa using h1), if_neg (by simp)]
    simp

theorem cut_hit (t r : List UInt8) (c : UInt8) (h : ∀ x ∈ t, x ≠ c) : Lib.cut (t ++ c :: r) [c] = (t, r, true) := by
  unfold Lib.cut
  rw [Lib.index_one, indexByte_hit t r c h]
  simp

theorem cut_miss (t : List UInt8) (c : UInt8) (h : ∀ x ∈ t, x ≠ c) : Lib.cut t [c] = (t, [], false) := by
  unfold Lib.cut
  rw [Lib.index_one, indexByte_miss t c h]
  simp

theorem oneR_miss {s : ByteArray} (h : ∀ x ∈ s.data.toList, x ≠ 58) : oneR s = none := by
  unfold oneR
  rw [cut_miss _ _ h]
  rfl

theorem oneR_hit {s : ByteArray} {a b : List UInt8} (e : s.data.toList = a ++ 58 :: b) (h : ∀ x ∈ a, x ≠ 58) : oneR s = oneL a b := by
  unfold oneR
  rw [e, cut_hit _ _ _ h]
  rfl

theorem putR_list (r : ByteArray) : (putR r).data.toList = Lib.decDigits r.size ++ 58 :: (r.data.toList ++ [59]) := by
  unfold putR decS
  simp [ByteArray.data_append]

theorem dec_no58 (n : Nat) : ∀ x ∈ Lib.decDigits n, x ≠ 58 := by
  intro x hx e
  have h := figAll_dec n
  unfold figAll at h
  rw [List.all_eq_true] at h
  have := h x hx
  rw [e] at this
  exact absurd this (by decide)

theorem isNum_of {l : List UInt8} (h : 0 ≤ numOf l) : isNum l = true := by
  cases hc : isNum l
  · rw [numOf_no l hc] at h; omega
  · rfl

/-- A record that was written is read, whatever stands behind it. -/
theorem one_of (r : ByteArray) (t : List UInt8) (s : ByteArray) (h : recOk r = true) (e : s.data.toList = (putR r).data.toList ++ t) : oneR s = some r := by
  have hs := recOk_size h
  have hl : r.data.toList.length = r.size := by simp
  have e2 : s.data.toList = Lib.decDigits r.size ++ 58 :: (r.data.toList ++ 59 :: t) := by
    rw [e, putR_list]; simp
  rw [oneR_hit e2 (dec_no58 _)]
  have hn : numOf (Lib.decDigits r.size) = (r.size : Int) := numOf_dec _ (by omega)
  have ht : (r.data.toList ++ 59 :: t).take r.size = r.data.toList := by rw [← hl, List.take_left]
  have hm : mkB r.data.toList = r := mkB_data r
  unfold oneL
  rw [hn, show ((r.size : Nat) : Int).toNat = r.size from rfl, ht, hm, if_pos]
  refine ⟨by omega, by simp; omega, ?_, h⟩
  rw [← hl, List.getElem?_append_right (Nat.le_refl _)]
  simp

/-- What is read is how a record is written. -/
theorem one_some {s r : ByteArray} (h : oneR s = some r) : recOk r = true ∧ ∃ t, s.data.toList = (putR r).data.toList ++ t := by
  rcases first_at 58 s.data.toList with hm | ⟨a, b, e, ha⟩
  · rw [oneR_miss hm] at h; cases h
  · rw [oneR_hit e ha] at h
    unfold oneL at h
    split at h
    · rename_i hc
      obtain ⟨h1, h2, h3, h4⟩ := hc
      injection h with h
      subst h
      refine ⟨h4, b.drop ((numOf a).toNat + 1), ?_⟩
      have hsz : (mkB (b.take (numOf a).toNat)).size = (numOf a).toNat := by rw [mkB_size, List.length_take]; omega
      have hlt : (numOf a).toNat < b.length := by omega
      have h3' : b[(numOf a).toNat] = 59 := by
        rw [List.getElem?_eq_getElem hlt] at h3
        simpa using h3
      rw [putR_list, hsz, dec_numOf a (isNum_of (by omega)), mkB_list, e, List.append_assoc]
      congr 1
      rw [List.cons_append, List.append_assoc]
      congr 1
      rw [← h3', List.singleton_append, List.getElem_cons_drop, List.take_append_drop]
    · cases h

/-- How many bytes records take. -/
def sizeR : List ByteArray → Nat
  | [] => 0
  | r :: t => (putR r).size + sizeR t

/-- The records of a log, by fuel. -/
def readF : Nat → ByteArray → List ByteArray
  | 0, _ => []
  | f + 1, s => match oneR s with
    | none => []
    | some r => r :: readF f (s.extract (putR r).size s.size)

def readS (s : ByteArray) : List ByteArray := readF s.size s

theorem putR_pos (r : ByteArray) : 2 ≤ (putR r).size := by rw [putR_size]; omega

theorem one_size {s r : ByteArray} (h : oneR s = some r) : (putR r).size ≤ s.size := by
  obtain ⟨_, t, e⟩ := one_some h
  have := congrArg List.length e
  simp at this
  omega

theorem oneR_empty (s : ByteArray) (h : s.size = 0) : oneR s = none := by
  refine oneR_miss ?_
  have : s.data.toList = [] := List.eq_nil_of_length_eq_zero (by simpa using h)
  rw [this]; simp

theorem readF_more (f g : Nat) (s : ByteArray) (hf : s.size ≤ f) (hg : s.size ≤ g) : readF f s = readF g s := by
  induction f generalizing g s with
  | zero =>
    cases g with
    | zero => rfl
    | succ g => simp [readF, oneR_empty s (by omega)]
  | succ f ih =>
    cases g with
    | zero => simp [readF, oneR_empty s (by omega)]
    | succ g =>
      simp only [readF]
      cases ho : oneR s with
      | none => rfl
      | some r =>
        have h1 := one_size ho
        have h2 := putR_pos r
        have h3 : (s.extract (putR r).size s.size).size ≤ s.size - 2 := by rw [ByteArray.size_extract]; omega
        show r :: _ = r :: _
        rw [ih g _ (by omega) (by omega)]

theorem readS_none {s : ByteArray} (h : oneR s = none) : readS s = [] := by
  unfold readS
  cases hs : s.size with
  | zero => rfl
  | succ n => simp [readF, h]

theorem readS_some {s r : ByteArray} (h : oneR s = some r) : readS s = r :: readS (s.extract (putR r).size s.size) := by
  unfold readS
  have h1 := one_size h
  have h2 := putR_pos r
  cases hs : s.size with
  | zero => omega
  | succ n =>
    simp only [readF, h]
    have h3 : (s.extract (putR r).size s.size).size ≤ s.size - 2 := by rw [ByteArray.size_extract]; omega
    rw [hs] at h3
    rw [hs, readF_more n _ _ (by omega) (Nat.le_refl _)]

theorem sizeR_append (a b : List ByteArray) : sizeR (a ++ b) = sizeR a + sizeR b := by
  induction a with
  | nil => simp [sizeR]
  | cons r t ih => simp [sizeR, ih, Nat.add_assoc]

theorem readS_size (s : ByteArray) : sizeR (readS s) ≤ s.size ∧ 2 * (readS s).length ≤ s.size := by
  generalize hn : s.size = n
  induction n using Nat.strongRecOn generalizing s with
  | _ n ih =>
    cases ho : oneR s with
    | none => rw [readS_none ho]; simp [sizeR]
    | some r =>
      have h1 := one_size ho
      have h2 := putR_pos r
      rw [readS_some ho]
      have h3 : (s.extract (putR r).size s.size).size = s.size - (putR r).size := by rw [ByteArray.size_extract]; omega
      have := ih _ (by omega) (s.extract (putR r).size s.size) h3
      simp only [sizeR, List.length_cons]
      omega

/-- What LogRead answers. -/
def logS (s : ByteArray) : List ByteArray := if s.size ≤ 6000 then readS s else []

end Go.Proofs.YtplbfllhimcpiaaGreatDoor
