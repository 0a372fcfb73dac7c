/- DERIVED. Logs: what reading gives of what was added, and of what was torn: plain. -/
import Derived.Test.YtmafkelegjjnfafDoorLogOne
namespace Go.Proofs.YtmafkelegjjnfafDoor

/-- Records as they are written, one behind the other. -/
def flatL : List ByteArray → List UInt8
  | [] => []
  | r :: t => (putR r).data.toList ++ flatL t

theorem flatL_append (a b : List ByteArray) : flatL (a ++ b) = flatL a ++ flatL b := by
  induction a with
  | nil => rfl
  | cons r t ih => simp [flatL, ih]

theorem flat_len (l : List ByteArray) : (flatL l).length = sizeR l := by
  induction l with
  | nil => rfl
  | cons r t ih => simp [flatL, sizeR, ih]

theorem ext_mkB (a b : List UInt8) (s : ByteArray) (e : s.data.toList = a ++ b) : s.extract a.length s.size = mkB b := by
  apply Go.WideShapes.bytes_inj
  rw [mkB_list, ← mkB_tail, mkB_list, e, List.drop_left]

theorem read_flat (l : List ByteArray) (hl : ∀ r ∈ l, recOk r = true) (t : List UInt8) (s : ByteArray) (e : s.data.toList = flatL l ++ t) : readS s = l ++ readS (mkB t) := by
  induction l generalizing s with
  | nil =>
    have : s = mkB t := by rw [← mkB_data s, e]; rfl
    rw [this]; rfl
  | cons r l ih =>
    have e2 : s.data.toList = (putR r).data.toList ++ (flatL l ++ t) := by rw [e]; simp [flatL]
    have h1 := one_of r (flatL l ++ t) s (hl r (by simp)) e2
    rw [readS_some h1]
    have h2 := ext_mkB (putR r).data.toList (flatL l ++ t) s e2
    have h3 : (putR r).data.toList.length = (putR r).size := by simp
    rw [h3] at h2
    rw [h2, ih (fun x hx => hl x (by simp [hx])) (mkB (flatL l ++ t)) (mkB_list _)]
    rfl

theorem read_split (s : ByteArray) : ∃ t, s.data.toList = flatL (readS s) ++ t ∧ readS (mkB t) = [] ∧ ∀ r ∈ readS s, recOk r = true := by
  generalize hn : s.size = n
  induction n using Nat.strongRecOn generalizing s with
  | _ n ih =>
    cases ho : oneR s with
    | none =>
      refine ⟨s.data.toList, ?_, ?_, ?_⟩
      · rw [readS_none ho]; rfl
      · rw [mkB_data, readS_none ho]
      · rw [readS_none ho]; simp
    | some r =>
      obtain ⟨hr, t, e⟩ := one_some ho
      have h2 := ext_mkB (putR r).data.toList t s e
      have h3 : (putR r).data.toList.length = (putR r).size := by simp
      rw [h3] at h2
      have hs1 := one_size ho
      have hs2 := putR_pos r
      have hsz : (mkB t).size = s.size - (putR r).size := by rw [← h2, ByteArray.size_extract]; omega
      obtain ⟨u, e1, e2, e3⟩ := ih _ (by omega) (mkB t) hsz
      refine ⟨u, ?_, e2, ?_⟩
      · rw [readS_some ho, h2, flatL, e, List.append_assoc]
        rw [← e1, mkB_list]
      · rw [readS_some ho, h2]
        intro x hx
        rcases List.mem_cons.1 hx with rfl | hx
        · exact hr
        · exact e3 x hx

/-- What stands behind takes nothing of what is read ahead of it. -/
theorem read_more (s x : ByteArray) (t : List UInt8) (e : x.data.toList = s.data.toList ++ t) : ∃ m, readS x = readS s ++ m := by
  obtain ⟨u, e1, _, e3⟩ := read_split s
  exact ⟨_, read_flat (readS s) e3 (u ++ t) x (by rw [e, e1]; simp)⟩

theorem whole_flat {s : ByteArray} (h : sizeR (readS s) = s.size) : s.data.toList = flatL (readS s) := by
  obtain ⟨u, e1, _, _⟩ := read_split s
  have h1 := congrArg List.length e1
  rw [List.length_append, flat_len] at h1
  have h2 : s.data.toList.length = s.size := by simp
  have : u = [] := List.eq_nil_of_length_eq_zero (by omega)
  rw [e1]
  simp [this]

theorem readS_nil : readS (mkB []) = [] := readS_none (oneR_empty _ (by rfl))

theorem read_whole {s x r : ByteArray} (h : sizeR (readS s) = s.size) (hr : recOk r = true) (e : x.data.toList = s.data.toList ++ (putR r).data.toList) : readS x = readS s ++ [r] ∧ sizeR (readS s ++ [r]) = x.size := by
  obtain ⟨_, _, _, e3⟩ := read_split s
  have hf := whole_flat h
  constructor
  · rw [read_flat (readS s ++ [r]) ?_ [] x ?_, readS_nil, List.append_nil]
    · intro y hy
      rcases List.mem_append.1 hy with hy | hy
      · exact e3 y hy
      · simp at hy; rw [hy]; exact hr
    · rw [e, flatL_append, ← hf]; simp [flatL]
  · have h1 := congrArg List.length e
    simp at h1
    rw [sizeR_append]
    simp [sizeR]
    omega

theorem one_torn (r : ByteArray) (j : Nat) (hr : recOk r = true) (hj : j < (putR r).size) : oneR (mkB ((putR r).data.toList.take j)) = none := by
  cases ho : oneR (mkB ((putR r).data.toList.take j)) with
  | none => rfl
  | some q =>
    exfalso
    obtain ⟨hq, t, e⟩ := one_some ho
    rw [mkB_list] at e
    have e2 : (putR r).data.toList = (putR q).data.toList ++ (t ++ (putR r).data.toList.drop j) := by
      rw [← List.append_assoc, ← e, List.take_append_drop]
    have h1 := one_of q _ (putR r) hq e2
    have h2 := one_of r [] (putR r) hr (by simp)
    rw [h1] at h2
    injection h2 with h2
    subst h2
    have h3 := congrArg List.length e
    simp at h3
    omega

theorem read_torn {s x r : ByteArray} {j : Nat} (h : sizeR (readS s) = s.size) (hr : recOk r = true) (hj : j < (putR r).size) (e : x.data.toList = s.data.toList ++ (putR r).data.toList.take j) : readS x = readS s := by
  obtain ⟨_, _, _, e3⟩ := read_split s
  rw [read_flat (readS s) e3 ((putR r).data.toList.take j) x (by rw [e, ← whole_flat h]), readS_none (one_torn r j hr hj), List.append_nil]

theorem app_data (a b : ByteArray) : (a ++ b).data.toList = a.data.toList ++ b.data.toList := by
  simp [ByteArray.data_append]

end Go.Proofs.YtmafkelegjjnfafDoor
