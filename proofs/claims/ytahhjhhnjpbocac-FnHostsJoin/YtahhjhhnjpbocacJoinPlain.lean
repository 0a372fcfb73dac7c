/- DERIVED. Plain: two ascending lists, sorted and made compact, are merged. Nothing of the program. -/
import Derived.Test.YtahhjhhnjpbocacMergePlain
namespace Go.Proofs.Ytahhjhhnjpbocac

theorem bl_trans (a b c : List UInt8) (h1 : Op.bytesLess a b = true) (h2 : Op.bytesLess b c = true) : Op.bytesLess a c = true := by
  induction a generalizing b c with
  | nil =>
    cases b with
    | nil => simp [Op.bytesLess] at h1
    | cons y b =>
      cases c with
      | nil => simp [Op.bytesLess] at h2
      | cons z c => rfl
  | cons x a ih =>
    cases b with
    | nil => simp [Op.bytesLess] at h1
    | cons y b =>
      cases c with
      | nil => simp [Op.bytesLess] at h2
      | cons z c =>
        simp only [Op.bytesLess, Bool.or_eq_true, Bool.and_eq_true, decide_eq_true_eq, beq_iff_eq] at h1 h2 ⊢
        rcases h1 with h1 | ⟨e1, h1⟩
        · rcases h2 with h2 | ⟨e2, h2⟩
          · exact Or.inl (UInt8.lt_trans h1 h2)
          · exact Or.inl (by rw [← e2]; exact h1)
        · rcases h2 with h2 | ⟨e2, h2⟩
          · exact Or.inl (by rw [e1]; exact h2)
          · exact Or.inr ⟨e1.trans e2, ih b c h1 h2⟩

theorem bl_total (a b : List UInt8) (h1 : Op.bytesLess a b = false) (h2 : Op.bytesLess b a = false) : a = b := by
  induction a generalizing b with
  | nil =>
    cases b with
    | nil => rfl
    | cons y b => simp [Op.bytesLess] at h1
  | cons x a ih =>
    cases b with
    | nil => simp [Op.bytesLess] at h2
    | cons y b =>
      simp only [Op.bytesLess, Bool.or_eq_false_iff, Bool.and_eq_false_iff, decide_eq_false_iff_not, beq_eq_false_iff_ne] at h1 h2
      have e : x = y := by
        have a := h1.1
        have b := h2.1
        rw [UInt8.lt_iff_toNat_lt] at a b
        exact UInt8.toNat_inj.mp (by omega)
      subst e
      have e1 := h1.2.resolve_left (fun c => c rfl)
      have e2 := h2.2.resolve_left (fun c => c rfl)
      rw [ih b e1 e2]

theorem lessH_irrefl (x : ByteArray × Int) : lessH x x = false := by
  unfold lessH lessB
  rw [if_pos (by simp)]
  simp

theorem toList_inj {a b : ByteArray} (h : a.toList = b.toList) : a = b := by
  rw [ByteArray.toList_eq, ByteArray.toList_eq] at h
  exact Go.WideShapes.bytes_inj h

theorem lessH_trans (x y z : ByteArray × Int) (h1 : lessH x y = true) (h2 : lessH y z = true) : lessH x z = true := by
  unfold lessH lessB at *
  by_cases a : x.1.toList = y.1.toList
  · rw [if_pos (by simp [a])] at h1
    by_cases b : y.1.toList = z.1.toList
    · rw [if_pos (by simp [b])] at h2
      rw [if_pos (by simp [a, b])]
      simp at *; omega
    · rw [if_neg (by simp [b])] at h2
      rw [if_neg (by simp [a, b]), a]
      exact h2
  · rw [if_neg (by simp [a])] at h1
    by_cases b : y.1.toList = z.1.toList
    · rw [if_neg (by simp [← b, a]), ← b]
      exact h1
    · rw [if_neg (by simp [b])] at h2
      have h3 := bl_trans _ _ _ h1 h2
      rw [if_neg]
      · exact h3
      · intro e
        rw [beq_iff_eq] at e
        rw [e, bytesLess_irrefl] at h3
        cases h3

theorem lessH_total (x y : ByteArray × Int) (h1 : lessH x y = false) (h2 : lessH y x = false) : x = y := by
  unfold lessH lessB at *
  by_cases a : x.1.toList = y.1.toList
  · rw [if_pos (by simp [a])] at h1
    rw [if_pos (by simp [a])] at h2
    refine Prod.ext (toList_inj a) ?_
    simp at h1 h2
    omega
  · rw [if_neg (by simp [a])] at h1
    rw [if_neg (by simpa using fun e => a e.symm)] at h2
    exact absurd (bl_total _ _ h1 h2) a

theorem strict_ext (l1 l2 : Hs) (h1 : l1.Pairwise fun x y => lessH x y = true) (h2 : l2.Pairwise fun x y => lessH x y = true) (h : ∀ x, x ∈ l1 ↔ x ∈ l2) : l1 = l2 := by
  induction l1 generalizing l2 with
  | nil =>
    cases l2 with
    | nil => rfl
    | cons y l2 => exact absurd ((h y).2 (by simp)) (by simp)
  | cons x l1 ih =>
    cases l2 with
    | nil => exact absurd ((h x).1 (by simp)) (by simp)
    | cons y l2 =>
      rw [List.pairwise_cons] at h1 h2
      have e : x = y := by
        rcases List.mem_cons.1 ((h x).1 (by simp)) with e | hx
        · exact e
        · rcases List.mem_cons.1 ((h y).2 (by simp)) with e | hy
          · exact e.symm
          · have a := h1.1 y hy
            have b := h2.1 x hx
            have c := lessH_trans _ _ _ a b
            rw [lessH_irrefl] at c; cases c
      subst e
      rw [ih l2 h1.2 h2.2 (fun z => ?_)]
      constructor
      · intro hz
        rcases List.mem_cons.1 ((h z).1 (by simp [hz])) with e | hz2
        · have := h1.1 z hz
          rw [e, lessH_irrefl] at this; cases this
        · exact hz2
      · intro hz
        rcases List.mem_cons.1 ((h z).2 (by simp [hz])) with e | hz2
        · have := h2.1 z hz
          rw [e, lessH_irrefl] at this; cases this
        · exact hz2

theorem merge_mem' (f : Nat) (a b : Hs) (hf : a.length + b.length ≤ f) (h : ByteArray × Int) (hm : h ∈ a ∨ h ∈ b) : h ∈ mergeF f a b := by
  induction f generalizing a b with
  | zero =>
    have ha : a = [] := List.eq_nil_of_length_eq_zero (by omega)
    have hb : b = [] := List.eq_nil_of_length_eq_zero (by omega)
    subst ha hb
    simp at hm
  | succ f ih =>
    cases a with
    | nil =>
      cases b with
      | nil => simp at hm
      | cons y b =>
        rw [mergeF]
        rcases hm with hm | hm
        · cases hm
        · rcases List.mem_cons.1 hm with e | h1
          · rw [e]; simp
          · exact List.mem_cons_of_mem _ (ih [] b (by simp at hf ⊢; omega) (Or.inr h1))
    | cons x a =>
      cases b with
      | nil =>
        rw [mergeF]
        rcases hm with hm | hm
        · rcases List.mem_cons.1 hm with e | h1
          · rw [e]; simp
          · exact List.mem_cons_of_mem _ (ih a [] (by simp at hf ⊢; omega) (Or.inl h1))
        · cases hm
      | cons y b =>
        simp only [List.length_cons] at hf
        rw [mergeF]
        split
        · rcases hm with hm | hm
          · rcases List.mem_cons.1 hm with e | h1
            · rw [e]; simp
            · exact List.mem_cons_of_mem _ (ih a (y :: b) (by simp; omega) (Or.inl h1))
          · exact List.mem_cons_of_mem _ (ih a (y :: b) (by simp; omega) (Or.inr hm))
        · rename_i hl
          split
          · rcases hm with hm | hm
            · exact List.mem_cons_of_mem _ (ih (x :: a) b (by simp; omega) (Or.inl hm))
            · rcases List.mem_cons.1 hm with e | h1
              · rw [e]; simp
              · exact List.mem_cons_of_mem _ (ih (x :: a) b (by simp; omega) (Or.inr h1))
          · rename_i hl2
            have e : x = y := lessH_total x y (by simpa using hl) (by simpa using hl2)
            rcases hm with hm | hm
            · rcases List.mem_cons.1 hm with e | h1
              · rw [e]; simp
              · exact List.mem_cons_of_mem _ (ih a b (by omega) (Or.inl h1))
            · rcases List.mem_cons.1 hm with e' | h1
              · rw [e', ← e]; simp
              · exact List.mem_cons_of_mem _ (ih a b (by omega) (Or.inr h1))

theorem merge_pw (f : Nat) (a b : Hs) (ha : a.Pairwise fun x y => lessH x y = true) (hb : b.Pairwise fun x y => lessH x y = true) : (mergeF f a b).Pairwise fun x y => lessH x y = true := by
  induction f generalizing a b with
  | zero => exact List.Pairwise.nil
  | succ f ih =>
    cases a with
    | nil =>
      cases b with
      | nil => exact List.Pairwise.nil
      | cons y b =>
        rw [List.pairwise_cons] at hb
        rw [mergeF, List.pairwise_cons]
        refine ⟨fun z hz => ?_, ih [] b List.Pairwise.nil hb.2⟩
        rcases merge_mem _ _ _ _ hz with h | h
        · cases h
        · exact hb.1 z h
    | cons x a =>
      cases b with
      | nil =>
        rw [List.pairwise_cons] at ha
        rw [mergeF, List.pairwise_cons]
        refine ⟨fun z hz => ?_, ih a [] ha.2 List.Pairwise.nil⟩
        rcases merge_mem _ _ _ _ hz with h | h
        · exact ha.1 z h
        · cases h
      | cons y b =>
        have ha' := ha
        have hb' := hb
        rw [List.pairwise_cons] at ha hb
        rw [mergeF]
        split
        · rename_i hl
          rw [List.pairwise_cons]
          refine ⟨fun z hz => ?_, ih a (y :: b) ha.2 hb'⟩
          rcases merge_mem _ _ _ _ hz with h | h
          · exact ha.1 z h
          · rcases List.mem_cons.1 h with e | h1
            · rw [e]; exact hl
            · exact lessH_trans _ _ _ hl (hb.1 z h1)
        · rename_i hl
          split
          · rename_i hl2
            rw [List.pairwise_cons]
            refine ⟨fun z hz => ?_, ih (x :: a) b ha' hb.2⟩
            rcases merge_mem _ _ _ _ hz with h | h
            · rcases List.mem_cons.1 h with e | h1
              · rw [e]; exact hl2
              · exact lessH_trans _ _ _ hl2 (ha.1 z h1)
            · exact hb.1 z h
          · rename_i hl2
            have e : x = y := lessH_total x y (by simpa using hl) (by simpa using hl2)
            rw [List.pairwise_cons]
            refine ⟨fun z hz => ?_, ih a b ha.2 hb.2⟩
            rcases merge_mem _ _ _ _ hz with h | h
            · exact ha.1 z h
            · rw [e]; exact hb.1 z h

/-- Hosts that are ok are ascending. -/
theorem okUpto_less (S : Nat → ByteArray) (M : Nat → Int) (n j : Nat) (h : okUpto S M n = true) (h0 : 0 < j) (hj : j < n) : lessB (S (j - 1)) (M (j - 1)) (S j) (M j) = true := by
  cases e : lessB (S (j - 1)) (M (j - 1)) (S j) (M j)
  · have := okUpto_le S M (k := j + 1) (n := n) (by omega) (by simp [okUpto, e]; omega)
    rw [h] at this; cases this
  · rfl

theorem ok_pw (o : Hs) (h : okH o = true) : o.Pairwise fun x y => lessH x y = true := by
  unfold okH listOk at h
  rw [Bool.and_eq_true] at h
  rw [List.pairwise_iff_getElem]
  intro i j hi hj hij
  have hg : ∀ d, ∀ k, k < o.length → k = i + d + 1 → lessH (Sof o i, Mof o i) (Sof o k, Mof o k) = true := by
    intro d
    induction d with
    | zero =>
      intro k hk e
      have := okUpto_less _ _ _ k h.1 (by omega) hk
      rw [show k - 1 = i by omega] at this
      exact this
    | succ d ih =>
      intro k hk e
      have a := ih (k - 1) (by omega) (by omega)
      have b := okUpto_less _ _ _ k h.1 (by omega) hk
      exact lessH_trans _ _ _ a b
  have := hg (j - i - 1) j hj (by omega)
  rw [sof_at o i hi, sof_at o j hj]
  exact this

/-- Of those that are alike, side by side, one. -/
def cmpct : Hs → Hs
  | [] => []
  | x :: l => match cmpct l with
    | [] => [x]
    | y :: m => if x = y then y :: m else x :: y :: m

theorem cmpct_mem (l : Hs) (h : ByteArray × Int) : h ∈ cmpct l ↔ h ∈ l := by
  induction l with
  | nil => rfl
  | cons x l ih =>
    rw [cmpct]
    split
    · rename_i e
      rw [e] at ih
      simp at ih ⊢
      intro hh
      exact absurd hh ih
    · rename_i y m e
      rw [e] at ih
      split
      · rename_i exy
        rw [ih, List.mem_cons, exy]
        constructor
        · exact Or.inr
        · intro hh
          rcases hh with hh | hh
          · exact ih.1 (by rw [hh]; simp)
          · exact hh
      · rw [List.mem_cons, ih, List.mem_cons]

theorem cmpct_pw (l : Hs) (h : l.Pairwise fun x y => lessH y x = false) : (cmpct l).Pairwise fun x y => lessH x y = true := by
  induction l with
  | nil => exact List.Pairwise.nil
  | cons x l ih =>
    rw [List.pairwise_cons] at h
    have hi := ih h.2
    rw [cmpct]
    split
    · simp
    · rename_i y m e
      rw [e] at hi
      split
      · exact hi
      · rename_i hxy
        have hy : y ∈ l := (cmpct_mem l y).1 (by rw [e]; simp)
        have h1 : lessH x y = true := by
          cases hl : lessH x y
          · exact absurd (lessH_total x y hl (h.1 y hy)) hxy
          · rfl
        rw [List.pairwise_cons]
        refine ⟨fun z hz => ?_, hi⟩
        rcases List.mem_cons.1 hz with e2 | hz2
        · rw [e2]; exact h1
        · exact lessH_trans _ _ _ h1 ((List.pairwise_cons.1 hi).1 z hz2)

/-- Sorted and made compact, two ascending lists are merged. -/
theorem compact_merge (A B l : Hs) (hA : okH A = true) (hB : okH B = true) (hp : l.Perm (A ++ B)) (hs : l.Pairwise fun x y => lessH y x = false) : cmpct l = mergeF (A.length + B.length) A B := by
  refine strict_ext _ _ (cmpct_pw l hs) (merge_pw _ _ _ (ok_pw A hA) (ok_pw B hB)) (fun x => ?_)
  rw [cmpct_mem, hp.mem_iff, List.mem_append]
  exact ⟨fun h => merge_mem' _ _ _ (Nat.le_refl _) x h, fun h => merge_mem _ _ _ x h⟩

end Go.Proofs.Ytahhjhhnjpbocac
