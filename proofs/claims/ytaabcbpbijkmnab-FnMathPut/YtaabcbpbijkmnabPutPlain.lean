/- DERIVED. Plain: a sum between parentheses reads as it reads alone, or it is too deep. -/
import Derived.Test.YtaabcbpbijkmnabMathFacts
namespace Go.Proofs.Ytaabcbpbijkmnab

theorem pt_atP_head (s : ByteArray) (p : Nat) : atP s p = (restL s p).head? := by
  unfold atP restL
  rw [List.head?_drop]

theorem pt_restL_add (s : ByteArray) (p n : Nat) : restL s (p + n) = (restL s p).drop n := by
  unfold restL
  rw [List.drop_drop]

/-- A text stands within another one from a place on, a closing parenthesis behind it. -/
def pt_Within (u s : ByteArray) (k : Nat) (post : List UInt8) : Prop := restL u k = s.data.toList ++ 41 :: post

variable {u s : ByteArray} {k : Nat} {post : List UInt8}

theorem pt_rest_in (h : pt_Within u s k post) (p : Nat) (hp : p ≤ s.size) : restL u (k + p) = restL s p ++ 41 :: post := by
  rw [pt_restL_add, h, List.drop_append_of_le_length (by simpa using hp)]
  rfl

theorem pt_rest_at_end (h : pt_Within u s k post) : restL u (k + s.size) = 41 :: post := by
  rw [pt_rest_in h s.size (Nat.le_refl _), restL_end s s.size (Nat.le_refl _)]
  rfl

theorem pt_rest_behind (h : pt_Within u s k post) : restL u (k + s.size + 1) = post := by
  rw [pt_restL_add, pt_rest_at_end h]
  rfl

theorem pt_skipL_app (l post : List UInt8) : skipL (l ++ 41 :: post) = skipL l := by
  induction l with
  | nil => rfl
  | cons c l ih => rw [List.cons_append, skipL, skipL, ih]

theorem pt_leadN_app (l post : List UInt8) : leadN (l ++ 41 :: post) = leadN l := by
  induction l with
  | nil =>
    show leadN (41 :: post) = 0
    rw [leadN, if_neg (by decide)]
  | cons c l ih => rw [List.cons_append, leadN, leadN, ih]

theorem pt_skip_in (h : pt_Within u s k post) (p : Nat) (hp : p ≤ s.size) : skipP u (k + p) = k + skipP s p := by
  unfold skipP
  rw [pt_rest_in h p hp, pt_skipL_app]
  omega

theorem pt_at_in (h : pt_Within u s k post) (p : Nat) (hp : p ≤ s.size) : atP u (k + p) = (match atP s p with
    | some c => some c
    | none => some 41) := by
  rw [pt_atP_head, pt_atP_head, pt_rest_in h p hp]
  cases restL s p with
  | nil => rfl
  | cons c l => rfl

theorem pt_take_in (h : pt_Within u s k post) (c : UInt8) (hc : c ≠ 41) (p : Nat) (hp : p ≤ s.size) : takeP u c (k + p) = ((takeP s c p).1, k + (takeP s c p).2) := by
  unfold takeP
  rw [pt_skip_in h p hp, pt_at_in h _ (skipP_le s p hp).2]
  cases atP s (skipP s p) with
  | none =>
    dsimp only
    rw [if_neg (by intro e; injection e with e; exact hc e.symm), if_neg (by intro e; cases e)]
  | some x =>
    dsimp only
    by_cases e : (some x : Option UInt8) = some c
    · rw [if_pos e, if_pos e]; rfl
    · rw [if_neg e, if_neg e]

theorem pt_take_close (h : pt_Within u s k post) (p : Nat) (hp : p ≤ s.size) (ht : (takeP s 41 p).1 = true) : takeP u 41 (k + p) = (true, k + (takeP s 41 p).2) := by
  unfold takeP at ht ⊢
  rw [pt_skip_in h p hp, pt_at_in h _ (skipP_le s p hp).2]
  cases hx : atP s (skipP s p) with
  | none => rw [hx, if_neg (by intro e; cases e)] at ht; cases ht
  | some x =>
    rw [hx] at ht
    dsimp only
    by_cases e : (some x : Option UInt8) = some 41
    · rw [if_pos e, if_pos e]; rfl
    · rw [if_neg e] at ht; cases ht

theorem pt_sign_in (h : pt_Within u s k post) (t : Bool) (p : Nat) (hp : p ≤ s.size) : signP u t (k + p) = ((signP s t p).1, k + (signP s t p).2) := by
  unfold signP
  rw [pt_skip_in h p hp, pt_at_in h _ (skipP_le s p hp).2]
  cases atP s (skipP s p) with
  | none =>
    dsimp only
    rw [if_neg (by cases t <;> decide)]
  | some x =>
    dsimp only
    by_cases e : signB t x = true
    · rw [if_pos e, if_pos e]; rfl
    · rw [if_neg e, if_neg e]

theorem pt_extract_list (s : ByteArray) (q n : Nat) : (s.extract q (q + n)).data.toList = (restL s q).take n := by
  rw [ByteArray.data_extract, Array.toList_extract]
  unfold restL
  simp [List.extract_eq_take_drop]

theorem pt_word_in (h : pt_Within u s k post) (q : Nat) (hq : q ≤ s.size) : leadN (restL u (k + q)) = leadN (restL s q) ∧ wordP u (k + q) = wordP s q := by
  have h1 : leadN (restL u (k + q)) = leadN (restL s q) := by rw [pt_rest_in h q hq, pt_leadN_app]
  refine ⟨h1, ?_⟩
  unfold wordP
  rw [h1]
  have e : (u.extract (k + q) (k + q + leadN (restL s q))).data.toList = (s.extract q (q + leadN (restL s q))).data.toList := by
    rw [pt_extract_list, pt_extract_list, pt_rest_in h q hq, List.take_append_of_le_length (leadN_le _)]
  cases hx : u.extract (k + q) (k + q + leadN (restL s q)) with
  | mk a =>
    cases hy : s.extract q (q + leadN (restL s q)) with
    | mk b =>
      rw [hx, hy] at e
      congr 1
      exact Array.toList_inj.1 e

theorem pt_minus_in (h : pt_Within u s k post) (n : Nat) : ∀ (m : Nat) (f : Int) (p : Nat), p ≤ s.size → s.size - p < n → s.size - p < m → minusP u m f (k + p) = ((minusP s n f p).1, k + (minusP s n f p).2) := by
  induction n with
  | zero => intro m f p _ hn; omega
  | succ n ih =>
    intro m f p hp hn hm
    obtain ⟨m, rfl⟩ : ∃ m', m = m' + 1 := ⟨m - 1, by omega⟩
    have ht := takeP_le s 45 p hp
    rw [minusP, minusP, pt_take_in h 45 (by decide) p hp]
    dsimp only
    by_cases hb : (takeP s 45 p).1 = true
    · rw [if_pos hb, if_pos hb]
      have := ht.2.2 hb
      exact ih m (-f) _ ht.2.1 (by omega) (by omega)
    · rw [if_neg hb, if_neg hb]

/-- Two readings: one of them finds no sum, or both are alike. -/
def pt_RelP (k : Nat) (A B : Res) : Prop := A = .error 1 ∨ B = .error 1 ∨ B = (match A with
  | .ok (v, q) => .ok (v, k + q)
  | .error e => .error e)

theorem pt_single_in (h : pt_Within u s k post) (rk : Bool) (V : Vs) (is iu : Nat → Res) (hin : ∀ p, p ≤ s.size → pt_RelP k (is p) (iu (k + p))) (p : Nat) (hp : p ≤ s.size) :
    pt_RelP k (singleP rk V s is p) (singleP rk V u iu (k + p)) := by
  have ht := takeP_le s 40 p hp
  unfold singleP
  rw [pt_take_in h 40 (by decide) p hp]
  dsimp only
  by_cases hb : (takeP s 40 p).1 = true
  · rw [if_pos hb, if_pos hb]
    exact hin _ ht.2.1
  · rw [if_neg hb, if_neg hb]
    obtain ⟨h1, h2⟩ := pt_word_in h (takeP s 40 p).2 ht.2.1
    rw [h1, h2]
    by_cases hn : isNum (wordP s (takeP s 40 p).2).data.toList = true
    · rw [if_pos hn, if_pos hn]
      refine Or.inr (Or.inr ?_)
      dsimp only
      rw [Nat.add_assoc]
    · rw [if_neg hn, if_neg hn]
      by_cases hk : nameOkL (wordP s (takeP s 40 p).2).data.toList = true
      · rw [if_pos hk, if_pos hk]
        refine Or.inr (Or.inr ?_)
        cases namedP rk V (wordP s (takeP s 40 p).2) with
        | ok z => dsimp only; rw [Nat.add_assoc]
        | error e => rfl
      · rw [if_neg hk]
        exact Or.inl rfl

theorem pt_signed_in (h : pt_Within u s k post) (hu : s.size ≤ u.size) (rk : Bool) (V : Vs) (is iu : Nat → Res) (hin : ∀ p, p ≤ s.size → pt_RelP k (is p) (iu (k + p))) (p : Nat) (hp : p ≤ s.size) :
    pt_RelP k (signedP rk V s is p) (signedP rk V u iu (k + p)) := by
  have hm := pt_minus_in h (s.size + 1) (u.size + 1) 1 p hp (by omega) (by omega)
  have hb := minusP_bd s (s.size + 1) 1 p hp (Or.inl rfl)
  unfold signedP
  rw [hm]
  dsimp only
  rcases pt_single_in h rk V is iu hin (minusP s (s.size + 1) 1 p).2 hb.2.2 with e | e | e
  · rw [e]; exact Or.inl rfl
  · rw [e]; exact Or.inr (Or.inl rfl)
  · rw [e]
    refine Or.inr (Or.inr ?_)
    cases singleP rk V s is (minusP s (s.size + 1) 1 p).2 with
    | ok x => rfl
    | error e => rfl

theorem pt_loop_in (h : pt_Within u s k post) (rk t : Bool) (ps pu : Nat → Res) (hg : Good s ps) (hin : ∀ p, p ≤ s.size → pt_RelP k (ps p) (pu (k + p))) (n : Nat) :
    ∀ (m : Nat) (v : Int) (p : Nat), p ≤ s.size → s.size - p < n → s.size - p < m → pt_RelP k (loopP rk s t ps n v p) (loopP rk u t pu m v (k + p)) := by
  induction n with
  | zero => intro m v p _ hn; omega
  | succ n ih =>
    intro m v p hp hn hm
    obtain ⟨m, rfl⟩ : ∃ m', m = m' + 1 := ⟨m - 1, by omega⟩
    have hs := signP_le s t p hp
    rw [loopP, loopP, pt_sign_in h t p hp]
    dsimp only
    cases hc : (signP s t p).1 with
    | none => exact Or.inr (Or.inr rfl)
    | some c =>
      dsimp only
      have hlt := hs.2.2 (by rw [hc]; exact fun x => by cases x)
      rcases hin (signP s t p).2 hs.2.1 with e | e | e
      · rw [e]; exact Or.inl rfl
      · rw [e]; exact Or.inr (Or.inl rfl)
      · rw [e]
        cases hz : ps (signP s t p).2 with
        | error c => exact Or.inr (Or.inr rfl)
        | ok x =>
          obtain ⟨r, q⟩ := x
          have hr := (hg _ hs.2.1).1 r q hz
          dsimp only
          cases joinP rk c v r with
          | error c => exact Or.inr (Or.inr rfl)
          | ok z => exact ih m z q hr.2.1 (by omega) (by omega)

theorem pt_row_in (h : pt_Within u s k post) (hu : s.size ≤ u.size) (rk t : Bool) (ps pu : Nat → Res) (hg : Good s ps) (hin : ∀ p, p ≤ s.size → pt_RelP k (ps p) (pu (k + p))) (p : Nat) (hp : p ≤ s.size) :
    pt_RelP k (rowP rk s t ps p) (rowP rk u t pu (k + p)) := by
  unfold rowP
  rcases hin p hp with e | e | e
  · rw [e]; exact Or.inl rfl
  · rw [e]; exact Or.inr (Or.inl rfl)
  · rw [e]
    cases hz : ps p with
    | error c => exact Or.inr (Or.inr rfl)
    | ok x =>
      obtain ⟨r, q⟩ := x
      have hr := (hg _ hp).1 r q hz
      exact pt_loop_in h rk t ps pu hg hin (s.size + 1) (u.size + 1) r q hr.2.1 (by omega) (by omega)

theorem pt_sum_in (h : pt_Within u s k post) (hu : s.size ≤ u.size) (rk : Bool) (V : Vs) (is iu : Nat → Res) (hg : Good s is) (hin : ∀ p, p ≤ s.size → pt_RelP k (is p) (iu (k + p))) (p : Nat) (hp : p ≤ s.size) :
    pt_RelP k (sumOfP rk V s is p) (sumOfP rk V u iu (k + p)) :=
  pt_row_in h hu rk false _ _ (good_row rk s true _ (good_signed rk V s is hg)) (fun p hp => pt_row_in h hu rk true _ _ (good_signed rk V s is hg) (fun p hp => pt_signed_in h hu rk V is iu hin p hp) p hp) p hp

theorem pt_inner_in (h : pt_Within u s k post) (hu : s.size ≤ u.size) (rk : Bool) (V : Vs) (n : Nat) : ∀ p, p ≤ s.size → pt_RelP k (innerP rk V s (n + 1) p) (innerP rk V u n (k + p)) := by
  induction n with
  | zero => intro p hp; exact Or.inr (Or.inl rfl)
  | succ n ih =>
    intro p hp
    have hs := pt_sum_in h hu rk V _ _ (good_inner rk V s (n + 1)) ih p hp
    have hgs := (good_sum rk V s _ (good_inner rk V s (n + 1)) p hp).1
    rw [innerP, innerP]
    rcases hs with e | e | e
    · rw [e]; exact Or.inl rfl
    · rw [e]; exact Or.inr (Or.inl rfl)
    · rw [e]
      cases hz : sumOfP rk V s (innerP rk V s (n + 1)) p with
      | error c => exact Or.inr (Or.inr rfl)
      | ok x =>
        obtain ⟨r, q⟩ := x
        have hr := hgs r q hz
        dsimp only
        by_cases hb : (takeP s 41 q).1 = true
        · rw [if_pos hb, pt_take_close h q hr.2.1 hb, if_pos rfl]
          exact Or.inr (Or.inr rfl)
        · rw [if_neg hb]
          exact Or.inl rfl

theorem pt_all_sum {V : Vs} {a : Int} (h : allP true V s = .ok a) : sumOfP true V s (innerP true V s 6) 0 = .ok (a, s.size) := by
  have hg := (good_sum true V s _ (good_inner true V s 6) 0 (Nat.zero_le _)).1
  unfold allP at h
  split at h
  · cases h
  · cases hz : sumOfP true V s (innerP true V s 6) 0 with
    | error c => rw [hz] at h; cases h
    | ok x =>
      obtain ⟨v, q⟩ := x
      have hr := hg v q hz
      rw [hz] at h
      dsimp only at h
      split at h
      · cases h
      · injection h with h
        rw [h, show q = s.size by omega]

/-- The bytes at a place: what is taken, and what sign follows. -/
theorem pt_take_head {c : UInt8} {p : Nat} {l : List UInt8} (hc : c ≠ 32) (h : restL u p = c :: l) : takeP u c p = (true, p + 1) := by
  have hs : skipP u p = p := by unfold skipP; rw [h, skipL, if_neg hc]; rfl
  unfold takeP
  rw [hs, pt_atP_head, h]
  exact if_pos rfl

theorem pt_take_no {c d : UInt8} {p : Nat} {l : List UInt8} (hc : d ≠ 32) (hd : d ≠ c) (h : restL u p = d :: l) : takeP u c p = (false, p) := by
  have hs : skipP u p = p := by unfold skipP; rw [h, skipL, if_neg hc]; rfl
  unfold takeP
  rw [hs, pt_atP_head, h]
  exact if_neg (by intro e; injection e with e; exact hd e)

theorem pt_skip_one {p : Nat} {l : List UInt8} (h : restL u p = 32 :: l) : skipP u p = skipP u (p + 1) := by
  unfold skipP
  rw [pt_restL_add, h]
  rw [skipL, if_pos rfl]
  simp only [List.drop_succ_cons, List.drop_zero]
  omega

theorem pt_take_blank {c : UInt8} {p : Nat} {l : List UInt8} (h : restL u p = 32 :: l) : takeP u c p = takeP u c (p + 1) := by
  unfold takeP
  rw [pt_skip_one h]

theorem pt_sign_blank {t : Bool} {p : Nat} {l : List UInt8} (h : restL u p = 32 :: l) : signP u t p = signP u t (p + 1) := by
  unfold signP
  rw [pt_skip_one h]

theorem pt_sign_yes {t : Bool} {c : UInt8} {p : Nat} {l : List UInt8} (hc : c ≠ 32) (hs : signB t c = true) (h : restL u p = c :: l) : signP u t p = (some c, p + 1) := by
  have hk : skipP u p = p := by unfold skipP; rw [h, skipL, if_neg hc]; rfl
  unfold signP
  rw [hk, pt_atP_head, h]
  dsimp only [List.head?]
  rw [if_pos hs]

theorem pt_sign_no {t : Bool} {c : UInt8} {p : Nat} {l : List UInt8} (hc : c ≠ 32) (hs : signB t c = false) (h : restL u p = c :: l) : signP u t p = (none, p) := by
  have hk : skipP u p = p := by unfold skipP; rw [h, skipL, if_neg hc]; rfl
  unfold signP
  rw [hk, pt_atP_head, h]
  dsimp only [List.head?]
  rw [if_neg (by rw [hs]; decide)]

theorem pt_sign_end {t : Bool} {p : Nat} (h : restL u p = []) : signP u t p = (none, p) := by
  have hk : skipP u p = p := by unfold skipP; rw [h]; rfl
  unfold signP
  rw [hk, pt_atP_head, h]
  rfl

theorem pt_rest_size {p : Nat} {l : List UInt8} (h : restL u p = l) (hp : p ≤ u.size) : u.size = p + l.length := by
  have := restL_len u p
  rw [h] at this
  omega

/-- What stands between parentheses, as a part. -/
theorem pt_par_signed {V : Vs} {a : Int} (h : pt_Within u s k post) (hu : s.size ≤ u.size) (hs : sumOfP true V s (innerP true V s 6) 0 = .ok (a, s.size)) {f : Int} {p p' : Nat} (hm : minusP u (u.size + 1) 1 p = (f, p')) (ht : takeP u 40 p' = (true, k)) :
    signedP true V u (innerP true V u 6) p = .error 1 ∨ signedP true V u (innerP true V u 6) p = .ok (f * a, k + s.size + 1) := by
  have hsum := pt_sum_in h hu true V _ _ (good_inner true V s 6) (pt_inner_in h hu true V 5) 0 (Nat.zero_le _)
  rw [hs] at hsum
  unfold signedP singleP
  rw [hm]
  dsimp only
  rw [ht, if_pos rfl]
  dsimp only
  rw [innerP]
  rcases hsum with e | e | e
  · cases e
  · rw [show k + 0 = k from rfl] at e
    rw [e]
    exact Or.inl rfl
  · rw [show k + 0 = k from rfl] at e
    rw [e]
    dsimp only
    rw [pt_take_head (by decide) (pt_rest_at_end h), if_pos rfl]
    exact Or.inr rfl

theorem pt_pterm_one {V : Vs} {is : Nat → Res} {p q r : Nat} {v : Int} (hp : signedP true V u is p = .ok (v, q)) (hs : signP u true q = (none, r)) : termP true V u is p = .ok (v, r) := by
  unfold termP rowP
  rw [hp]
  dsimp only
  rw [loopP, hs]

theorem pt_pterm_err {V : Vs} {is : Nat → Res} {p : Nat} (hp : signedP true V u is p = .error 1) : termP true V u is p = .error 1 := by
  unfold termP rowP
  rw [hp]

/-- Two sums between parentheses, with a sign between. -/
theorem pt_two_all {V : Vs} {t : ByteArray} {a b : Int} {c : UInt8} {k1 k2 p2 m2 r : Nat} {post : List UInt8} (h1 : pt_Within u s k1 post) (hs : sumOfP true V s (innerP true V s 6) 0 = .ok (a, s.size)) (h2 : pt_Within u t k2 []) (ht : sumOfP true V t (innerP true V t 6) 0 = .ok (b, t.size)) (hus : s.size ≤ u.size) (hut : t.size ≤ u.size)
    (e1 : takeP u 45 0 = (false, 0)) (e2 : takeP u 40 0 = (true, k1)) (e3 : signP u true (k1 + s.size + 1) = (none, r)) (e4 : signP u false r = (some c, p2)) (e5 : takeP u 45 p2 = (false, m2)) (e6 : takeP u 40 m2 = (true, k2)) (hend : k2 + t.size + 1 = u.size) :
    allP true V u = .error 1 ∨ allP true V u = joinP true c a b := by
  have m1 : minusP u (u.size + 1) 1 0 = (1, 0) := by rw [minusP, e1]; rfl
  have m2' : minusP u (u.size + 1) 1 p2 = (1, m2) := by rw [minusP, e5]; rfl
  have hend2 : ∀ t', signP u t' (k2 + t.size + 1) = (none, k2 + t.size + 1) := fun t' => pt_sign_end (pt_rest_behind h2)
  have two : termP true V u (innerP true V u 6) p2 = .error 1 ∨ termP true V u (innerP true V u 6) p2 = .ok (b, k2 + t.size + 1) := by
    rcases pt_par_signed h2 hut ht m2' e6 with e | e
    · exact Or.inl (pt_pterm_err e)
    · rw [Int.one_mul] at e
      exact Or.inr (pt_pterm_one e (hend2 true))
  have one : termP true V u (innerP true V u 6) 0 = .error 1 ∨ termP true V u (innerP true V u 6) 0 = .ok (a, r) := by
    rcases pt_par_signed h1 hus hs m1 e2 with e | e
    · exact Or.inl (pt_pterm_err e)
    · rw [Int.one_mul] at e
      exact Or.inr (pt_pterm_one e e3)
  have hsz : 1 ≤ u.size := by omega
  unfold allP
  by_cases h60 : 60 < u.size
  · rw [if_pos h60]; exact Or.inl rfl
  · rw [if_neg h60]
    unfold sumOfP
    rcases one with e | e
    · unfold rowP
      rw [e]
      exact Or.inl rfl
    · unfold rowP
      rw [e]
      dsimp only
      rw [loopP, e4]
      dsimp only
      rcases two with e' | e'
      · rw [e']
        exact Or.inl rfl
      · rw [e']
        dsimp only
        cases hj : joinP true c a b with
        | error x => exact Or.inr rfl
        | ok z =>
          dsimp only
          obtain ⟨n, hn⟩ : ∃ n, u.size = n + 1 := ⟨u.size - 1, by omega⟩
          rw [hn, loopP, hend2 false]
          dsimp only
          rw [if_neg (by omega)]
          exact Or.inr rfl

/-- One sum between parentheses, with signs ahead. -/
theorem pt_one_all {V : Vs} {a f : Int} {k1 m1 : Nat} (h1 : pt_Within u s k1 []) (hs : sumOfP true V s (innerP true V s 6) 0 = .ok (a, s.size)) (hus : s.size ≤ u.size)
    (e1 : minusP u (u.size + 1) 1 0 = (f, m1)) (e2 : takeP u 40 m1 = (true, k1)) (hend : k1 + s.size + 1 = u.size) :
    allP true V u = .error 1 ∨ allP true V u = .ok (f * a) := by
  have hend2 : ∀ t', signP u t' (k1 + s.size + 1) = (none, k1 + s.size + 1) := fun t' => pt_sign_end (pt_rest_behind h1)
  unfold allP
  by_cases h60 : 60 < u.size
  · rw [if_pos h60]; exact Or.inl rfl
  · rw [if_neg h60]
    unfold sumOfP rowP
    rcases pt_par_signed h1 hus hs e1 e2 with e | e
    · rw [pt_pterm_err e]
      exact Or.inl rfl
    · rw [pt_pterm_one e (hend2 true)]
      dsimp only
      rw [loopP, hend2 false]
      dsimp only
      rw [if_neg (by omega)]
      exact Or.inr rfl

theorem pt_run_zero {V : Vs} {a : Int} (h : mathRunP s V = (a, 0)) : allP true V s = .ok a := by
  unfold mathRunP at h
  split at h
  · unfold tryP at h
    cases hx : allP true V s with
    | ok v => rw [hx] at h; injection h with h _; rw [h]
    | error e =>
      rw [hx] at h
      injection h with _ h2
      have := (all_bd true V s).2 e hx
      omega
  · injection h with _ h2
    cases h2

/-- What a text comes to that was put together. -/
def pt_PutIs (want : Except Int Int) (x y : Int) : Prop := (x = 0 ∧ y = 1) ∨ (∃ z, want = .ok z ∧ x = z ∧ y = 0) ∨ ∃ e, want = .error e ∧ x = 0 ∧ y = e

theorem pt_put_is {V : Vs} {want : Except Int Int} (h : allP true V u = .error 1 ∨ allP true V u = want) : pt_PutIs want (mathRunP u V).1 (mathRunP u V).2 := by
  unfold mathRunP
  split
  · unfold tryP
    rcases h with h | h
    · rw [h]; exact Or.inl ⟨rfl, rfl⟩
    · rw [h]
      cases want with
      | ok z => exact Or.inr (Or.inl ⟨z, rfl, rfl, rfl⟩)
      | error e => exact Or.inr (Or.inr ⟨e, rfl, rfl, rfl⟩)
  · exact Or.inl ⟨rfl, rfl⟩

theorem pt_list_plus (s t : ByteArray) : (⟨#[40]⟩ ++ s ++ ⟨#[41, 43, 40]⟩ ++ t ++ ⟨#[41]⟩ : ByteArray).data.toList = 40 :: (s.data.toList ++ 41 :: 43 :: 40 :: (t.data.toList ++ [41])) := by
  simp

theorem pt_list_less (s t : ByteArray) : (⟨#[40]⟩ ++ s ++ ⟨#[41, 32, 45, 32, 40]⟩ ++ t ++ ⟨#[41]⟩ : ByteArray).data.toList = 40 :: (s.data.toList ++ 41 :: 32 :: 45 :: 32 :: 40 :: (t.data.toList ++ [41])) := by
  simp

theorem pt_list_twice (s : ByteArray) : (⟨#[45, 32, 45, 40]⟩ ++ s ++ ⟨#[41]⟩ : ByteArray).data.toList = 45 :: 32 :: 45 :: 40 :: (s.data.toList ++ [41]) := by
  simp

theorem pt_size_list (s : ByteArray) : s.size = s.data.toList.length := by simp

theorem pt_plus_is {V : Vs} {a b : Int} (s t : ByteArray) (hs : allP true V s = .ok a) (ht : allP true V t = .ok b) : pt_PutIs (joinP true 43 a b) (mathRunP (⟨#[40]⟩ ++ s ++ ⟨#[41, 43, 40]⟩ ++ t ++ ⟨#[41]⟩) V).1 (mathRunP (⟨#[40]⟩ ++ s ++ ⟨#[41, 43, 40]⟩ ++ t ++ ⟨#[41]⟩) V).2 := by
  obtain ⟨u, hu⟩ : ∃ u : ByteArray, u = ⟨#[40]⟩ ++ s ++ ⟨#[41, 43, 40]⟩ ++ t ++ ⟨#[41]⟩ := ⟨_, rfl⟩
  have hl := pt_list_plus s t
  rw [← hu] at hl ⊢
  have r0 : restL u 0 = 40 :: (s.data.toList ++ 41 :: 43 :: 40 :: (t.data.toList ++ [41])) := hl
  have hz : u.size = s.size + t.size + 5 := by rw [pt_size_list, hl]; simp; omega
  have W1 : pt_Within u s 1 (43 :: 40 :: (t.data.toList ++ [41])) := by
    have := pt_restL_add u 0 1
    rw [r0] at this
    exact this
  have r1 := pt_rest_behind W1
  have r2 : restL u (1 + s.size + 1 + 1) = 40 :: (t.data.toList ++ [41]) := by rw [pt_restL_add, r1]; rfl
  have W2 : pt_Within u t (1 + s.size + 1 + 1 + 1) [] := by
    have := pt_restL_add u (1 + s.size + 1 + 1) 1
    rw [r2] at this
    exact this
  exact pt_put_is (pt_two_all W1 (pt_all_sum hs) W2 (pt_all_sum ht) (by omega) (by omega) (pt_take_no (by decide) (by decide) r0) (pt_take_head (by decide) r0) (pt_sign_no (by decide) (by decide) r1) (pt_sign_yes (by decide) (by decide) r1) (pt_take_no (by decide) (by decide) r2) (pt_take_head (by decide) r2) (by omega))

theorem pt_less_is {V : Vs} {a b : Int} (s t : ByteArray) (hs : allP true V s = .ok a) (ht : allP true V t = .ok b) : pt_PutIs (joinP true 45 a b) (mathRunP (⟨#[40]⟩ ++ s ++ ⟨#[41, 32, 45, 32, 40]⟩ ++ t ++ ⟨#[41]⟩) V).1 (mathRunP (⟨#[40]⟩ ++ s ++ ⟨#[41, 32, 45, 32, 40]⟩ ++ t ++ ⟨#[41]⟩) V).2 := by
  obtain ⟨u, hu⟩ : ∃ u : ByteArray, u = ⟨#[40]⟩ ++ s ++ ⟨#[41, 32, 45, 32, 40]⟩ ++ t ++ ⟨#[41]⟩ := ⟨_, rfl⟩
  have hl := pt_list_less s t
  rw [← hu] at hl ⊢
  have r0 : restL u 0 = 40 :: (s.data.toList ++ 41 :: 32 :: 45 :: 32 :: 40 :: (t.data.toList ++ [41])) := hl
  have hz : u.size = s.size + t.size + 7 := by rw [pt_size_list, hl]; simp; omega
  have W1 : pt_Within u s 1 (32 :: 45 :: 32 :: 40 :: (t.data.toList ++ [41])) := by
    have := pt_restL_add u 0 1
    rw [r0] at this
    exact this
  have r1 := pt_rest_behind W1
  have r2 : restL u (1 + s.size + 1 + 1) = 45 :: 32 :: 40 :: (t.data.toList ++ [41]) := by rw [pt_restL_add, r1]; rfl
  have r3 : restL u (1 + s.size + 1 + 1 + 1) = 32 :: 40 :: (t.data.toList ++ [41]) := by rw [pt_restL_add, r2]; rfl
  have r4 : restL u (1 + s.size + 1 + 1 + 1 + 1) = 40 :: (t.data.toList ++ [41]) := by rw [pt_restL_add, r3]; rfl
  have W2 : pt_Within u t (1 + s.size + 1 + 1 + 1 + 1 + 1) [] := by
    have := pt_restL_add u (1 + s.size + 1 + 1 + 1 + 1) 1
    rw [r4] at this
    exact this
  exact pt_put_is (pt_two_all W1 (pt_all_sum hs) W2 (pt_all_sum ht) (by omega) (by omega) (pt_take_no (by decide) (by decide) r0) (pt_take_head (by decide) r0) ((pt_sign_blank r1).trans (pt_sign_no (by decide) (by decide) r2)) (pt_sign_yes (by decide) (by decide) r2) ((pt_take_blank r3).trans (pt_take_no (by decide) (by decide) r4)) (pt_take_head (by decide) r4) (by omega))

theorem pt_twice_is {V : Vs} {a : Int} (s : ByteArray) (hs : allP true V s = .ok a) : pt_PutIs (.ok a) (mathRunP (⟨#[45, 32, 45, 40]⟩ ++ s ++ ⟨#[41]⟩) V).1 (mathRunP (⟨#[45, 32, 45, 40]⟩ ++ s ++ ⟨#[41]⟩) V).2 := by
  obtain ⟨u, hu⟩ : ∃ u : ByteArray, u = ⟨#[45, 32, 45, 40]⟩ ++ s ++ ⟨#[41]⟩ := ⟨_, rfl⟩
  have hl := pt_list_twice s
  rw [← hu] at hl ⊢
  have r0 : restL u 0 = 45 :: 32 :: 45 :: 40 :: (s.data.toList ++ [41]) := hl
  have hz : u.size = s.size + 5 := by rw [pt_size_list, hl]; simp
  have r1 : restL u 1 = 32 :: 45 :: 40 :: (s.data.toList ++ [41]) := by
    have := pt_restL_add u 0 1
    rw [r0] at this
    exact this
  have r2 : restL u 2 = 45 :: 40 :: (s.data.toList ++ [41]) := by
    have := pt_restL_add u 1 1
    rw [r1] at this
    exact this
  have r3 : restL u 3 = 40 :: (s.data.toList ++ [41]) := by
    have := pt_restL_add u 2 1
    rw [r2] at this
    exact this
  have W : pt_Within u s 4 [] := by
    have := pt_restL_add u 3 1
    rw [r3] at this
    exact this
  have hm : minusP u (u.size + 1) 1 0 = (1, 3) := by
    have t0 : takeP u 45 0 = (true, 1) := pt_take_head (by decide) r0
    have t1 : takeP u 45 1 = (true, 3) := (pt_take_blank r1).trans (pt_take_head (by decide) r2)
    have t3 : takeP u 45 3 = (false, 3) := pt_take_no (by decide) (by decide) r3
    obtain ⟨n, hn⟩ : ∃ n, u.size = n + 2 := ⟨u.size - 2, by omega⟩
    rw [hn, minusP, t0, if_pos rfl]
    dsimp only
    rw [minusP, t1, if_pos rfl]
    dsimp only
    rw [minusP, t3, if_neg (by decide)]
    rfl
  have := pt_put_is (pt_one_all W (pt_all_sum hs) (by omega) hm (pt_take_head (by decide) r3) (by omega))
  rw [Int.one_mul] at this
  exact this

end Go.Proofs.Ytaabcbpbijkmnab
