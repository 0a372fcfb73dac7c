/- DERIVED. Plain: the two readers of sums come to the same, at every text without capital letters. Nothing of the program. -/
import Derived.Test.YtaabcbpbijkmnabParPlain
namespace Go.Proofs.Ytaabcbpbijkmnab

theorem take_not {s : ByteArray} {p : Nat} {x : UInt8} (h : atP s (skipP s p) ≠ some x) : takeP s x p = (false, skipP s p) := by
  unfold takeP; rw [if_neg h]

theorem take_yes {s : ByteArray} {p : Nat} {x : UInt8} (h : atP s (skipP s p) = some x) : takeP s x p = (true, skipP s p + 1) := by
  unfold takeP; rw [if_pos h]

theorem single_word (rk : Bool) (V : Vs) (s : ByteArray) (inner : Nat → Res) (p : Nat) (h : atP s (skipP s p) ≠ some 40) : singleP rk V s inner p =
    if isNum (wordP s (skipP s p)).data.toList = true then .ok (numVal (wordP s (skipP s p)).data.toList, skipP s p + leadN (restL s (skipP s p))) else
    if nameOkL (wordP s (skipP s p)).data.toList = true then (match namedP rk V (wordP s (skipP s p)) with
      | .ok z => .ok (z, skipP s p + leadN (restL s (skipP s p)))
      | .error c => .error c) else .error 1 := by
  unfold singleP
  rw [take_not h]
  exact if_neg Bool.false_ne_true

theorem word_list (s : ByteArray) (q : Nat) : (wordP s q).data.toList = (restL s q).take (leadN (restL s q)) := by
  unfold wordP; rw [extract_rest]

theorem end_free (s : ByteArray) (q : Nat) : stuck s (q + leadN (restL s q)) = false := by
  unfold stuck
  rw [atP_rest]
  cases h : (restL s q)[leadN (restL s q)]? with
  | none => rfl
  | some c => exact lead_end _ c h

theorem place_le {s : ByteArray} {p k : Nat} (h : p ≤ s.size) (hk : k ≤ (restL s p).length) : p + k ≤ s.size := by
  rw [restL_len] at hk; omega

theorem fig_not_name {l : List UInt8} {c : UInt8} {t : List UInt8} (h : l = c :: t) (hf : figB (c.toNat : Int) = true) : nameOkL l = false := by
  subst h
  unfold nameOkL
  simp [hf]

theorem name_not_num {l : List UInt8} {c : UInt8} {t : List UInt8} (h : l = c :: t) (hf : figB (c.toNat : Int) = false) : isNum l = false := by
  cases hn : isNum l with
  | false => rfl
  | true =>
    obtain ⟨c', t', e, hc⟩ := num_first hn
    rw [h] at e
    injection e with e _
    rw [e, hc] at hf
    cases hf

theorem prim_fits (V : Vs) (s : ByteArray) (hcap : NoCap s) (mi : Nat → MRes) (fi ti : Nat → Res) (hin : ∀ p, p ≤ s.size → Fits V s p (mi p) (fi p) (ti p)) (p : Nat) (hp : p ≤ s.size) :
    Fits V s p (primM s mi p) (singleP false [] s fi p) (singleP true V s ti p) := by
  obtain ⟨hq1, hq2⟩ := skipP_le s p hp
  cases hc : atP s (skipP s p) with
  | none =>
    have hr : restL s (skipP s p) = [] := by
      rcases Nat.lt_or_ge (skipP s p) s.size with h | h
      · rw [atP_some s _ h] at hc; cases hc
      · exact restL_end s _ h
    have hw : (wordP s (skipP s p)).data.toList = [] := by rw [word_list, hr]; rfl
    have hM : primM s mi p = none := by unfold primM; rw [hc]
    rw [hM]
    show singleP false [] s fi p = .error 1
    rw [single_word _ _ _ _ _ (by rw [hc]; simp), hw]
    rfl
  | some c =>
    have hlt : skipP s p < s.size := by
      rcases Nat.lt_or_ge (skipP s p) s.size with h | h
      · exact h
      · rw [atP_none s _ h] at hc; cases hc
    by_cases h40 : c = 40
    · subst h40
      have hM : primM s mi p = mi (skipP s p + 1) := by unfold primM; rw [hc]; rfl
      have hF : ∀ rk V' i, singleP rk V' s i p = i (skipP s p + 1) := fun rk V' i => by unfold singleP; rw [take_yes hc, if_pos rfl]
      rw [hM, hF, hF]
      have h := hin (skipP s p + 1) (by omega)
      cases hm : mi (skipP s p + 1) with
      | none => rw [hm] at h; exact h
      | some y =>
        obtain ⟨oy, qy⟩ := y
        rw [hm] at h
        obtain ⟨k1, k2, k3, k4⟩ := h
        exact ⟨by omega, k2, k3, k4⟩
    · have hne : atP s (skipP s p) ≠ some 40 := by rw [hc]; intro e; injection e with e; exact h40 e
      rw [single_word _ _ _ _ _ hne, single_word _ _ _ _ _ hne]
      obtain ⟨q, hq⟩ : ∃ q, q = skipP s p := ⟨_, rfl⟩
      rw [← hq] at hc hlt hq1 hq2 ⊢
      have hrest : restL s q = c :: restL s (q + 1) := by
        rw [restL_cons s q hlt]
        rw [atP_some s q hlt] at hc
        injection hc with hc
        rw [hc]
      have hM : primM s mi p = if figB (c.toNat : Int) = true then numM s q else nameM s q := by
        unfold primM; rw [← hq, hc]; dsimp only; rw [if_neg h40]
      rw [hM]
      clear hM hq hne
      by_cases hfig : figB (c.toNat : Int) = true
      · rw [if_pos hfig]
        have hl1 : 1 ≤ leadN (restL s q) := by rw [hrest, leadN, if_pos (fig_name hfig)]; omega
        have hwc : ∃ t, (wordP s q).data.toList = c :: t := by
          rw [word_list, hrest]
          rw [hrest] at hl1
          obtain ⟨k, hk⟩ : ∃ k, leadN (c :: restL s (q + 1)) = k + 1 := ⟨leadN (c :: restL s (q + 1)) - 1, by omega⟩
          rw [hk]
          exact ⟨_, rfl⟩
        obtain ⟨wt, hwt⟩ := hwc
        have hno : nameOkL (wordP s q).data.toList = false := fig_not_name hwt hfig
        rw [hno]
        obtain ⟨b1, b2⟩ := fig_lead (restL s q)
        cases hst : stuck s (q + figN (restL s q)) with
        | true =>
          obtain ⟨_, x, hx, hxn⟩ := stuck_skip hst
          rw [atP_rest] at hx
          have hnn : isNum (wordP s q).data.toList = false := by rw [word_list]; exact num_figs (b2 x hx hxn)
          rw [hnn]
          unfold numM
          split
          · exact ⟨by omega, place_le hq2 (figN_le _), fun _ => Or.inl rfl, fun h => by rw [hst] at h; cases h⟩
          · exact rfl
        | false =>
          have hlead : leadN (restL s q) = figN (restL s q) := by
            refine b1 (fun x hx => ?_)
            have : stuck s (q + figN (restL s q)) = nameB (x.toNat : Int) := stuck_at (by rw [atP_rest]; exact hx)
            rw [← this]; exact hst
          rw [word_list, hlead]
          unfold numM
          split
          · exact ⟨by omega, place_le hq2 (figN_le _), (fun h => by rw [hst] at h; cases h), fun _ => ⟨⟨_, rfl⟩, Or.inl ⟨_, rfl, fun st => rfl⟩⟩⟩
          · exact rfl
      · have hfig' : figB (c.toNat : Int) = false := by simpa using hfig
        rw [if_neg hfig]
        by_cases hfst : firstB (c.toNat : Int) = true
        · have hnb : nameB (c.toNat : Int) = true := by
            unfold firstB at hfst
            unfold nameB
            rcases Bool.or_eq_true_iff.1 hfst with h | h
            · rw [h]; simp
            · rw [h]; simp
          have hl1 : 1 ≤ leadN (restL s q) := by rw [hrest, leadN, if_pos hnb]; omega
          have hwc : ∃ t, (wordP s q).data.toList = c :: t := by
            rw [word_list, hrest]
            rw [hrest] at hl1
            obtain ⟨k, hk⟩ : ∃ k, leadN (c :: restL s (q + 1)) = k + 1 := ⟨leadN (c :: restL s (q + 1)) - 1, by omega⟩
            rw [hk]
            exact ⟨_, rfl⟩
          obtain ⟨wt, hwt⟩ := hwc
          have hnn : isNum (wordP s q).data.toList = false := name_not_num hwt hfig'
          have hlen : (wordP s q).data.toList.length = leadN (restL s q) := by rw [word_list, List.length_take]; have := leadN_le (restL s q); omega
          have hnm : nameOkL (wordP s q).data.toList = decide (leadN (restL s q) ≤ 6) := by
            have ha : nameAll (wordP s q).data.toList = true := by rw [word_list]; exact lead_all' _
            unfold nameOkL
            rw [ha, hlen, hwt]
            simp [hfig']
          rw [hnn, hnm]
          unfold nameM
          rw [hc]
          dsimp only
          by_cases h6 : leadN (restL s q) ≤ 6
          · rw [if_pos ⟨hfst, h6⟩]
            refine ⟨by omega, place_le hq2 (leadN_le _), (fun h => by rw [end_free] at h; cases h), fun _ => ?_⟩
            simp only [h6, decide_true]
            refine ⟨⟨0, by unfold namedP; rw [if_pos (Or.inl rfl)]; rfl⟩, ?_⟩
            have hx : ∀ st, execV V [((110 : UInt8), (0 : Int), wordP s q)] st = match namedP true V (wordP s q) with
                | .ok z => .ok (z :: st)
                | .error e => .error e := by
              intro st
              rw [exec_single, named_valQ]
              unfold stepV
              dsimp only
              rw [if_neg (by decide), if_pos rfl]
              cases valQ (textV V (wordP s q)) <;> rfl
            cases hn : namedP true V (wordP s q) with
            | ok z => exact Or.inl ⟨z, rfl, fun st => by rw [hx st, hn]⟩
            | error e => exact Or.inr ⟨e, rfl, fun st => by rw [hx st, hn]⟩
          · rw [if_neg (fun h => h6 h.2)]
            show (if false = true then _ else if decide _ = true then _ else _) = _
            simp [h6]
        · have hnb : nameB (c.toNat : Int) = false := by
            have h1 := hcap q c hc
            unfold firstB at hfst
            simp only [Bool.or_eq_true, decide_eq_true_eq, not_or] at hfst
            unfold nameB
            rw [hfig']
            simp only [Bool.or_eq_false_iff, Bool.and_eq_false_iff, decide_eq_false_iff_not]
            refine ⟨⟨by simpa using hfst.1, ?_⟩, ⟨trivial, hfst.2⟩⟩
            by_cases h : 65 ≤ (c.toNat : Int)
            · exact Or.inr (fun h2 => h1 ⟨h, h2⟩)
            · exact Or.inl h
          have hl0 : leadN (restL s q) = 0 := by rw [hrest, leadN, if_neg (by rw [hnb]; decide)]
          have hw : (wordP s q).data.toList = [] := by rw [word_list, hl0]; rfl
          have hM : nameM s q = none := by unfold nameM; rw [hc]; dsimp only; rw [if_neg (fun h => hfst h.1)]
          rw [hM, hw]
          exact rfl

theorem minus_same (s : ByteArray) (n : Nat) : ∀ (k p : Nat) (f : Int), (minusM s n k p).2 = (minusP s n f p).2 := by
  induction n with
  | zero => intro k p f; rfl
  | succ n ih =>
    intro k p f
    rw [minusM, minusP]
    split
    · exact ih _ _ _
    · rfl

theorem minus_neg (s : ByteArray) (n : Nat) : ∀ (k p : Nat) (f z : Int) (V : Vs) (st : List Int), (∀ st, execV V (List.replicate k (126, 0, ⟨#[]⟩)) (z :: st) = .ok (f * z :: st)) → execV V (List.replicate (minusM s n k p).1 (126, 0, ⟨#[]⟩)) (z :: st) = .ok ((minusP s n f p).1 * z :: st) := by
  induction n with
  | zero => intro k p f z V st h; exact h st
  | succ n ih =>
    intro k p f z V st h
    rw [minusM, minusP]
    split
    · refine ih _ _ _ _ _ _ (fun st => ?_)
      rw [List.replicate_succ', exec_append, h st]
      dsimp only
      rw [exec_single, stepV]
      dsimp only
      rw [if_neg (by decide), if_neg (by decide), if_pos rfl]
      congr 2
      exact (Int.neg_mul f z).symm
    · exact h st

theorem unary_fits (V : Vs) (s : ByteArray) (hcap : NoCap s) (mi : Nat → MRes) (fi ti : Nat → Res) (hin : ∀ p, p ≤ s.size → Fits V s p (mi p) (fi p) (ti p)) (p : Nat) (hp : p ≤ s.size) :
    Fits V s p (unaryM s mi p) (signedP false [] s fi p) (signedP true V s ti p) := by
  have hb := minusP_bd s (s.size + 1) 1 p hp (Or.inl rfl)
  have hsame := minus_same s (s.size + 1) 0 p 1
  have h := prim_fits V s hcap mi fi ti hin (minusP s (s.size + 1) 1 p).2 hb.2.2
  unfold unaryM signedP
  rw [hsame]
  cases hm : primM s mi (minusP s (s.size + 1) 1 p).2 with
  | none =>
    rw [hm] at h
    have hf : singleP false [] s fi (minusP s (s.size + 1) 1 p).2 = .error 1 := h
    rw [hf]
    exact rfl
  | some y =>
    obtain ⟨o, q⟩ := y
    rw [hm] at h
    obtain ⟨k1, k2, k3, k4⟩ := h
    refine ⟨by have := hb.2.1; omega, k2, fun hs => ?_, fun hs => ?_⟩
    · rcases k3 hs with g | ⟨z, g⟩
      · rw [g]; exact Or.inl rfl
      · rw [g]; exact Or.inr ⟨_, rfl⟩
    · obtain ⟨⟨z, g⟩, ev⟩ := k4 hs
      refine ⟨⟨_, by rw [g]⟩, ?_⟩
      rcases ev with ⟨v, gt, gx⟩ | ⟨e, gt, gx⟩
      · rw [gt]
        refine Or.inl ⟨_, rfl, fun st => ?_⟩
        rw [exec_append, gx]
        dsimp only
        exact minus_neg s (s.size + 1) 0 p 1 v V st (fun st => by rw [Int.one_mul]; rfl)
      · rw [gt]
        exact Or.inr ⟨e, rfl, fun st => by rw [exec_append, gx]⟩

theorem sum_fits (V : Vs) (s : ByteArray) (hcap : NoCap s) (mi : Nat → MRes) (fi ti : Nat → Res) (hin : ∀ p, p ≤ s.size → Fits V s p (mi p) (fi p) (ti p)) (p : Nat) (hp : p ≤ s.size) :
    Fits V s p (sumM s mi p) (sumOfP false [] s fi p) (sumOfP true V s ti p) :=
  row_fits V s false _ _ _ (fun p hp => row_fits V s true _ _ _ (fun p hp => unary_fits V s hcap mi fi ti hin p hp) p hp) p hp

theorem inner_fits (V : Vs) (s : ByteArray) (hcap : NoCap s) (d : Nat) : ∀ p, p ≤ s.size → Fits V s p (innerM s d p) (innerP false [] s d p) (innerP true V s d p) := by
  induction d with
  | zero => intro p hp; exact rfl
  | succ d ih =>
    intro p hp
    have h := sum_fits V s hcap _ _ _ ih p hp
    rw [innerM, innerP, innerP]
    cases hm : sumM s (innerM s d) p with
    | none =>
      rw [hm] at h
      have hf : sumOfP false [] s (innerP false [] s d) p = .error 1 := h
      rw [hf]
      exact rfl
    | some y =>
      obtain ⟨o, q⟩ := y
      rw [hm] at h
      obtain ⟨k1, k2, k3, k4⟩ := h
      dsimp only
      have ht := takeP_le s 41 q k2
      cases hst : stuck s q with
      | true =>
        obtain ⟨e1, c, e2, e3⟩ := stuck_skip hst
        have hn : takeP s 41 q = (false, q) := by
          have := take_not (s := s) (p := q) (x := 41) (by rw [e1, e2]; intro e; injection e with e; subst e; exact absurd e3 (by decide))
          rw [this, e1]
        rw [hn]
        show (match sumOfP false [] s (innerP false [] s d) p with
          | .error e => .error e
          | .ok (v, q) => if (takeP s 41 q).1 = true then .ok (v, (takeP s 41 q).2) else .error 1) = (.error 1 : Res)
        rcases k3 hst with g | ⟨z, g⟩
        · rw [g]
        · rw [g]; dsimp only; rw [hn]; rfl
      | false =>
        obtain ⟨⟨z, g⟩, ev⟩ := k4 hst
        by_cases h41 : (takeP s 41 q).1 = true
        · rw [if_pos h41, g]
          refine ⟨by omega, ht.2.1, fun _ => Or.inr ⟨z, by dsimp only; rw [if_pos h41]⟩, fun _ => ⟨⟨z, by dsimp only; rw [if_pos h41]⟩, ?_⟩⟩
          rcases ev with ⟨v, gt, gx⟩ | ⟨e, gt, gx⟩
          · rw [gt]; dsimp only; rw [if_pos h41]; exact Or.inl ⟨v, rfl, gx⟩
          · rw [gt]; exact Or.inr ⟨e, rfl, gx⟩
        · rw [if_neg h41, g]
          show (if _ then _ else _) = _
          rw [if_neg h41]

/-- What the model reads of a text: the list, if all of it is a sum. -/
def readM (s : ByteArray) : Option (List Op3) := if 60 < s.size then none else match sumM s (innerM s 6) 0 with
  | some (o, q) => if q = s.size then some o else none
  | none => none

theorem read_none (s : ByteArray) (hcap : NoCap s) (h : readM s = none) : mathOkP s = false := by
  have hf := sum_fits [] s hcap _ _ _ (inner_fits [] s hcap 6) 0 (Nat.zero_le _)
  have key : allP false [] s = .error 1 := by
    unfold allP
    unfold readM at h
    by_cases h60 : 60 < s.size
    · rw [if_pos h60]
    · rw [if_neg h60] at h ⊢
      cases hm : sumM s (innerM s 6) 0 with
      | none =>
        rw [hm] at hf
        have hf' : sumOfP false [] s (innerP false [] s 6) 0 = .error 1 := hf
        rw [hf']
      | some y =>
        obtain ⟨o, q⟩ := y
        rw [hm] at hf h
        dsimp only at h
        obtain ⟨k1, k2, k3, k4⟩ := hf
        have hq : q < s.size := by
          rcases Nat.lt_or_ge q s.size with hq | hq
          · exact hq
          · rw [if_pos (by omega)] at h; cases h
        cases hst : stuck s q with
        | true =>
          rcases k3 hst with g | ⟨z, g⟩
          · rw [g]
          · rw [g]; dsimp only; rw [if_pos hq]
        | false =>
          obtain ⟨⟨z, g⟩, _⟩ := k4 hst
          rw [g]; dsimp only; rw [if_pos hq]
  have k2 : tryP false [] s = (0, 1) := by unfold tryP; rw [key]
  exact decide_eq_false (by rw [k2]; decide)

theorem read_some (V : Vs) (s : ByteArray) (hcap : NoCap s) (o : List Op3) (h : readM s = some o) : mathOkP s = true ∧ ((∃ v, tryP true V s = (v, 0) ∧ ∀ st, execV V o st = .ok (v :: st)) ∨ ∃ e, tryP true V s = (0, e) ∧ ∀ st, execV V o st = .error e) := by
  have hf := sum_fits V s hcap _ _ _ (inner_fits V s hcap 6) 0 (Nat.zero_le _)
  unfold readM at h
  by_cases h60 : 60 < s.size
  · rw [if_pos h60] at h; cases h
  · rw [if_neg h60] at h
    cases hm : sumM s (innerM s 6) 0 with
    | none => rw [hm] at h; cases h
    | some y =>
      obtain ⟨o', q⟩ := y
      rw [hm] at hf h
      dsimp only at h
      by_cases hq : q = s.size
      · rw [if_pos hq] at h
        injection h with h
        subst h
        obtain ⟨k1, k2, k3, k4⟩ := hf
        have hst : stuck s q = false := by unfold stuck; rw [atP_none s q (by omega)]
        obtain ⟨⟨z, g⟩, ev⟩ := k4 hst
        constructor
        · have key : tryP false [] s = (z, 0) := by
            unfold tryP allP
            rw [if_neg h60, g]
            dsimp only
            rw [if_neg (by omega)]
          exact decide_eq_true (by rw [key])
        · unfold tryP allP
          rw [if_neg h60]
          rcases ev with ⟨v, gt, gx⟩ | ⟨e, gt, gx⟩
          · rw [gt]; dsimp only; rw [if_neg (by omega)]; exact Or.inl ⟨v, rfl, gx⟩
          · rw [gt]; exact Or.inr ⟨e, rfl, gx⟩
      · rw [if_neg hq] at h; cases h

end Go.Proofs.Ytaabcbpbijkmnab
