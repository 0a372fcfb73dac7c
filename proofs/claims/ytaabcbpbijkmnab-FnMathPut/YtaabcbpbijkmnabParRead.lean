/- DERIVED. The model's reader of sums as a whole: l2Read, l2Ok, MathOk. -/
import Derived.Test.YtaabcbpbijkmnabParPrim
import Derived.Test.YtaabcbpbijkmnabParTerm
import Derived.Test.YtaabcbpbijkmnabParSum
namespace Go.Proofs.Ytaabcbpbijkmnab
open Go.RowKit

theorem onward_of {V : Vs} {s : ByteArray} {mp : Nat → MRes} {fp tp : Nat → Res} (h : ∀ p, p ≤ s.size → Fits V s p (mp p) (fp p) (tp p)) : Onward s mp := by
  intro p o q hp hm
  have := h p hp
  rw [hm] at this
  exact ⟨this.1, this.2.1⟩

/-- The reader at every depth. -/
theorem sum_tower (s : ByteArray) (hs : s.size ≤ 60) (hcap : NoCap s) : ∀ (n d : Nat), d + n = 6 → PartM 20 s (sumM s (innerM s n)) d (3 * n + 3) := by
  have go : ∀ (n d : Nat), d + n = 6 → InnerM s n d (3 * n) → PartM 20 s (sumM s (innerM s n)) d (3 * n + 3) := by
    intro n d hd hin
    have hfi := inner_fits [] s hcap n
    have h1 := prim_part s hs hcap n d (3 * n) (by omega) hin
    have h2 := unary_part s hs (innerM s n) d (3 * n + 1) h1
    have h3 := term_part s hs (unaryM s (innerM s n)) d (3 * n + 1) (by omega) (onward_of (fun p hp => unary_fits [] s hcap _ _ _ hfi p hp)) h2
    exact sum_part s hs (termM s (innerM s n)) d (3 * n + 2) (by omega) (onward_of (fun p hp => row_fits [] s true _ _ _ (fun p hp => unary_fits [] s hcap _ _ _ hfi p hp) p hp)) h3
  intro n
  induction n with
  | zero =>
    intro d hd
    exact go 0 d hd (fun R base k ops p w hb h hp => inner_part s hs 0 d 0 hd (by omega) (fun m hm => by omega) R base k ops p w hb h hp)
  | succ n ih =>
    intro d hd
    refine go (n + 1) d hd (fun R base k ops p w hb h hp => inner_part s hs (n + 1) d (3 * (n + 1)) hd (by omega) (fun m hm => ?_) R base k ops p w hb h hp)
    have e : m = n := by omega
    subst e
    exact ih (d + 1) (by omega)

theorem skip_again (s : ByteArray) (q : Nat) : skipP s (skipP s q) = skipP s q := skipP_idem s q (s.size - q) (Nat.le_refl _)

theorem loop_stop {s : ByteArray} {tight : Bool} {mp : Nat → MRes} (n : Nat) : ∀ (ol o : List Op3) (q q2 : Nat), loopM s tight mp n ol q = some (o, q2) → skipP s q2 = q2 := by
  induction n with
  | zero => intro ol o q q2 h; cases h
  | succ n ih =>
    intro ol o q q2 h
    cases hsg : (signP s tight q).1 with
    | none =>
      rw [loop_end hsg] at h
      injection h with h
      injection h with h1 h2
      subst h2
      exact skip_again s q
    | some c =>
      have h' := (loop_next (mp := mp) (g := n) (ol := ol) hsg).symm.trans h
      cases hm : mp (skipP s q + 1) with
      | none => rw [hm] at h'; cases h'
      | some y =>
        obtain ⟨o1, q3⟩ := y
        rw [hm] at h'
        exact ih _ _ _ _ h'

theorem sum_stop {s : ByteArray} {mi : Nat → MRes} {p : Nat} {o : List Op3} {q : Nat} (h : sumM s mi p = some (o, q)) : skipP s q = q := by
  unfold sumM rowM at h
  cases hm : termM s mi p with
  | none => rw [hm] at h; cases h
  | some y =>
    obtain ⟨o1, q1⟩ := y
    rw [hm] at h
    exact loop_stop _ _ _ _ _ h

/-- What l2Read answers. -/
def ReadOut (base : Nat) (w' : World) (e : Ending) : Option (List Op3) → Prop
  | some o => (∃ ov, e = .returned (.tuple #[ov, .bool true]) ∧ w'.ownsRow base 61 3 ov o.length (ocells o)) ∧ o.length ≤ 60
  | none => ∃ ov, e = .returned (.tuple #[ov, .bool false])

theorem par_new (w : World) (s : ByteArray) (t : TypeId) : MSt (w.alloc (.cells #[.string s, .int .i64 0, .int .i64 0, .bool false, .slice none 0 0] t)) w.heap.size w.heap.size s 0 0 [] 0 := by
  refine ⟨.slice none 0 0, ⟨by simp, by simp, by simp, by simp, by simp, by simp, fun i => by simp⟩, World.ownsRow_nil _ _ _ _, (fun g hg => by cases hg), by simp, Nat.zero_le _⟩

set_option maxRecDepth 100000 in
set_option maxHeartbeats 3200000 in
theorem l2Read_any (s : ByteArray) (hcap : NoCap s) (hsz : s.size ≤ maxLen) (w : World) :
    Calls Try.prog 12 #[.string s] w fun e w' => Below w.heap.size w w' ∧ ReadOut w.heap.size w' e (readM s) := by
  unfold maxLen at hsz
  by_cases h60 : 60 < s.size
  · have hI : (60 : Int) < (s.size : Int) := by omega
    have HR : Hid (readM s = none) := by show _ = _; unfold readM; rw [if_pos h60]
    clear hcap
    go_enter Try.func12, Try.ntmps12
    go_wp2
    refine bodyPost_ret (v := .tuple #[.slice none 0 0, .bool false]) (by simp [results, Try.results12, go_sem]) rfl ?_
    rw [HR.out]
    exact ⟨Below.refl _ _, _, rfl⟩
  · have hI : ¬ (60 : Int) < (s.size : Int) := by omega
    have hs : s.size ≤ 60 := by omega
    have CS := hid (sum_tower s hs hcap 6 0 rfl w.heap.size w.heap.size 0 [] 0)
    have HN := hid (par_new w s)
    have HRD : Hid (readM s = match sumM s (innerM s 6) 0 with
      | some (o, q) => if q = s.size then some o else none
      | none => none) := by show _ = _; unfold readM; rw [if_neg h60]; rfl
    clear hcap h60
    go_enter Try.func12, Try.ntmps12
    go_wp2_with fail
    refine (CS.out _ (Nat.le_refl _) (HN.out _)).mono ?_
    rintro x w1 ⟨rfl, hb1, hres⟩
    have HB1 : Hid (Below w.heap.size w w1) := ((Below.refl _ _).alloc (Nat.le_refl _) _).trans hb1
    clear hb1 CS HN
    cases hsm : sumM s (innerM s 6) 0 with
    | none =>
      rw [hsm] at hres
      have CL := hid (look_bad w.heap.size w.heap.size s 0 _ w1 (by omega) (Nat.le_refl _) hres)
      have HR : Hid (readM s = none) := by show _ = _; rw [HRD.out, hsm]
      clear hres hsm HRD
      go_wp2_with fail
      refine CL.out.mono ?_
      rintro x w2 ⟨⟨c, rfl⟩, hbad, hb2⟩
      have HB2 : Hid (Below w.heap.size w w2) := HB1.out.trans hb2
      obtain ⟨q, d', ov, ops, hP, hrow, _⟩ := hbad
      obtain ⟨oa, cp, rfl⟩ := row_shape3 hrow
      have c1 := hP.place
      have c3 := hP.bad
      have c4 := hP.out
      clear hb2 CL HB1 hP hrow
      go_wp2
      go_quiet (fail)
      go_wp2
      refine bodyPost_ret (v := .tuple #[.slice oa ops.length cp, .bool false]) (by simp [results, Try.results12, go_sem]) rfl ?_
      rw [HR.out]
      exact ⟨HB2.out.trans (below_drewN _ _ _), _, rfl⟩
    | some y =>
      obtain ⟨o, q⟩ := y
      rw [hsm] at hres
      have hres' : MSt w1 w.heap.size w.heap.size s 0 0 o q := hres
      have hq := hres'.le
      have CL := hid (look_st w.heap.size w.heap.size s 0 0 o q w1 (by unfold maxLen; omega) (Nat.le_refl _) hres')
      rw [sum_stop hsm] at CL
      have HR : Hid (readM s = if q = s.size then some o else none) := by show _ = _; rw [HRD.out, hsm]
      clear hres hres' hsm HRD
      go_wp2_with fail
      refine CL.out.mono ?_
      rintro x w2 ⟨rfl, hst, hb2⟩
      have HB2 : Hid (Below w.heap.size w w2) := HB1.out.trans hb2
      obtain ⟨ov, hP, hrow, hne, hl, hps⟩ := hst
      obtain ⟨oa, cp, rfl⟩ := row_shape3 hrow
      have c1 := hP.place
      have c3 := hP.bad
      have c4 := hP.out
      have HROW := hid hrow
      clear hb2 CL HB1 hP hrow hne
      obtain ⟨lv, hlv⟩ : ∃ lv, lv = lookV s q := ⟨_, rfl⟩
      rw [← hlv]
      clear hlv
      by_cases hqs : q = s.size
      · have hqI : ((q : Int) == (s.size : Int)) = true := by rw [beq_iff_eq]; omega
        have HR2 : Hid (readM s = some o) := by show _ = _; rw [HR.out, if_pos hqs]
        have hl60 : o.length ≤ 60 := by omega
        subst hqs
        go_wp2
        go_quiet (fail)
        go_wp2
        refine bodyPost_ret (v := .tuple #[.slice oa o.length cp, .bool true]) (by simp [results, Try.results12, go_sem]) rfl ?_
        rw [HR2.out]
        exact ⟨HB2.out.trans (below_drewN _ _ _), ⟨_, rfl, row_drew3 HROW.out _⟩, hl60⟩
      · have hqI : ((q : Int) == (s.size : Int)) = false := by rw [beq_eq_false_iff_ne]; omega
        have hqI2 : ¬ (q : Int) = (s.size : Int) := by omega
        have HR2 : Hid (readM s = none) := by show _ = _; rw [HR.out, if_neg hqs]
        go_wp2
        go_quiet (fail)
        go_wp2
        refine bodyPost_ret (v := .tuple #[.slice oa o.length cp, .bool false]) (by simp [results, Try.results12, go_sem]) rfl ?_
        rw [HR2.out]
        exact ⟨HB2.out.trans (below_drewN _ _ _), _, rfl⟩

end Go.Proofs.Ytaabcbpbijkmnab
