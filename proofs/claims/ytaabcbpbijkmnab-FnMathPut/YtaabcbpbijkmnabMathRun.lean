/- DERIVED. The walks of the program's MathOk and MathRun. -/
import Derived.Test.YtaabcbpbijkmnabMathTry
namespace Go.Proofs.Ytaabcbpbijkmnab
open Go.RowKit

/-- Names and what they say, in a row that came in. -/
def VIn (w : World) (ov : Value) (V : Vs) : Prop :=
  ∃ oa cp, ov = .slice oa V.length cp ∧ V.length ≤ 1000 ∧ (∀ x ∈ V, x.2.size ≤ maxLen) ∧ ∀ i (hi : i < V.length), ∃ g off, oa = some ⟨g, off, none⟩ ∧ g < w.heap.size ∧ w.cell? ⟨g, off + i * 2, none⟩ = some (.string V[i].1) ∧ w.cell? ⟨g, off + i * 2 + 1, none⟩ = some (.string V[i].2)

theorem VIn.below {w w' : World} {ov : Value} {V : Vs} (h : VIn w ov V) (k : Below w.heap.size w w') : VIn w' ov V := by
  obtain ⟨oa, cp, e, h1, h2, h3⟩ := h
  refine ⟨oa, cp, e, h1, h2, fun i hi => ?_⟩
  obtain ⟨g, off, e2, hg, c0, c1⟩ := h3 i hi
  exact ⟨g, off, e2, Nat.lt_of_lt_of_le hg k.size, by rw [k.cell (p := ⟨g, _, none⟩) hg]; exact c0, by rw [k.cell (p := ⟨g, _, none⟩) hg]; exact c1⟩

theorem VIn.at {w w' : World} {ov : Value} {V : Vs} (h : VIn w ov V) (k : Below w.heap.size w w') (R : Nat) (hR : w.heap.size ≤ R) : VarsAt w' R ov V := by
  obtain ⟨oa, cp, e, h1, h2, h3⟩ := h
  refine ⟨oa, cp, e, h1, h2, fun i hi => ?_⟩
  obtain ⟨g, off, e2, hg, c0, c1⟩ := h3 i hi
  exact ⟨g, off, e2, Nat.lt_of_lt_of_le hg k.size, by omega, by rw [k.cell (p := ⟨g, _, none⟩) hg]; exact c0, by rw [k.cell (p := ⟨g, _, none⟩) hg]; exact c1⟩

theorem VIn.nil (w : World) : VIn w (.slice none 0 0) [] := ⟨none, 0, rfl, Nat.zero_le _, fun x hx => by simp at hx, fun i hi => absurd hi (Nat.not_lt_zero _)⟩

theorem MAt.new (w : World) (s : ByteArray) (ov : Value) (rk : Bool) (t : Nat) : MAt (w.alloc (.cells #[.string s, .int .i64 0, .int .i64 0, ov, .bool rk] t)) w.heap.size s 0 0 ov rk := ⟨by simp, by simp, by simp, by simp, by simp, by simp, by simp, by simp⟩

set_option maxRecDepth 100000 in
set_option maxHeartbeats 800000 in
theorem mathOk_any (s : ByteArray) (w : World) (hs : s.size ≤ maxLen) :
    Calls Try.prog 10 #[.string s] w fun e w' => e = .returned (.bool (mathOkP s)) ∧ Below w.heap.size w w' := by
  have HAL : Hid (Below w.heap.size w (w.alloc (.cells #[.string s, .int .i64 0, .int .i64 0, .slice none 0 0, .bool false] 37))) := (Below.refl _ _).alloc (Nat.le_refl _) _
  have C := hid (try_any w.heap.size s (.slice none 0 0) [] false _ hs (MAt.new w s (.slice none 0 0) false 37) ((VIn.nil w).at HAL.out _ (Nat.le_refl _)))
  unfold mathOkP
  obtain ⟨⟨x, y⟩, hx⟩ : ∃ x, x = tryP false [] s := ⟨_, rfl⟩
  rw [← hx] at C ⊢
  dsimp only at C ⊢
  clear hx
  by_cases h0 : y = 0
  · have hy : (y == 0) = true := by rw [beq_iff_eq]; exact h0
    rw [decide_eq_true h0]
    clear h0
    go_enter Try.func10, Try.ntmps10
    go_wp2_with fail
    refine C.out.mono ?_
    rintro e w1 ⟨rfl, hk⟩
    have HB : Hid (Below w.heap.size w w1) := hk.below _ _ (Nat.le_refl _) HAL.out
    clear hk
    go_wp2
    go_ret
    exact ⟨by first | rfl | (rw [hy]; rfl), HB.out⟩
  · have hy : (y == 0) = false := by rw [beq_eq_false_iff_ne]; exact h0
    rw [decide_eq_false h0]
    clear h0
    go_enter Try.func10, Try.ntmps10
    go_wp2_with fail
    refine C.out.mono ?_
    rintro e w1 ⟨rfl, hk⟩
    have HB : Hid (Below w.heap.size w w1) := hk.below _ _ (Nat.le_refl _) HAL.out
    clear hk
    go_wp2
    go_ret
    exact ⟨by first | rfl | (rw [hy]; rfl), HB.out⟩

set_option maxRecDepth 100000 in
set_option maxHeartbeats 800000 in
theorem mathRun_any (s : ByteArray) (ov : Value) (V : Vs) (w : World) (hs : s.size ≤ maxLen) (hv : VIn w ov V) :
    Calls Try.prog 5 #[.string s, ov] w fun e w' => e = .returned (.tuple #[.int .i64 (mathRunP s V).1, .int .i64 (mathRunP s V).2]) ∧ Below w.heap.size w w' := by
  have CO := hid (fun W => mathOk_any s W hs)
  have HV := hid hv
  have CT : Hid (∀ W, VIn W ov V → Calls Try.prog 11 #[.pointer (some ⟨W.heap.size, 0, none⟩)] (W.alloc (.cells #[.string s, .int .i64 0, .int .i64 0, ov, .bool true] 37)) fun e w' => e = .returned (.tuple #[.int .i64 (tryP true V s).1, .int .i64 (tryP true V s).2]) ∧ Keeps W.heap.size (W.alloc (.cells #[.string s, .int .i64 0, .int .i64 0, ov, .bool true] 37)) w') := fun W h =>
    try_any W.heap.size s ov V true _ hs (MAt.new W s ov true 37) (h.at ((Below.refl _ _).alloc (Nat.le_refl _) _) _ (Nat.le_refl _))
  unfold mathRunP
  obtain ⟨oa, cp, rfl, _⟩ := hv
  cases ho : mathOkP s
  · rw [ho] at CO
    rw [if_neg (by decide)]
    clear ho CT
    go_enter Try.func5, Try.ntmps5
    go_wp2_with fail
    refine (CO.out _).mono ?_
    rintro e w1 ⟨rfl, hb⟩
    have HB := hid hb
    clear hb
    go_wp2
    go_ret2
    exact ⟨rfl, HB.out⟩
  · rw [ho] at CO
    rw [if_pos rfl]
    obtain ⟨⟨x, y⟩, hx⟩ : ∃ x, x = tryP true V s := ⟨_, rfl⟩
    rw [← hx] at CT ⊢
    dsimp only at CT ⊢
    clear ho hx
    go_enter Try.func5, Try.ntmps5
    go_wp2_with fail
    refine (CO.out _).mono ?_
    rintro e w1 ⟨rfl, hb⟩
    have HB := hid hb
    have C1 := hid (CT.out w1 (HV.out.below hb))
    clear hb CT
    go_wp2_with fail
    refine C1.out.mono ?_
    rintro e w2 ⟨rfl, hk⟩
    have HB2 : Hid (Below w.heap.size w w2) := hk.below _ _ HB.out.size (HB.out.alloc HB.out.size _)
    clear hk
    go_wp2
    go_ret2
    exact ⟨rfl, HB2.out⟩

end Go.Proofs.Ytaabcbpbijkmnab
