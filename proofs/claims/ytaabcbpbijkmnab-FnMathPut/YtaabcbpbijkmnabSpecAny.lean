/- DERIVED. The model's MathOk and MathRun at every text without capital letters. -/
import Derived.Test.YtaabcbpbijkmnabParRead
import Derived.Test.YtaabcbpbijkmnabParRunAny
import Derived.Test.YtaabcbpbijkmnabMathFacts
import Derived.Test.YtaabcbpbijkmnabMathRun
namespace Go.Proofs.Ytaabcbpbijkmnab
open Go.RowKit

set_option maxRecDepth 100000 in
set_option maxHeartbeats 1600000 in
theorem specRun_any (s : ByteArray) (vv : Value) (V : Vs) (w : World) (hcap : NoCap s) (hsz : s.size ≤ maxLen) (hv : VIn w vv V) :
    Calls Try.prog 6 #[.string s, vv] w fun e w' => e = .returned (.tuple #[.int .i64 (mathRunP s V).1, .int .i64 (mathRunP s V).2]) ∧ Below w.heap.size w w' := by
  have CR := hid (l2Read_any s hcap hsz w)
  have HV := hid hv
  unfold mathRunP
  cases hm : readM s with
  | none =>
    have HO := read_none s hcap hm
    rw [hm] at CR
    rw [HO, if_neg (by decide)]
    obtain ⟨oa, cv, rfl, _⟩ := hv
    clear hcap hsz hm HO
    go_enter Try.func6, Try.ntmps6
    go_wp2_with fail
    refine CR.out.mono ?_
    rintro e w1 ⟨hb, ov, rfl⟩
    have HB := hid hb
    clear hb CR
    go_wp2
    go_ret2
    exact ⟨rfl, HB.out⟩
  | some o =>
    obtain ⟨h1, h2⟩ := read_some2 V s hcap o hm
    rw [hm] at CR
    rw [h1, if_pos rfl]
    have hgood := gm_read s o hm
    have HRR : ∃ a b, tryP true V s = (a, b) ∧ RunR (execV V o []) a b := by
      unfold tryP
      rcases h2 with ⟨v, hv, hx⟩ | ⟨e, he, hx⟩
      · rw [hv]; exact ⟨v, 0, rfl, Or.inl ⟨v, hx [], rfl, rfl⟩⟩
      · rw [he]
        have := (all_bd true V s).2 e he
        exact ⟨0, e, rfl, Or.inr ⟨e, hx [], by omega, rfl, rfl⟩⟩
    have hne : 1 ≤ o.length := by
      cases o with
      | nil =>
        rcases h2 with ⟨v, _, hx⟩ | ⟨e, _, hx⟩
        · have := hx []; injection this with this; cases this
        · have := hx []; cases this
      | cons x t => simp
    obtain ⟨a, b, hab, hrr⟩ := HRR
    rw [hab]
    dsimp only
    have CU := hid (fun (g cp : Nat) (hl : o.length ≤ 60) (W : World) hg hcell hv => l2Run_any g cp o hl hgood vv V W hg hcell hv a b hrr)
    obtain ⟨oa, cv, rfl, _⟩ := hv
    clear hcap hsz hm h1 h2 hgood hab hrr
    go_enter Try.func6, Try.ntmps6
    go_wp2_with fail
    refine CR.out.mono ?_
    rintro e w1 ⟨hb, ⟨ov, rfl, ho⟩, hl⟩
    obtain ⟨g, cp, rfl, _, hg, _, _, hc⟩ := row_cells3 ho hne
    have HB := hid hb
    have C1 := hid (CU.out g cp hl w1 hg hc (HV.out.below hb))
    clear ho hc hb CU CR hg hne hl
    go_wp2_with fail
    refine C1.out.mono ?_
    rintro e w2 ⟨rfl, hb2⟩
    have HB2 : Hid (Below w.heap.size w w2) := HB.out.trans (hb2.mono HB.out.size)
    clear hb2 C1
    go_wp2
    go_ret2
    exact ⟨rfl, HB2.out⟩

end Go.Proofs.Ytaabcbpbijkmnab
