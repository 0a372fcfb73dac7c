/- DERIVED. The walk of DrawMathRun: a text without capital letters, and names. -/
import Derived.Test.YtaabcbpbijkmnabDrawVars
import Derived.Test.YtaabcbpbijkmnabCapDraw
namespace Go.Proofs.Ytaabcbpbijkmnab
open Go.RowKit

set_option maxHeartbeats 800000 in
theorem drawRun_nc (oa : Option Addr) (len cap : Nat) (w : World) (h : CodeAt w oa len) (hc : len ≤ cap) (hm : cap ≤ maxLen) :
    Calls Try.prog 4 #[.slice oa len cap] w fun e w' => ∃ (s : ByteArray) (v : Value) (V : Vs), e = .returned (.tuple #[.string s, v]) ∧ s.size ≤ 200010 ∧ Hid (NC s) ∧ VIn w' v V ∧ VOk V ∧ Below w.heap.size w w' := by
  have HC := hid h
  clear h
  go_enter Try.func4, Try.ntmps4
  go_wp2_with fail
  refine (open_any oa len cap _ HC.out hc hm).mono ?_
  rintro e w1 ⟨rfl, ⟨l, c, hr⟩, hb⟩
  have HR := hid hr
  have HB := hid hb
  clear hr hb
  go_wp2_with fail
  refine (drawMathOk_nc oa len cap _ (HC.out.below HB.out) hc hm).mono ?_
  rintro e w2 ⟨⟨s, rfl, hs, hnc⟩, hb2⟩
  have HB2 := hid hb2
  clear hb2
  go_wp2_with fail
  refine (vars_any w.heap.size oa l c 0 _ (HR.out.keep HB2.out) (by omega)).mono ?_
  rintro e w3 ⟨⟨v, V, rfl, hv, hok, _⟩, q, hd⟩
  have HV := hid hv
  have HD := hid hd
  clear hd
  obtain ⟨ov, cv, rfl, _⟩ := hv
  go_wp2
  refine bodyPost_ret (v := .tuple #[.string s, .slice ov V.length cv]) (by simp [results, Try.results4, go_sem]) rfl ⟨s, _, V, rfl, hs, hnc, HV.out, hok, ?_⟩
  exact HD.out.2.below _ _ (Nat.le_refl _) (HB.out.trans (HB2.out.mono HB.out.size))

end Go.Proofs.Ytaabcbpbijkmnab
