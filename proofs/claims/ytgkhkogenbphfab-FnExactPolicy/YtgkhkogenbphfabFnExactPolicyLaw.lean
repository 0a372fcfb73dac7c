/- DERIVED. The law FnExactPolicy at every number and every row of numbers. -/
import Derived.Test.YtgkhkogenbphfabVoteTo
namespace Go.Proofs.Ytgkhkogenbphfab
open Go.RowKit

set_option maxRecDepth 100000 in
set_option maxHeartbeats 800000 in
theorem law_any (p : Int) (oa : Option Addr) (len cap : Nat) (V : List Int) (w : World) (hl : len = V.length) (hV : NumsAt w oa V) :
    Calls Try.prog 3 #[.int .i64 p, .slice oa len cap] w fun e w' => e = .returned (.bool true) ∧ Below w.heap.size w w' := by
  by_cases h : (len : Int) > 1048576
  · clear hl hV
    go_enter Try.func3, Try.ntmps3
    go_wp2
    go_ret
    exact ⟨rfl, Below.refl _ _⟩
  have hm : len ≤ 1048576 := by omega
  have CT : Hid (∀ w', Below w.heap.size w w' → Calls Try.prog 5 #[.slice oa len cap] w' fun e w2 => ∃ v, e = .returned v ∧ w2.ownsRow w'.heap.size 3 1 v V.length (V.map (Value.int .i64)) ∧ Below w'.heap.size w' w2) :=
    fun w' hb => toS_any oa cap len V w' hl hm (hV.below hb)
  have CS : Hid (∀ o1 c1 w', NumsAt w' o1 V → Calls Try.prog 4 #[.int .i64 p, .slice o1 len c1] w' fun e w2 => e = .returned (.int .i64 (polS p V)) ∧ Below w'.heap.size w' w2) :=
    fun o1 c1 w' hn => specPolicy_any p o1 c1 len V w' hl hm hn
  have CI : Hid (∀ o1 c1 w', NumsAt w' o1 V → Calls Try.prog 6 #[.int .i64 p, .slice o1 len c1] w' fun e w2 => e = .returned (.int .i64 (polS p V)) ∧ Below w'.heap.size w' w2) :=
    fun o1 c1 w' hn => implPolicy_any p o1 c1 len V w' hl hm hn
  have CE : Hid (∀ o1 o2 c1 c2 w', NumsAt w' o1 V → NumsAt w' o2 V → Calls Try.prog 7 #[.slice o1 len c1, .slice o2 len c2] w' fun e w2 => e = .returned (.bool true) ∧ Below w'.heap.size w' w2) :=
    fun o1 o2 c1 c2 w' h1 h2 => eqS_same o1 o2 c1 c2 len V w' hl hm h1 h2
  have HL : Hid (V.length = len) := hl.symm
  obtain ⟨n, hn⟩ : ∃ n, n = polS p V := ⟨_, rfl⟩
  rw [← hn] at CS CI
  clear hl hV hm hn
  go_enter Try.func3, Try.ntmps3
  go_wp2_with fail
  refine (CT.out _ (Below.refl _ _)).mono ?_
  rintro e w1 ⟨v, rfl, hrow, hb⟩
  obtain ⟨o1, c1, rfl, hn1⟩ := nums_of_len HL.out hrow
  have CS1 := hid (CS.out o1 c1 w1 hn1)
  have HB1 := hid hb
  clear hrow hb hn1 CS
  go_wp2_with fail
  refine CS1.out.mono ?_
  rintro e w2 ⟨rfl, hb⟩
  have HB2 : Hid (Below w.heap.size w w2) := HB1.out.trans (hb.mono HB1.out.size)
  clear hb CS1 HB1
  go_wp2_with fail
  refine (CT.out _ HB2.out).mono ?_
  rintro e w3 ⟨v, rfl, hrow, hb⟩
  obtain ⟨o2, c2, rfl, hn2⟩ := nums_of_len HL.out hrow
  have CI1 := hid (CI.out o2 c2 w3 hn2)
  have HN2 := hid hn2
  have HB3 : Hid (Below w.heap.size w w3) := HB2.out.trans (hb.mono HB2.out.size)
  clear hrow hb hn2 CI HB2
  go_wp2_with fail
  refine CI1.out.mono ?_
  rintro e w4 ⟨rfl, hb⟩
  have HN4 : Hid (NumsAt w4 o2 V) := HN2.out.below hb
  have HB4 : Hid (Below w.heap.size w w4) := HB3.out.trans (hb.mono HB3.out.size)
  clear hb CI1 HB3 HN2
  go_wp2_with fail
  refine (CT.out _ HB4.out).mono ?_
  rintro e w5 ⟨v, rfl, hrow, hb⟩
  obtain ⟨o3, c3, rfl, hn3⟩ := nums_of_len HL.out hrow
  have CE1 := hid (CE.out o2 o3 c2 c3 w5 (HN4.out.below hb) hn3)
  have HB5 : Hid (Below w.heap.size w w5) := HB4.out.trans (hb.mono HB4.out.size)
  clear hrow hb hn3 CE HB4 HN4
  go_wp2_with fail
  refine CE1.out.mono ?_
  rintro e w6 ⟨rfl, hb⟩
  have HB6 : Hid (Below w.heap.size w w6) := HB5.out.trans (hb.mono HB5.out.size)
  clear hb CE1 HB5
  go_wp2
  go_ret
  exact ⟨rfl, HB6.out⟩

end Go.Proofs.Ytgkhkogenbphfab
