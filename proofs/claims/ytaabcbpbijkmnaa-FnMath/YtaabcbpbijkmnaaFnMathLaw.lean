/- DERIVED. The walk of the law FnMath. -/
import Derived.Test.YtaabcbpbijkmnaaDrawRunNc
import Derived.Test.YtaabcbpbijkmnaaSpecAny
namespace Go.Proofs.Ytaabcbpbijkmnaa
open Go.RowKit

set_option maxRecDepth 100000 in
set_option maxHeartbeats 4000000 in
theorem law_any (oa : Option Addr) (len cap : Nat) (w : World) (C : CodeAt w oa len) (hc : len ≤ cap) (hm : cap ≤ maxLen) :
    Calls Try.prog 3 #[.slice oa len cap] w fun e w' => e = .returned (.bool true) ∧ Below w.heap.size w w' := by
  have HC := hid C
  clear C
  by_cases hbig : (1048576 : Int) < (len : Int)
  · go_enter Try.func3, Try.ntmps3
    go_wp2
    go_ret
    exact ⟨rfl, Below.refl _ _⟩
  · go_enter Try.func3, Try.ntmps3
    go_wp2_with fail
    refine (drawRun_nc oa len cap _ HC.out hc hm).mono ?_
    rintro e w1 ⟨s, v, V, rfl, hs, hnc, hv, hok, hb1⟩
    have hsz : s.size ≤ maxLen := by unfold maxLen; omega
    have hcap := nc_noCap hnc.out
    have HB1 := hid hb1
    have HV := hid hv
    have CI : Hid (∀ W, VIn W v V → Calls Try.prog 5 #[.string s, v] W fun e w' => e = .returned (.tuple #[.int .i64 (mathRunP s V).1, .int .i64 (mathRunP s V).2]) ∧ Below W.heap.size W w') := fun W h => mathRun_any s v V W hsz h
    have CS : Hid (∀ W, VIn W v V → Calls Try.prog 6 #[.string s, v] W fun e w' => e = .returned (.tuple #[.int .i64 (mathRunP s V).1, .int .i64 (mathRunP s V).2]) ∧ Below W.heap.size W w') := fun W h => specRun_any s v V W hcap hsz h
    have CO1 : Hid (∀ W, Calls Try.prog 7 #[.string s] W fun e w' => e = .returned (.bool (mathOkP s)) ∧ Below W.heap.size W w') := fun W => mathOk_any s W hsz
    have CO2 : Hid (∀ W, Calls Try.prog 8 #[.string s] W fun e w' => e = .returned (.bool (mathOkP s)) ∧ Below W.heap.size W w') := fun W => specOk_any s W hcap hsz
    have HI := hid (run_is V s hcap)
    obtain ⟨⟨x, y⟩, hxy⟩ : ∃ z, z = mathRunP s V := ⟨_, rfl⟩
    obtain ⟨b, hbb⟩ : ∃ z, z = mathOkP s := ⟨_, rfl⟩
    rw [← hxy] at CI CS HI
    rw [← hbb] at CO1 CO2 HI
    dsimp only at CI CS HI
    obtain ⟨ov, cv, rfl, hvl, _⟩ := hv
    clear hb1 hok hbig HC hxy hbb hcap hnc hsz
    go_wp2_with fail
    refine (CI.out _ HV.out).mono ?_
    rintro e w2 ⟨rfl, hb2⟩
    have HB2 : Hid (Below w.heap.size w w2) := HB1.out.trans (hb2.mono HB1.out.size)
    have HV2 := hid (HV.out.below hb2)
    clear hb2 CI HB1 HV
    go_wp2_with fail
    refine (CS.out _ HV2.out).mono ?_
    rintro e w3 ⟨rfl, hb3⟩
    have HB3 : Hid (Below w.heap.size w w3) := HB2.out.trans (hb3.mono HB2.out.size)
    clear hb3 CS HB2 HV2
    rcases HI.out with ⟨rfl, rfl, rfl⟩ | ⟨rfl, hx0, hx1, rfl⟩ | ⟨rfl, rfl, rfl | rfl | rfl⟩
    · clear HI
      go_wp2_with fail
      refine (CO1.out _).mono ?_
      rintro e w4 ⟨rfl, hb4⟩
      have HB4 : Hid (Below w.heap.size w w4) := HB3.out.trans (hb4.mono HB3.out.size)
      clear hb4
      go_wp2_with fail
      refine (CO2.out _).mono ?_
      rintro e w5 ⟨rfl, hb5⟩
      have HB5 : Hid (Below w.heap.size w w5) := HB4.out.trans (hb5.mono HB4.out.size)
      clear hb5
      go_wp2_with fail
      refine (CO1.out _).mono ?_
      rintro e w6 ⟨rfl, hb6⟩
      have HB6 : Hid (Below w.heap.size w w6) := HB5.out.trans (hb6.mono HB5.out.size)
      clear hb6
      go_wp2
      refine bodyPost_ret (v := .bool true) (by simp [results, Try.results3, go_sem]) rfl ⟨rfl, HB6.out⟩
    · clear HI
      go_wp2_with fail
      refine (CO1.out _).mono ?_
      rintro e w4 ⟨rfl, hb4⟩
      have HB4 : Hid (Below w.heap.size w w4) := HB3.out.trans (hb4.mono HB3.out.size)
      clear hb4
      go_wp2_with fail
      refine (CO2.out _).mono ?_
      rintro e w5 ⟨rfl, hb5⟩
      have HB5 : Hid (Below w.heap.size w w5) := HB4.out.trans (hb5.mono HB4.out.size)
      clear hb5
      go_wp2_with fail
      refine (CO1.out _).mono ?_
      rintro e w6 ⟨rfl, hb6⟩
      have HB6 : Hid (Below w.heap.size w w6) := HB5.out.trans (hb6.mono HB5.out.size)
      clear hb6
      go_wp2
      refine bodyPost_ret (v := .bool true) (by simp [results, Try.results3, go_sem]) rfl ⟨rfl, HB6.out⟩
    · clear HI
      go_wp2_with fail
      refine (CO1.out _).mono ?_
      rintro e w4 ⟨rfl, hb4⟩
      have HB4 : Hid (Below w.heap.size w w4) := HB3.out.trans (hb4.mono HB3.out.size)
      clear hb4
      go_wp2_with fail
      refine (CO2.out _).mono ?_
      rintro e w5 ⟨rfl, hb5⟩
      have HB5 : Hid (Below w.heap.size w w5) := HB4.out.trans (hb5.mono HB4.out.size)
      clear hb5
      go_wp2_with fail
      refine (CO1.out _).mono ?_
      rintro e w6 ⟨rfl, hb6⟩
      have HB6 : Hid (Below w.heap.size w w6) := HB5.out.trans (hb6.mono HB5.out.size)
      clear hb6
      go_wp2
      refine bodyPost_ret (v := .bool true) (by simp [results, Try.results3, go_sem]) rfl ⟨rfl, HB6.out⟩
    · clear HI
      go_wp2_with fail
      refine (CO1.out _).mono ?_
      rintro e w4 ⟨rfl, hb4⟩
      have HB4 : Hid (Below w.heap.size w w4) := HB3.out.trans (hb4.mono HB3.out.size)
      clear hb4
      go_wp2_with fail
      refine (CO2.out _).mono ?_
      rintro e w5 ⟨rfl, hb5⟩
      have HB5 : Hid (Below w.heap.size w w5) := HB4.out.trans (hb5.mono HB4.out.size)
      clear hb5
      go_wp2_with fail
      refine (CO1.out _).mono ?_
      rintro e w6 ⟨rfl, hb6⟩
      have HB6 : Hid (Below w.heap.size w w6) := HB5.out.trans (hb6.mono HB5.out.size)
      clear hb6
      go_wp2
      refine bodyPost_ret (v := .bool true) (by simp [results, Try.results3, go_sem]) rfl ⟨rfl, HB6.out⟩
    · clear HI
      go_wp2_with fail
      refine (CO1.out _).mono ?_
      rintro e w4 ⟨rfl, hb4⟩
      have HB4 : Hid (Below w.heap.size w w4) := HB3.out.trans (hb4.mono HB3.out.size)
      clear hb4
      go_wp2_with fail
      refine (CO2.out _).mono ?_
      rintro e w5 ⟨rfl, hb5⟩
      have HB5 : Hid (Below w.heap.size w w5) := HB4.out.trans (hb5.mono HB4.out.size)
      clear hb5
      go_wp2_with fail
      refine (CO1.out _).mono ?_
      rintro e w6 ⟨rfl, hb6⟩
      have HB6 : Hid (Below w.heap.size w w6) := HB5.out.trans (hb6.mono HB5.out.size)
      clear hb6
      go_wp2
      refine bodyPost_ret (v := .bool true) (by simp [results, Try.results3, go_sem]) rfl ⟨rfl, HB6.out⟩

end Go.Proofs.Ytaabcbpbijkmnaa
