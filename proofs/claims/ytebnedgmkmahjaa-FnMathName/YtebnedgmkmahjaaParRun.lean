/- DERIVED. The model's MathRun at a name of one letter. -/
import Derived.Test.YtebnedgmkmahjaaParOne
import Derived.Test.YtebnedgmkmahjaaMathRun
import Derived.Test.YtebnedgmkmahjaaMathEval
import Derived.Maps.AppendAt
namespace Go.Proofs.Ytebnedgmkmahjaa
open Go.RowKit

set_option maxRecDepth 100000 in
set_option maxHeartbeats 1600000 in
theorem term_one (R base : Nat) (s : ByteArray) (w : World) (hb : base ≤ R) (h1 : s.size = 1) (hl : lowB ((s[0]'(by omega)).toNat : Int) = true) (h : PAt w R s 0 0 false (.slice none 0 0)) :
    Calls Try.prog 31 #[.pointer (some ⟨R, 0, none⟩)] w fun e w' => e = .returned (.tuple #[]) ∧ OneAt w' R base s ∧ Below base w w' := by
  have CU := hid (unary_one R base s w hb h1 hl h)
  have CL := hid (fun W ho => look_one R base s W hb h1 ho)
  clear h hl
  go_enter Try.func31, Try.ntmps31
  go_wp2_with fail
  refine CU.out.mono ?_
  rintro e w1 ⟨rfl, ho1, hb1⟩
  have HO1 := hid ho1
  have HB1 := hid hb1
  clear ho1 hb1 CU
  go_wp2
  go_loopg [5] 0 (fun _ _ wr => OneAt wr R base s ∧ Below base w wr)
  case atStart => exact ⟨HO1.out, HB1.out⟩
  case round =>
    obtain ⟨ho, hbw⟩ := hrel
    have HO := hid ho
    have HB := hid hbw
    have c3 : wr.cell? ⟨R, 3, none⟩ = some (.bool false) := by obtain ⟨ov, hp, _⟩ := ho; exact hp.bad
    have C1 := hid (CL.out wr ho)
    clear ho hbw
    go_wp2_with fail
    refine C1.out.mono ?_
    rintro e w2 ⟨rfl, ho2, hb2⟩
    have HO2 := hid ho2
    have HB2 : Hid (Below base w w2) := HB.out.trans hb2
    have C2 := hid (CL.out w2 ho2)
    clear ho2 hb2 C1
    go_wp2_with fail
    refine C2.out.mono ?_
    rintro e w3 ⟨rfl, ho3, hb3⟩
    have HO3 := hid ho3
    have HB3 : Hid (Below base w w3) := HB2.out.trans hb3
    have C3 := hid (CL.out w3 ho3)
    clear ho3 hb3 C2
    go_wp2_with fail
    refine C3.out.mono ?_
    rintro e w4 ⟨rfl, ho4, hb4⟩
    have HO4 := hid ho4
    have HB4 : Hid (Below base w w4) := HB3.out.trans hb4
    clear ho4 hb4 C3
    go_wp2
    first | go_end0 | refine bodyPost_ret (results_none rfl _ _ _) rfl ?_
    exact ⟨rfl, HO4.out, HB4.out⟩

set_option maxRecDepth 100000 in
set_option maxHeartbeats 1600000 in
theorem sum_one (R base : Nat) (s : ByteArray) (w : World) (hb : base ≤ R) (h1 : s.size = 1) (hl : lowB ((s[0]'(by omega)).toNat : Int) = true) (h : PAt w R s 0 0 false (.slice none 0 0)) :
    Calls Try.prog 25 #[.pointer (some ⟨R, 0, none⟩)] w fun e w' => e = .returned (.tuple #[]) ∧ OneAt w' R base s ∧ Below base w w' := by
  have CU := hid (term_one R base s w hb h1 hl h)
  have CL := hid (fun W ho => look_one R base s W hb h1 ho)
  clear h hl
  go_enter Try.func25, Try.ntmps25
  go_wp2_with fail
  refine CU.out.mono ?_
  rintro e w1 ⟨rfl, ho1, hb1⟩
  have HO1 := hid ho1
  have HB1 := hid hb1
  clear ho1 hb1 CU
  go_wp2
  go_loopg [5] 0 (fun _ _ wr => OneAt wr R base s ∧ Below base w wr)
  case atStart => exact ⟨HO1.out, HB1.out⟩
  case round =>
    obtain ⟨ho, hbw⟩ := hrel
    have HO := hid ho
    have HB := hid hbw
    have c3 : wr.cell? ⟨R, 3, none⟩ = some (.bool false) := by obtain ⟨ov, hp, _⟩ := ho; exact hp.bad
    have C1 := hid (CL.out wr ho)
    clear ho hbw
    go_wp2_with fail
    refine C1.out.mono ?_
    rintro e w2 ⟨rfl, ho2, hb2⟩
    have HO2 := hid ho2
    have HB2 : Hid (Below base w w2) := HB.out.trans hb2
    have C2 := hid (CL.out w2 ho2)
    clear ho2 hb2 C1
    go_wp2_with fail
    refine C2.out.mono ?_
    rintro e w3 ⟨rfl, ho3, hb3⟩
    have HO3 := hid ho3
    have HB3 : Hid (Below base w w3) := HB2.out.trans hb3
    clear ho3 hb3 C2
    go_wp2
    first | go_end0 | refine bodyPost_ret (results_none rfl _ _ _) rfl ?_
    exact ⟨rfl, HO3.out, HB3.out⟩

theorem PAt.new (w : World) (s : ByteArray) (t : Nat) : PAt (w.alloc (.cells #[.string s, .int .i64 0, .int .i64 0, .bool false, .slice none 0 0] t)) w.heap.size s 0 0 false (.slice none 0 0) := ⟨by simp, by simp, by simp, by simp, by simp, by simp, fun i => by simp⟩

set_option maxRecDepth 100000 in
set_option maxHeartbeats 1600000 in
theorem read_one (s : ByteArray) (w : World) (h1 : s.size = 1) (hl : lowB ((s[0]'(by omega)).toNat : Int) = true) :
    Calls Try.prog 16 #[.string s] w fun e w' => (∃ ov, e = .returned (.tuple #[ov, .bool true]) ∧ w'.ownsRow w.heap.size 63 3 ov 1 [.int .u8 110, .int .i64 0, .string s]) ∧ Below w.heap.size w w' := by
  have HAL : Hid (Below w.heap.size w (w.alloc (.cells #[.string s, .int .i64 0, .int .i64 0, .bool false, .slice none 0 0] 59))) := (Below.refl _ _).alloc (Nat.le_refl _) _
  have CS := hid (sum_one w.heap.size w.heap.size s _ (Nat.le_refl _) h1 hl (PAt.new w s 59))
  have CL := hid (fun W ho => look_one w.heap.size w.heap.size s W (Nat.le_refl _) h1 ho)
  have h60 : ¬ (60 : Int) < (s.size : Int) := by omega
  have hone : ((1 : Int) == (s.size : Int)) = true := by rw [beq_iff_eq]; omega
  clear hl h1
  go_enter Try.func16, Try.ntmps16
  go_wp2_with fail
  refine CS.out.mono ?_
  rintro e w1 ⟨rfl, ho1, hb1⟩
  have HB1 : Hid (Below w.heap.size w w1) := HAL.out.trans hb1
  have C1 := hid (CL.out w1 ho1)
  clear ho1 hb1
  go_wp2_with fail
  refine C1.out.mono ?_
  rintro e w2 ⟨rfl, ⟨ov, hp, ho, hn⟩, hb2⟩
  have HB2 : Hid (Below w.heap.size w w2) := HB1.out.trans hb2
  have c1 := hp.place
  have c3 := hp.bad
  have c4 := hp.out
  have HO := hid ho
  obtain ⟨oa, cp, rfl⟩ := row_shape3 ho
  clear hp ho hn hb2 C1
  have c1' : w2.cell? ⟨w.heap.size, 1, none⟩ = some (.int .i64 1) := c1
  clear c1
  go_wp2
  go_quiet (fail)
  go_wp2
  go_ret2
  exact ⟨⟨_, by first | rfl | (rw [hone]; rfl), row_drew3 HO.out _⟩, below_drewN HB2.out _⟩

end Go.Proofs.Ytebnedgmkmahjaa
