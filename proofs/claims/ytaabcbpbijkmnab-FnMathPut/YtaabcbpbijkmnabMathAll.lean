/- DERIVED. The walks of term, sum, inner, all. -/
import Derived.Test.YtaabcbpbijkmnabMathRow2
namespace Go.Proofs.Ytaabcbpbijkmnab
open Go.RowKit

theorem signed_enters (args : Array Value) (W : World) : (callFunc 34 args).run Try.prog W = .ok (.enter 34 args) W := by kernel_rfl
theorem term_enters (args : Array Value) (W : World) : (callFunc 30 args).run Try.prog W = .ok (.enter 30 args) W := by kernel_rfl

theorem makeFunc_any (fn : Fn) (first cap : Array Value) (w : World) : (Instr.makeFunc fn first cap).run Try.prog w = .ok (.func fn first cap) w := rfl

set_option maxRecDepth 100000 in
set_option maxHeartbeats 800000 in
theorem term_any (R : Nat) (s : ByteArray) (o : Nat) (ov : Value) (V : Vs) (rk : Bool) (inner : Nat → Res) (hs : s.size ≤ maxLen) (hg : Good s inner) (hi : PartOk 50 R s o ov V rk inner) :
    PartOk 30 R s o ov V rk (termP rk V s inner) := by
  intro w p hp hm hv
  have C := hid (row_any 34 R s o ov V rk true (signedP rk V s inner) w p hs hp signed_enters (signed_any R s o ov V rk inner hs hg hi) (good_signed rk V s inner hg) hm hv)
  have hmf := makeFunc_any
  obtain ⟨T, hT⟩ : ∃ T, T = termP rk V s inner p := ⟨_, rfl⟩
  have hT2 : T = rowP rk s true (signedP rk V s inner) p := hT
  rw [← hT]
  rw [← hT2] at C
  clear hm hv hi hg hT hT2
  cases T with
  | error c =>
    go_enter Try.func30, Try.ntmps30
    go_wp2_with fail
    refine C.out.mono ?_
    rintro e w1 ⟨rfl, h1, h2⟩
    exact ⟨rfl, rfl, h1, h2⟩
  | ok x =>
    obtain ⟨v, q⟩ := x
    have C1 : Hid (Calls Try.prog 29 #[.pointer (some ⟨R, 0, none⟩), .bool true, .func (.func 34) #[.pointer (some ⟨R, 0, none⟩)] #[]] w fun e w' => e = .returned (.int .i64 v) ∧ MAt w' R s q o ov rk ∧ Keeps R w w') := C.out.mono fun e w' h => ⟨h.1, h.2.1 v q rfl, h.2.2⟩
    clear C
    go_enter Try.func30, Try.ntmps30
    go_wp2_with fail
    refine C1.out.mono ?_
    rintro e w1 ⟨rfl, h1, h2⟩
    have H1 := hid h1
    have H2 := hid h2
    clear h1 h2
    go_wp2
    go_ret
    exact ⟨rfl, fun v' q' e => (by injection e with e; injection e with e1 e2; rw [← e2]; exact H1.out), H2.out⟩

set_option maxRecDepth 100000 in
set_option maxHeartbeats 800000 in
theorem sum_any (R : Nat) (s : ByteArray) (o : Nat) (ov : Value) (V : Vs) (rk : Bool) (inner : Nat → Res) (hs : s.size ≤ maxLen) (hg : Good s inner) (hi : PartOk 50 R s o ov V rk inner) :
    PartOk 25 R s o ov V rk (sumOfP rk V s inner) := by
  intro w p hp hm hv
  have C := hid (row_any 30 R s o ov V rk false (termP rk V s inner) w p hs hp term_enters (term_any R s o ov V rk inner hs hg hi) (good_row rk s true _ (good_signed rk V s inner hg)) hm hv)
  have hmf := makeFunc_any
  obtain ⟨T, hT⟩ : ∃ T, T = sumOfP rk V s inner p := ⟨_, rfl⟩
  have hT2 : T = rowP rk s false (termP rk V s inner) p := hT
  rw [← hT]
  rw [← hT2] at C
  clear hm hv hi hg hT hT2
  cases T with
  | error c =>
    go_enter Try.func25, Try.ntmps25
    go_wp2_with fail
    refine C.out.mono ?_
    rintro e w1 ⟨rfl, h1, h2⟩
    exact ⟨rfl, rfl, h1, h2⟩
  | ok x =>
    obtain ⟨v, q⟩ := x
    have C1 : Hid (Calls Try.prog 29 #[.pointer (some ⟨R, 0, none⟩), .bool false, .func (.func 30) #[.pointer (some ⟨R, 0, none⟩)] #[]] w fun e w' => e = .returned (.int .i64 v) ∧ MAt w' R s q o ov rk ∧ Keeps R w w') := C.out.mono fun e w' h => ⟨h.1, h.2.1 v q rfl, h.2.2⟩
    clear C
    go_enter Try.func25, Try.ntmps25
    go_wp2_with fail
    refine C1.out.mono ?_
    rintro e w1 ⟨rfl, h1, h2⟩
    have H1 := hid h1
    have H2 := hid h2
    clear h1 h2
    go_wp2
    go_ret
    exact ⟨rfl, fun v' q' e => (by injection e with e; injection e with e1 e2; rw [← e2]; exact H1.out), H2.out⟩

set_option maxRecDepth 100000 in
set_option maxHeartbeats 1600000 in
theorem inner_any (R : Nat) (s : ByteArray) (ov : Value) (V : Vs) (rk : Bool) (hs : s.size ≤ maxLen) (d : Nat) : ∀ o, o + d = 6 → PartOk 50 R s o ov V rk (innerP rk V s d) := by
  induction d with
  | zero =>
    intro o ho w p hp hm hv
    have c2 := hm.opened
    have f2 := hm.free2
    have HM := hid hm
    have h6 : o = 6 := by omega
    subst h6
    clear hm hv
    go_enter Try.func50, Try.ntmps50
    go_wp2
    exact ⟨rfl, rfl, fun v q e => (by cases e), Keeps.set 2 _⟩
  | succ d ih =>
    intro o ho w p hp hm hv
    obtain ⟨o1, ho1⟩ : ∃ o1, o1 = o + 1 := ⟨_, rfl⟩
    have c2 := hm.opened
    have f2 := hm.free2
    have hG := good_inner rk V s d
    have CS := hid (sum_any R s o1 ov V rk (innerP rk V s d) hs hG (ih o1 (by omega)))
    have HGS := hid (good_sum rk V s _ hG)
    have HM1 := hid (hm.opn o1)
    have HV1 := hid (hv.keep (Keeps.set (R := R) (w := w) 2 (.int .i64 (o1 : Int))))
    have C1 := hid (CS.out _ p hp HM1.out HV1.out)
    have hgd := HGS.out p hp
    obtain ⟨T, hT⟩ : ∃ T, T = innerP rk V s (d + 1) p := ⟨_, rfl⟩
    have CT : Hid (∀ W q, q ≤ s.size → MAt W R s q o1 ov rk → Calls Try.prog 37 #[.pointer (some ⟨R, 0, none⟩), .int .u8 41] W fun e w' => e = .returned (.bool (takeP s 41 q).1) ∧ Read R s (takeP s 41 q).2 o1 ov rk W w') := fun W q hq h => take_any R s q o1 ov rk 41 W hs hq h
    rw [← hT]
    rw [innerP] at hT
    have HT := hid hT
    have hadd : (o : Int) + 1 = (o1 : Int) := by omega
    have hwr : IntKind.i64.wrap (o1 : Int) = (o1 : Int) := by rw [IntKind.wrap_i64]; omega
    have h6 : ¬ (6 : Int) < (o1 : Int) := by omega
    have hsub : (o1 : Int) - 1 = (o : Int) := by omega
    have hwo : IntKind.i64.wrap (o : Int) = (o : Int) := by rw [IntKind.wrap_i64]; omega
    clear hT ih hm hv hG CS HGS ho1 ho
    have s2 : (w.setCell ⟨R, 2, none⟩ (.int .i64 (o1 : Int))).cell? ⟨R, 2, none⟩ = some (.int .i64 (o1 : Int)) := HM1.out.opened
    cases hx : sumOfP rk V s (innerP rk V s d) p with
    | error c =>
      rw [hx] at C1
      have HTE : Hid (T = .error c) := by show _ = _; rw [HT.out, hx]
      clear hx hgd HT
      go_enter Try.func50, Try.ntmps50
      go_wp2_with fail
      refine C1.out.mono ?_
      rintro e w1 ⟨rfl, _, hk⟩
      refine ⟨rfl, ?_, fun v q e => ?_, (Keeps.set 2 _).trans hk⟩
      · rw [HTE.out]; rfl
      · rw [HTE.out] at e; cases e
    | ok x =>
      obtain ⟨v, q⟩ := x
      have hb := hgd.1 v q hx
      have C2 : Hid (Calls Try.prog 25 #[.pointer (some ⟨R, 0, none⟩)] (w.setCell ⟨R, 2, none⟩ (.int .i64 (o1 : Int))) fun e w' => e = .returned (.int .i64 v) ∧ MAt w' R s q o1 ov rk ∧ Keeps R (w.setCell ⟨R, 2, none⟩ (.int .i64 (o1 : Int))) w') := C1.out.mono fun e w' h => ⟨by rw [h.1, hx]; rfl, h.2.1 v q hx, h.2.2⟩
      have HTL : Hid (T = if (takeP s 41 q).1 = true then .ok (v, (takeP s 41 q).2) else .error 1) := by show _ = _; rw [HT.out, hx]
      clear hx hgd HT C1
      have CT1 := hid (fun W => CT.out W q hb.2.1)
      obtain ⟨⟨b, q1⟩, hbq⟩ : ∃ x, x = takeP s 41 q := ⟨_, rfl⟩
      rw [← hbq] at HTL CT1
      dsimp only at HTL CT1
      clear hbq CT
      cases b
      · have HTE : Hid (T = .error 1) := by show _ = _; rw [HTL.out]; rfl
        clear HTL
        go_enter Try.func50, Try.ntmps50
        go_wp2_with fail
        refine C2.out.mono ?_
        rintro e w1 ⟨rfl, hm1, hk1⟩
        have HK1 : Hid (Keeps R w w1) := (Keeps.set 2 _).trans hk1
        have C3 := hid (CT1.out w1 hm1)
        clear hm1 hk1
        go_wp2_with fail
        refine C3.out.mono ?_
        rintro e w2 ⟨rfl, hrd⟩
        have HRD := hid hrd
        clear hrd
        go_wp2
        refine ⟨rfl, ?_, fun v q e => ?_, HK1.out.trans HRD.out.2⟩
        · rw [HTE.out]; rfl
        · rw [HTE.out] at e; cases e
      · have HTE : Hid (T = .ok (v, q1)) := by show _ = _; rw [HTL.out]; rfl
        clear HTL
        go_enter Try.func50, Try.ntmps50
        go_wp2_with fail
        refine C2.out.mono ?_
        rintro e w1 ⟨rfl, hm1, hk1⟩
        have HK1 : Hid (Keeps R w w1) := (Keeps.set 2 _).trans hk1
        have C3 := hid (CT1.out w1 hm1)
        clear hm1 hk1
        go_wp2_with fail
        refine C3.out.mono ?_
        rintro e w2 ⟨rfl, hrd⟩
        have HRD := hid hrd
        have e2 := hrd.1.opened
        have g2 := hrd.1.free2
        clear hrd
        go_wp2
        go_ret
        refine ⟨?_, fun v' q' e => ?_, (HK1.out.trans HRD.out.2).trans (Keeps.set 2 _)⟩
        · rw [HTE.out]; rfl
        · rw [HTE.out] at e; injection e with e; injection e with e1 e2; rw [← e2]; exact HRD.out.1.opn o

set_option maxRecDepth 100000 in
set_option maxHeartbeats 1600000 in
theorem all_any (R : Nat) (s : ByteArray) (ov : Value) (V : Vs) (rk : Bool) (w : World) (hs : s.size ≤ maxLen) (hm : MAt w R s 0 0 ov rk) (hv : VarsAt w R ov V) :
    Calls Try.prog 19 #[.pointer (some ⟨R, 0, none⟩)] w fun e w' => e = endE (allP rk V s) ∧ Keeps R w w' := by
  have c0 := hm.text
  have hG := good_inner rk V s 6
  have C1 := hid (sum_any R s 0 ov V rk _ hs hG (inner_any R s ov V rk hs 6 0 rfl) w 0 (Nat.zero_le _) hm hv)
  have hgd := good_sum rk V s _ hG 0 (Nat.zero_le _)
  obtain ⟨T, hT⟩ : ∃ T, T = allP rk V s := ⟨_, rfl⟩
  rw [← hT]
  unfold allP at hT
  have HT := hid hT
  clear hT hv hG
  by_cases h60 : 60 < s.size
  · have h60' : (60 : Int) < (s.size : Int) := by omega
    have HTE : Hid (T = .error 1) := by show _ = _; rw [HT.out, if_pos h60]
    clear HT hgd C1
    go_enter Try.func19, Try.ntmps19
    go_wp2
    exact ⟨rfl, by rw [HTE.out]; rfl, Keeps.refl _ _⟩
  · have h60' : ¬ (60 : Int) < (s.size : Int) := by omega
    have HTL : Hid (T = match sumOfP rk V s (innerP rk V s 6) 0 with
      | .error e => .error e
      | .ok (v, q) => if q < s.size then .error 1 else .ok v) := by show _ = _; rw [HT.out, if_neg h60]; rfl
    clear HT h60
    cases hx : sumOfP rk V s (innerP rk V s 6) 0 with
    | error c =>
      rw [hx] at C1 HTL
      have HTE : Hid (T = .error c) := HTL
      clear hx hgd HTL
      go_enter Try.func19, Try.ntmps19
      go_wp2_with fail
      refine C1.out.mono ?_
      rintro e w1 ⟨rfl, _, hk⟩
      exact ⟨rfl, by rw [HTE.out]; rfl, hk⟩
    | ok x =>
      obtain ⟨v, q⟩ := x
      have hb := hgd.1 v q hx
      have C2 : Hid (Calls Try.prog 25 #[.pointer (some ⟨R, 0, none⟩)] w fun e w' => e = .returned (.int .i64 v) ∧ MAt w' R s q 0 ov rk ∧ Keeps R w w') := C1.out.mono fun e w' h => ⟨by rw [h.1, hx]; rfl, h.2.1 v q hx, h.2.2⟩
      rw [hx] at HTL
      clear hx hgd C1
      by_cases hq : q < s.size
      · have hqI : (q : Int) < (s.size : Int) := by omega
        have HTE : Hid (T = .error 1) := by show _ = _; rw [HTL.out]; dsimp only; rw [if_pos hq]
        clear HTL hq
        go_enter Try.func19, Try.ntmps19
        go_wp2_with fail
        refine C2.out.mono ?_
        rintro e w1 ⟨rfl, hm1, hk1⟩
        have d0 := hm1.text
        have d1 := hm1.place
        have HK1 := hid hk1
        clear hm1 hk1
        go_wp2
        go_quiet (fail)
        go_wp2
        exact ⟨rfl, by rw [HTE.out]; rfl, HK1.out.trans (Keeps.drewN _)⟩
      · have hqI : ¬ (q : Int) < (s.size : Int) := by omega
        have HTE : Hid (T = .ok v) := by show _ = _; rw [HTL.out]; dsimp only; rw [if_neg hq]
        clear HTL hq
        go_enter Try.func19, Try.ntmps19
        go_wp2_with fail
        refine C2.out.mono ?_
        rintro e w1 ⟨rfl, hm1, hk1⟩
        have d0 := hm1.text
        have d1 := hm1.place
        have HK1 := hid hk1
        clear hm1 hk1
        go_wp2
        go_quiet (fail)
        go_wp2
        go_ret
        exact ⟨by rw [HTE.out]; rfl, HK1.out.trans (Keeps.drewN _)⟩

end Go.Proofs.Ytaabcbpbijkmnab
