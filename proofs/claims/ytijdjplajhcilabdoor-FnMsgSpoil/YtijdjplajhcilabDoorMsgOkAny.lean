/- DERIVED. MsgOk of the program and of the model, exactly. -/
import Derived.Test.YtijdjplajhcilabDoorEntImpl
import Derived.Test.YtijdjplajhcilabDoorEntSpec
namespace Go.Proofs.YtijdjplajhcilabDoor
open Go.RowKit

set_option maxRecDepth 100000 in
set_option maxHeartbeats 4000000 in
theorem implMsgOk_any (kd fr tt bl ins : Int) (va la : Option Addr) (n vc m lc : Nat) (V : List Int) (L : List Ent) (w : World) (hn : n = V.length) (hn2 : n ≤ 1048576) (hV : NumsAt w va V) (hm : m = L.length) (hm2 : m ≤ 1048576) (hL : EntsAt w la L) :
    Calls Tryd.prog 10 #[.agg #[.int .i64 kd, .int .i64 fr, .int .i64 tt, .int .i64 bl, .int .i64 ins, .slice va n vc, .slice la m lc]] w fun e w' => e = .returned (.bool (msgOkP kd fr tt bl ins V L)) ∧ Below w.heap.size w w' := by
  obtain ⟨a, ha⟩ : ∃ a, a = inB kd 1 9 := ⟨_, rfl⟩
  obtain ⟨v, hv⟩ : ∃ v, v = okV V := ⟨_, rfl⟩
  obtain ⟨l, hll⟩ : ∃ l, l = listOkP L := ⟨_, rfl⟩
  obtain ⟨b, hb⟩ : ∃ b, b = party fr := ⟨_, rfl⟩
  obtain ⟨c, hc⟩ : ∃ c, c = party tt := ⟨_, rfl⟩
  have CA : Hid (∀ w', Calls Tryd.prog 23 #[.int .i64 kd] w' fun e w2 => e = .returned (.bool a) ∧ w2 = w') := fun w' => by rw [ha]; exact kind_any _ _
  have CB : Hid (∀ w', Calls Tryd.prog 24 #[.int .i64 fr] w' fun e w2 => e = .returned (.bool b) ∧ w2 = w') := fun w' => by rw [hb]; exact party_any _ _
  have CC : Hid (∀ w', Calls Tryd.prog 24 #[.int .i64 tt] w' fun e w2 => e = .returned (.bool c) ∧ w2 = w') := fun w' => by rw [hc]; exact party_any _ _
  have CV : Hid (∀ w', Below w.heap.size w w' → Calls Tryd.prog 25 #[.slice va n vc] w' fun e w2 => e = .returned (.bool v) ∧ w2 = w') := fun w' hb => by rw [hv]; exact implVotesOk_any va vc n V w' hn hn2 (hV.below hb)
  have CL : Hid (∀ w', Below w.heap.size w w' → Calls Tryd.prog 26 #[.slice la m lc] w' fun e w2 => e = .returned (.bool l) ∧ Below w'.heap.size w' w2) := fun w' hb => by rw [hll]; exact entriesOk_any la lc m L w' hm hm2 (hL.below hb)
  have HM0 : Hid (msgOkP kd fr tt bl ins V L = (a && b && c && inB bl 0 9999 && inB ins 0 12 && v && l)) := by show _ = _; rw [ha, hb, hc, hv, hll]; rfl
  clear ha hb hc hv hll hn hV hm hL
  cases a
  · have HM : Hid (msgOkP kd fr tt bl ins V L = false) := by show _ = _; rw [HM0.out]; rfl
    go_enter Tryd.func10, Tryd.ntmps10
    go_wp2_with fail
    refine (CA.out _).mono ?_
    rintro e w' ⟨rfl, rfl⟩
    go_wp2
    go_ret
    exact ⟨by rw [HM.out]; first | rfl | (simp; done) | (simp; omega), ((Below.refl _ _).alloc (Nat.le_refl _) _)⟩
  cases b
  · have HM : Hid (msgOkP kd fr tt bl ins V L = false) := by show _ = _; rw [HM0.out]; rfl
    go_enter Tryd.func10, Tryd.ntmps10
    go_wp2_with fail
    refine (CA.out _).mono ?_
    rintro e w' ⟨rfl, rfl⟩
    go_wp2_with fail
    refine (CB.out _).mono ?_
    rintro e w' ⟨rfl, rfl⟩
    go_wp2
    go_ret
    exact ⟨by rw [HM.out]; first | rfl | (simp; done) | (simp; omega), ((Below.refl _ _).alloc (Nat.le_refl _) _)⟩
  cases c
  · have HM : Hid (msgOkP kd fr tt bl ins V L = false) := by show _ = _; rw [HM0.out]; rfl
    go_enter Tryd.func10, Tryd.ntmps10
    go_wp2_with fail
    refine (CA.out _).mono ?_
    rintro e w' ⟨rfl, rfl⟩
    go_wp2_with fail
    refine (CB.out _).mono ?_
    rintro e w' ⟨rfl, rfl⟩
    go_wp2_with fail
    refine (CC.out _).mono ?_
    rintro e w' ⟨rfl, rfl⟩
    go_wp2
    go_ret
    exact ⟨by rw [HM.out]; first | rfl | (simp; done) | (simp; omega), ((Below.refl _ _).alloc (Nat.le_refl _) _)⟩
  by_cases h1 : bl ≥ 0
  case neg =>
    have HB0 : Hid ((inB bl 0 9999 && inB ins 0 12) = false) := by show _ = _; simp [inB]; omega
    have HM : Hid (msgOkP kd fr tt bl ins V L = false) := by show _ = _; rw [HM0.out]; rw [show (true && true && true && inB bl 0 9999 && inB ins 0 12) = (inB bl 0 9999 && inB ins 0 12) by simp, HB0.out]; rfl
    go_enter Tryd.func10, Tryd.ntmps10
    go_wp2_with fail
    refine (CA.out _).mono ?_
    rintro e w' ⟨rfl, rfl⟩
    go_wp2_with fail
    refine (CB.out _).mono ?_
    rintro e w' ⟨rfl, rfl⟩
    go_wp2_with fail
    refine (CC.out _).mono ?_
    rintro e w' ⟨rfl, rfl⟩
    go_wp2
    go_ret
    exact ⟨by rw [HM.out]; first | rfl | (simp; done) | (simp; omega), ((Below.refl _ _).alloc (Nat.le_refl _) _)⟩
  by_cases h2 : bl ≤ 9999
  case neg =>
    have HB0 : Hid ((inB bl 0 9999 && inB ins 0 12) = false) := by show _ = _; simp [inB]; omega
    have HM : Hid (msgOkP kd fr tt bl ins V L = false) := by show _ = _; rw [HM0.out]; rw [show (true && true && true && inB bl 0 9999 && inB ins 0 12) = (inB bl 0 9999 && inB ins 0 12) by simp, HB0.out]; rfl
    go_enter Tryd.func10, Tryd.ntmps10
    go_wp2_with fail
    refine (CA.out _).mono ?_
    rintro e w' ⟨rfl, rfl⟩
    go_wp2_with fail
    refine (CB.out _).mono ?_
    rintro e w' ⟨rfl, rfl⟩
    go_wp2_with fail
    refine (CC.out _).mono ?_
    rintro e w' ⟨rfl, rfl⟩
    go_wp2
    go_ret
    exact ⟨by rw [HM.out]; first | rfl | (simp; done) | (simp; omega), ((Below.refl _ _).alloc (Nat.le_refl _) _)⟩
  by_cases h3 : ins ≥ 0
  case neg =>
    have HB0 : Hid ((inB bl 0 9999 && inB ins 0 12) = false) := by show _ = _; simp [inB]; omega
    have HM : Hid (msgOkP kd fr tt bl ins V L = false) := by show _ = _; rw [HM0.out]; rw [show (true && true && true && inB bl 0 9999 && inB ins 0 12) = (inB bl 0 9999 && inB ins 0 12) by simp, HB0.out]; rfl
    go_enter Tryd.func10, Tryd.ntmps10
    go_wp2_with fail
    refine (CA.out _).mono ?_
    rintro e w' ⟨rfl, rfl⟩
    go_wp2_with fail
    refine (CB.out _).mono ?_
    rintro e w' ⟨rfl, rfl⟩
    go_wp2_with fail
    refine (CC.out _).mono ?_
    rintro e w' ⟨rfl, rfl⟩
    go_wp2
    go_ret
    exact ⟨by rw [HM.out]; first | rfl | (simp; done) | (simp; omega), ((Below.refl _ _).alloc (Nat.le_refl _) _)⟩
  by_cases h4 : ins ≤ 12
  case neg =>
    have HB0 : Hid ((inB bl 0 9999 && inB ins 0 12) = false) := by show _ = _; simp [inB]; omega
    have HM : Hid (msgOkP kd fr tt bl ins V L = false) := by show _ = _; rw [HM0.out]; rw [show (true && true && true && inB bl 0 9999 && inB ins 0 12) = (inB bl 0 9999 && inB ins 0 12) by simp, HB0.out]; rfl
    go_enter Tryd.func10, Tryd.ntmps10
    go_wp2_with fail
    refine (CA.out _).mono ?_
    rintro e w' ⟨rfl, rfl⟩
    go_wp2_with fail
    refine (CB.out _).mono ?_
    rintro e w' ⟨rfl, rfl⟩
    go_wp2_with fail
    refine (CC.out _).mono ?_
    rintro e w' ⟨rfl, rfl⟩
    go_wp2
    go_ret
    exact ⟨by rw [HM.out]; first | rfl | (simp; done) | (simp; omega), ((Below.refl _ _).alloc (Nat.le_refl _) _)⟩
  have HB1 : Hid ((inB bl 0 9999 && inB ins 0 12) = true) := by show _ = _; simp [inB]; omega
  have HM1 : Hid (msgOkP kd fr tt bl ins V L = (v && l)) := by show _ = _; rw [HM0.out, show (true && true && true && inB bl 0 9999 && inB ins 0 12) = (inB bl 0 9999 && inB ins 0 12) by simp, HB1.out]; rfl
  have d1 : decide (0 ≤ bl) = true := decide_eq_true h1
  have d2 : decide (bl ≤ 9999) = true := decide_eq_true h2
  have d3 : decide (0 ≤ ins) = true := decide_eq_true h3
  have d4 : decide (ins ≤ 12) = true := decide_eq_true h4
  cases v
  · have HM : Hid (msgOkP kd fr tt bl ins V L = false) := by show _ = _; rw [HM1.out]; rfl
    go_enter Tryd.func10, Tryd.ntmps10
    go_wp2_with fail
    refine (CA.out _).mono ?_
    rintro e w' ⟨rfl, rfl⟩
    go_wp2_with fail
    refine (CB.out _).mono ?_
    rintro e w' ⟨rfl, rfl⟩
    go_wp2_with fail
    refine (CC.out _).mono ?_
    rintro e w' ⟨rfl, rfl⟩
    go_wp2_with fail
    refine (CV.out _ ((Below.refl _ _).alloc (Nat.le_refl _) _)).mono ?_
    rintro e w' ⟨rfl, rfl⟩
    go_wp2
    go_ret
    exact ⟨by rw [HM.out]; first | rfl | (simp; done) | (simp; omega), ((Below.refl _ _).alloc (Nat.le_refl _) _)⟩
  have HM : Hid (msgOkP kd fr tt bl ins V L = l) := by show _ = _; rw [HM1.out]; rfl
  go_enter Tryd.func10, Tryd.ntmps10
  go_wp2_with fail
  refine (CA.out _).mono ?_
  rintro e w' ⟨rfl, rfl⟩
  go_wp2_with fail
  refine (CB.out _).mono ?_
  rintro e w' ⟨rfl, rfl⟩
  go_wp2_with fail
  refine (CC.out _).mono ?_
  rintro e w' ⟨rfl, rfl⟩
  go_wp2_with fail
  refine (CV.out _ ((Below.refl _ _).alloc (Nat.le_refl _) _)).mono ?_
  rintro e w' ⟨rfl, rfl⟩
  go_wp2_with fail
  refine (CL.out _ ((Below.refl _ _).alloc (Nat.le_refl _) _)).mono ?_
  rintro e w' ⟨rfl, hb⟩
  have HBL : Hid (Below w.heap.size w w') := (((Below.refl _ _).alloc (Nat.le_refl _) _) : Below w.heap.size w _).trans (hb.mono (by simp))
  clear hb
  go_wp2
  go_ret
  exact ⟨by rw [HM.out]; first | rfl | (simp; done), HBL.out⟩

set_option maxRecDepth 100000 in
set_option maxHeartbeats 4000000 in
theorem l9Ok_any (kd fr tt bl ins : Int) (va la : Option Addr) (n vc m lc : Nat) (V : List Int) (L : List Ent) (w : World) (hn : n = V.length) (hn2 : n ≤ 1048576) (hV : NumsAt w va V) (hm : m = L.length) (hm2 : m ≤ 1048576) (hL : EntsAt w la L) :
    Calls Tryd.prog 15 #[.agg #[.int .i64 kd, .int .i64 fr, .int .i64 tt, .int .i64 bl, .int .i64 ins, .slice va n vc, .slice la m lc]] w fun e w' => e = .returned (.bool (msgOkP kd fr tt bl ins V L)) ∧ Below w.heap.size w w' := by
  obtain ⟨a, ha⟩ : ∃ a, a = inB kd 1 9 := ⟨_, rfl⟩
  obtain ⟨b1, hb1⟩ : ∃ b1, b1 = inB fr 0 2 := ⟨_, rfl⟩
  obtain ⟨b2, hb2⟩ : ∃ b2, b2 = inB fr 10 12 := ⟨_, rfl⟩
  obtain ⟨c1, hc1⟩ : ∃ c1, c1 = inB tt 0 2 := ⟨_, rfl⟩
  obtain ⟨c2, hc2⟩ : ∃ c2, c2 = inB tt 10 12 := ⟨_, rfl⟩
  obtain ⟨d, hd⟩ : ∃ d, d = inB bl 0 9999 := ⟨_, rfl⟩
  obtain ⟨i, hi⟩ : ∃ i, i = inB ins 0 12 := ⟨_, rfl⟩
  obtain ⟨v, hv⟩ : ∃ v, v = okV V := ⟨_, rfl⟩
  obtain ⟨l, hl⟩ : ∃ l, l = listOkP L := ⟨_, rfl⟩
  have CA : Hid (∀ w', Calls Tryd.prog 32 #[.int .i64 kd, .int .i64 1, .int .i64 9] w' fun e w2 => e = .returned (.bool a) ∧ w2 = w') := fun w' => by rw [ha]; exact in_any _ _ _ _
  have CB1 : Hid (∀ w', Calls Tryd.prog 33 #[.int .i64 fr] w' fun e w2 => e = .returned (.bool b1) ∧ w2 = w') := fun w' => by rw [hb1]; exact l9Agent_any _ _
  have CB2 : Hid (∀ w', Calls Tryd.prog 34 #[.int .i64 fr] w' fun e w2 => e = .returned (.bool b2) ∧ w2 = w') := fun w' => by rw [hb2]; exact l9Rep_any _ _
  have CC1 : Hid (∀ w', Calls Tryd.prog 33 #[.int .i64 tt] w' fun e w2 => e = .returned (.bool c1) ∧ w2 = w') := fun w' => by rw [hc1]; exact l9Agent_any _ _
  have CC2 : Hid (∀ w', Calls Tryd.prog 34 #[.int .i64 tt] w' fun e w2 => e = .returned (.bool c2) ∧ w2 = w') := fun w' => by rw [hc2]; exact l9Rep_any _ _
  have CD : Hid (∀ w', Calls Tryd.prog 32 #[.int .i64 bl, .int .i64 0, .int .i64 9999] w' fun e w2 => e = .returned (.bool d) ∧ w2 = w') := fun w' => by rw [hd]; exact in_any _ _ _ _
  have CI : Hid (∀ w', Calls Tryd.prog 32 #[.int .i64 ins, .int .i64 0, .int .i64 12] w' fun e w2 => e = .returned (.bool i) ∧ w2 = w') := fun w' => by rw [hi]; exact in_any _ _ _ _
  have CV : Hid (∀ w', Below w.heap.size w w' → Calls Tryd.prog 35 #[.slice va n vc] w' fun e w2 => e = .returned (.bool v) ∧ w2 = w') := fun w' hb => by rw [hv]; exact specVotesOk_any va vc n V w' hn hn2 (hV.below hb)
  have CL : Hid (∀ w', Below w.heap.size w w' → Calls Tryd.prog 36 #[.slice la m lc] w' fun e w2 => e = .returned (.bool l) ∧ Below w'.heap.size w' w2) := fun w' hb => by rw [hl]; exact l9ListOk_any la lc m L w' hm hm2 (hL.below hb)
  have HM0 : Hid (msgOkP kd fr tt bl ins V L = (a && (b1 || b2) && (c1 || c2) && d && i && v && l)) := by show _ = _; rw [ha, hb1, hb2, hc1, hc2, hd, hi, hv, hl]; rfl
  clear ha hb1 hb2 hc1 hc2 hd hi hv hl hn hV hm hL
  cases a
  · have HM : Hid (msgOkP kd fr tt bl ins V L = false) := by show _ = _; rw [HM0.out]; rfl
    go_enter Tryd.func15, Tryd.ntmps15
    go_wp2_with fail
    refine (CA.out _).mono ?_
    rintro e w' ⟨rfl, rfl⟩
    go_wp2
    go_ret
    exact ⟨by rw [HM.out]; first | rfl | (simp; done) | (simp; omega), ((Below.refl _ _).alloc (Nat.le_refl _) _)⟩
  cases b1
  · cases b2
    · have HM : Hid (msgOkP kd fr tt bl ins V L = false) := by show _ = _; rw [HM0.out]; rfl
      go_enter Tryd.func15, Tryd.ntmps15
      go_wp2_with fail
      refine (CA.out _).mono ?_
      rintro e w' ⟨rfl, rfl⟩
      go_wp2_with fail
      refine (CB1.out _).mono ?_
      rintro e w' ⟨rfl, rfl⟩
      go_wp2_with fail
      refine (CB2.out _).mono ?_
      rintro e w' ⟨rfl, rfl⟩
      go_wp2
      go_ret
      exact ⟨by rw [HM.out]; first | rfl | (simp; done) | (simp; omega), ((Below.refl _ _).alloc (Nat.le_refl _) _)⟩
    · skip
      cases c1
      · cases c2
        · have HM : Hid (msgOkP kd fr tt bl ins V L = false) := by show _ = _; rw [HM0.out]; rfl
          go_enter Tryd.func15, Tryd.ntmps15
          go_wp2_with fail
          refine (CA.out _).mono ?_
          rintro e w' ⟨rfl, rfl⟩
          go_wp2_with fail
          refine (CB1.out _).mono ?_
          rintro e w' ⟨rfl, rfl⟩
          go_wp2_with fail
          refine (CB2.out _).mono ?_
          rintro e w' ⟨rfl, rfl⟩
          go_wp2_with fail
          refine (CC1.out _).mono ?_
          rintro e w' ⟨rfl, rfl⟩
          go_wp2_with fail
          refine (CC2.out _).mono ?_
          rintro e w' ⟨rfl, rfl⟩
          go_wp2
          go_ret
          exact ⟨by rw [HM.out]; first | rfl | (simp; done) | (simp; omega), ((Below.refl _ _).alloc (Nat.le_refl _) _)⟩
        · skip
          cases d
          · have HM : Hid (msgOkP kd fr tt bl ins V L = false) := by show _ = _; rw [HM0.out]; rfl
            go_enter Tryd.func15, Tryd.ntmps15
            go_wp2_with fail
            refine (CA.out _).mono ?_
            rintro e w' ⟨rfl, rfl⟩
            go_wp2_with fail
            refine (CB1.out _).mono ?_
            rintro e w' ⟨rfl, rfl⟩
            go_wp2_with fail
            refine (CB2.out _).mono ?_
            rintro e w' ⟨rfl, rfl⟩
            go_wp2_with fail
            refine (CC1.out _).mono ?_
            rintro e w' ⟨rfl, rfl⟩
            go_wp2_with fail
            refine (CC2.out _).mono ?_
            rintro e w' ⟨rfl, rfl⟩
            go_wp2_with fail
            refine (CD.out _).mono ?_
            rintro e w' ⟨rfl, rfl⟩
            go_wp2
            go_ret
            exact ⟨by rw [HM.out]; first | rfl | (simp; done) | (simp; omega), ((Below.refl _ _).alloc (Nat.le_refl _) _)⟩
          cases i
          · have HM : Hid (msgOkP kd fr tt bl ins V L = false) := by show _ = _; rw [HM0.out]; rfl
            go_enter Tryd.func15, Tryd.ntmps15
            go_wp2_with fail
            refine (CA.out _).mono ?_
            rintro e w' ⟨rfl, rfl⟩
            go_wp2_with fail
            refine (CB1.out _).mono ?_
            rintro e w' ⟨rfl, rfl⟩
            go_wp2_with fail
            refine (CB2.out _).mono ?_
            rintro e w' ⟨rfl, rfl⟩
            go_wp2_with fail
            refine (CC1.out _).mono ?_
            rintro e w' ⟨rfl, rfl⟩
            go_wp2_with fail
            refine (CC2.out _).mono ?_
            rintro e w' ⟨rfl, rfl⟩
            go_wp2_with fail
            refine (CD.out _).mono ?_
            rintro e w' ⟨rfl, rfl⟩
            go_wp2_with fail
            refine (CI.out _).mono ?_
            rintro e w' ⟨rfl, rfl⟩
            go_wp2
            go_ret
            exact ⟨by rw [HM.out]; first | rfl | (simp; done) | (simp; omega), ((Below.refl _ _).alloc (Nat.le_refl _) _)⟩
          cases v
          · have HM : Hid (msgOkP kd fr tt bl ins V L = false) := by show _ = _; rw [HM0.out]; rfl
            go_enter Tryd.func15, Tryd.ntmps15
            go_wp2_with fail
            refine (CA.out _).mono ?_
            rintro e w' ⟨rfl, rfl⟩
            go_wp2_with fail
            refine (CB1.out _).mono ?_
            rintro e w' ⟨rfl, rfl⟩
            go_wp2_with fail
            refine (CB2.out _).mono ?_
            rintro e w' ⟨rfl, rfl⟩
            go_wp2_with fail
            refine (CC1.out _).mono ?_
            rintro e w' ⟨rfl, rfl⟩
            go_wp2_with fail
            refine (CC2.out _).mono ?_
            rintro e w' ⟨rfl, rfl⟩
            go_wp2_with fail
            refine (CD.out _).mono ?_
            rintro e w' ⟨rfl, rfl⟩
            go_wp2_with fail
            refine (CI.out _).mono ?_
            rintro e w' ⟨rfl, rfl⟩
            go_wp2_with fail
            refine (CV.out _ ((Below.refl _ _).alloc (Nat.le_refl _) _)).mono ?_
            rintro e w' ⟨rfl, rfl⟩
            go_wp2
            go_ret
            exact ⟨by rw [HM.out]; first | rfl | (simp; done) | (simp; omega), ((Below.refl _ _).alloc (Nat.le_refl _) _)⟩
          have HM : Hid (msgOkP kd fr tt bl ins V L = l) := by show _ = _; rw [HM0.out]; cases l <;> rfl
          go_enter Tryd.func15, Tryd.ntmps15
          go_wp2_with fail
          refine (CA.out _).mono ?_
          rintro e w' ⟨rfl, rfl⟩
          go_wp2_with fail
          refine (CB1.out _).mono ?_
          rintro e w' ⟨rfl, rfl⟩
          go_wp2_with fail
          refine (CB2.out _).mono ?_
          rintro e w' ⟨rfl, rfl⟩
          go_wp2_with fail
          refine (CC1.out _).mono ?_
          rintro e w' ⟨rfl, rfl⟩
          go_wp2_with fail
          refine (CC2.out _).mono ?_
          rintro e w' ⟨rfl, rfl⟩
          go_wp2_with fail
          refine (CD.out _).mono ?_
          rintro e w' ⟨rfl, rfl⟩
          go_wp2_with fail
          refine (CI.out _).mono ?_
          rintro e w' ⟨rfl, rfl⟩
          go_wp2_with fail
          refine (CV.out _ ((Below.refl _ _).alloc (Nat.le_refl _) _)).mono ?_
          rintro e w' ⟨rfl, rfl⟩
          go_wp2_with fail
          refine (CL.out _ ((Below.refl _ _).alloc (Nat.le_refl _) _)).mono ?_
          rintro e w' ⟨rfl, hb⟩
          have HBL : Hid (Below w.heap.size w w') := (((Below.refl _ _).alloc (Nat.le_refl _) _) : Below w.heap.size w _).trans (hb.mono (by simp))
          clear hb
          go_wp2
          go_ret
          exact ⟨by rw [HM.out]; first | rfl | (simp; done), HBL.out⟩
      · skip
        cases d
        · have HM : Hid (msgOkP kd fr tt bl ins V L = false) := by show _ = _; rw [HM0.out]; rfl
          go_enter Tryd.func15, Tryd.ntmps15
          go_wp2_with fail
          refine (CA.out _).mono ?_
          rintro e w' ⟨rfl, rfl⟩
          go_wp2_with fail
          refine (CB1.out _).mono ?_
          rintro e w' ⟨rfl, rfl⟩
          go_wp2_with fail
          refine (CB2.out _).mono ?_
          rintro e w' ⟨rfl, rfl⟩
          go_wp2_with fail
          refine (CC1.out _).mono ?_
          rintro e w' ⟨rfl, rfl⟩
          go_wp2_with fail
          refine (CD.out _).mono ?_
          rintro e w' ⟨rfl, rfl⟩
          go_wp2
          go_ret
          exact ⟨by rw [HM.out]; first | rfl | (simp; done) | (simp; omega), ((Below.refl _ _).alloc (Nat.le_refl _) _)⟩
        cases i
        · have HM : Hid (msgOkP kd fr tt bl ins V L = false) := by show _ = _; rw [HM0.out]; rfl
          go_enter Tryd.func15, Tryd.ntmps15
          go_wp2_with fail
          refine (CA.out _).mono ?_
          rintro e w' ⟨rfl, rfl⟩
          go_wp2_with fail
          refine (CB1.out _).mono ?_
          rintro e w' ⟨rfl, rfl⟩
          go_wp2_with fail
          refine (CB2.out _).mono ?_
          rintro e w' ⟨rfl, rfl⟩
          go_wp2_with fail
          refine (CC1.out _).mono ?_
          rintro e w' ⟨rfl, rfl⟩
          go_wp2_with fail
          refine (CD.out _).mono ?_
          rintro e w' ⟨rfl, rfl⟩
          go_wp2_with fail
          refine (CI.out _).mono ?_
          rintro e w' ⟨rfl, rfl⟩
          go_wp2
          go_ret
          exact ⟨by rw [HM.out]; first | rfl | (simp; done) | (simp; omega), ((Below.refl _ _).alloc (Nat.le_refl _) _)⟩
        cases v
        · have HM : Hid (msgOkP kd fr tt bl ins V L = false) := by show _ = _; rw [HM0.out]; rfl
          go_enter Tryd.func15, Tryd.ntmps15
          go_wp2_with fail
          refine (CA.out _).mono ?_
          rintro e w' ⟨rfl, rfl⟩
          go_wp2_with fail
          refine (CB1.out _).mono ?_
          rintro e w' ⟨rfl, rfl⟩
          go_wp2_with fail
          refine (CB2.out _).mono ?_
          rintro e w' ⟨rfl, rfl⟩
          go_wp2_with fail
          refine (CC1.out _).mono ?_
          rintro e w' ⟨rfl, rfl⟩
          go_wp2_with fail
          refine (CD.out _).mono ?_
          rintro e w' ⟨rfl, rfl⟩
          go_wp2_with fail
          refine (CI.out _).mono ?_
          rintro e w' ⟨rfl, rfl⟩
          go_wp2_with fail
          refine (CV.out _ ((Below.refl _ _).alloc (Nat.le_refl _) _)).mono ?_
          rintro e w' ⟨rfl, rfl⟩
          go_wp2
          go_ret
          exact ⟨by rw [HM.out]; first | rfl | (simp; done) | (simp; omega), ((Below.refl _ _).alloc (Nat.le_refl _) _)⟩
        have HM : Hid (msgOkP kd fr tt bl ins V L = l) := by show _ = _; rw [HM0.out]; cases l <;> rfl
        go_enter Tryd.func15, Tryd.ntmps15
        go_wp2_with fail
        refine (CA.out _).mono ?_
        rintro e w' ⟨rfl, rfl⟩
        go_wp2_with fail
        refine (CB1.out _).mono ?_
        rintro e w' ⟨rfl, rfl⟩
        go_wp2_with fail
        refine (CB2.out _).mono ?_
        rintro e w' ⟨rfl, rfl⟩
        go_wp2_with fail
        refine (CC1.out _).mono ?_
        rintro e w' ⟨rfl, rfl⟩
        go_wp2_with fail
        refine (CD.out _).mono ?_
        rintro e w' ⟨rfl, rfl⟩
        go_wp2_with fail
        refine (CI.out _).mono ?_
        rintro e w' ⟨rfl, rfl⟩
        go_wp2_with fail
        refine (CV.out _ ((Below.refl _ _).alloc (Nat.le_refl _) _)).mono ?_
        rintro e w' ⟨rfl, rfl⟩
        go_wp2_with fail
        refine (CL.out _ ((Below.refl _ _).alloc (Nat.le_refl _) _)).mono ?_
        rintro e w' ⟨rfl, hb⟩
        have HBL : Hid (Below w.heap.size w w') := (((Below.refl _ _).alloc (Nat.le_refl _) _) : Below w.heap.size w _).trans (hb.mono (by simp))
        clear hb
        go_wp2
        go_ret
        exact ⟨by rw [HM.out]; first | rfl | (simp; done), HBL.out⟩
  · skip
    cases c1
    · cases c2
      · have HM : Hid (msgOkP kd fr tt bl ins V L = false) := by show _ = _; rw [HM0.out]; rfl
        go_enter Tryd.func15, Tryd.ntmps15
        go_wp2_with fail
        refine (CA.out _).mono ?_
        rintro e w' ⟨rfl, rfl⟩
        go_wp2_with fail
        refine (CB1.out _).mono ?_
        rintro e w' ⟨rfl, rfl⟩
        go_wp2_with fail
        refine (CC1.out _).mono ?_
        rintro e w' ⟨rfl, rfl⟩
        go_wp2_with fail
        refine (CC2.out _).mono ?_
        rintro e w' ⟨rfl, rfl⟩
        go_wp2
        go_ret
        exact ⟨by rw [HM.out]; first | rfl | (simp; done) | (simp; omega), ((Below.refl _ _).alloc (Nat.le_refl _) _)⟩
      · skip
        cases d
        · have HM : Hid (msgOkP kd fr tt bl ins V L = false) := by show _ = _; rw [HM0.out]; rfl
          go_enter Tryd.func15, Tryd.ntmps15
          go_wp2_with fail
          refine (CA.out _).mono ?_
          rintro e w' ⟨rfl, rfl⟩
          go_wp2_with fail
          refine (CB1.out _).mono ?_
          rintro e w' ⟨rfl, rfl⟩
          go_wp2_with fail
          refine (CC1.out _).mono ?_
          rintro e w' ⟨rfl, rfl⟩
          go_wp2_with fail
          refine (CC2.out _).mono ?_
          rintro e w' ⟨rfl, rfl⟩
          go_wp2_with fail
          refine (CD.out _).mono ?_
          rintro e w' ⟨rfl, rfl⟩
          go_wp2
          go_ret
          exact ⟨by rw [HM.out]; first | rfl | (simp; done) | (simp; omega), ((Below.refl _ _).alloc (Nat.le_refl _) _)⟩
        cases i
        · have HM : Hid (msgOkP kd fr tt bl ins V L = false) := by show _ = _; rw [HM0.out]; rfl
          go_enter Tryd.func15, Tryd.ntmps15
          go_wp2_with fail
          refine (CA.out _).mono ?_
          rintro e w' ⟨rfl, rfl⟩
          go_wp2_with fail
          refine (CB1.out _).mono ?_
          rintro e w' ⟨rfl, rfl⟩
          go_wp2_with fail
          refine (CC1.out _).mono ?_
          rintro e w' ⟨rfl, rfl⟩
          go_wp2_with fail
          refine (CC2.out _).mono ?_
          rintro e w' ⟨rfl, rfl⟩
          go_wp2_with fail
          refine (CD.out _).mono ?_
          rintro e w' ⟨rfl, rfl⟩
          go_wp2_with fail
          refine (CI.out _).mono ?_
          rintro e w' ⟨rfl, rfl⟩
          go_wp2
          go_ret
          exact ⟨by rw [HM.out]; first | rfl | (simp; done) | (simp; omega), ((Below.refl _ _).alloc (Nat.le_refl _) _)⟩
        cases v
        · have HM : Hid (msgOkP kd fr tt bl ins V L = false) := by show _ = _; rw [HM0.out]; rfl
          go_enter Tryd.func15, Tryd.ntmps15
          go_wp2_with fail
          refine (CA.out _).mono ?_
          rintro e w' ⟨rfl, rfl⟩
          go_wp2_with fail
          refine (CB1.out _).mono ?_
          rintro e w' ⟨rfl, rfl⟩
          go_wp2_with fail
          refine (CC1.out _).mono ?_
          rintro e w' ⟨rfl, rfl⟩
          go_wp2_with fail
          refine (CC2.out _).mono ?_
          rintro e w' ⟨rfl, rfl⟩
          go_wp2_with fail
          refine (CD.out _).mono ?_
          rintro e w' ⟨rfl, rfl⟩
          go_wp2_with fail
          refine (CI.out _).mono ?_
          rintro e w' ⟨rfl, rfl⟩
          go_wp2_with fail
          refine (CV.out _ ((Below.refl _ _).alloc (Nat.le_refl _) _)).mono ?_
          rintro e w' ⟨rfl, rfl⟩
          go_wp2
          go_ret
          exact ⟨by rw [HM.out]; first | rfl | (simp; done) | (simp; omega), ((Below.refl _ _).alloc (Nat.le_refl _) _)⟩
        have HM : Hid (msgOkP kd fr tt bl ins V L = l) := by show _ = _; rw [HM0.out]; cases l <;> rfl
        go_enter Tryd.func15, Tryd.ntmps15
        go_wp2_with fail
        refine (CA.out _).mono ?_
        rintro e w' ⟨rfl, rfl⟩
        go_wp2_with fail
        refine (CB1.out _).mono ?_
        rintro e w' ⟨rfl, rfl⟩
        go_wp2_with fail
        refine (CC1.out _).mono ?_
        rintro e w' ⟨rfl, rfl⟩
        go_wp2_with fail
        refine (CC2.out _).mono ?_
        rintro e w' ⟨rfl, rfl⟩
        go_wp2_with fail
        refine (CD.out _).mono ?_
        rintro e w' ⟨rfl, rfl⟩
        go_wp2_with fail
        refine (CI.out _).mono ?_
        rintro e w' ⟨rfl, rfl⟩
        go_wp2_with fail
        refine (CV.out _ ((Below.refl _ _).alloc (Nat.le_refl _) _)).mono ?_
        rintro e w' ⟨rfl, rfl⟩
        go_wp2_with fail
        refine (CL.out _ ((Below.refl _ _).alloc (Nat.le_refl _) _)).mono ?_
        rintro e w' ⟨rfl, hb⟩
        have HBL : Hid (Below w.heap.size w w') := (((Below.refl _ _).alloc (Nat.le_refl _) _) : Below w.heap.size w _).trans (hb.mono (by simp))
        clear hb
        go_wp2
        go_ret
        exact ⟨by rw [HM.out]; first | rfl | (simp; done), HBL.out⟩
    · skip
      cases d
      · have HM : Hid (msgOkP kd fr tt bl ins V L = false) := by show _ = _; rw [HM0.out]; rfl
        go_enter Tryd.func15, Tryd.ntmps15
        go_wp2_with fail
        refine (CA.out _).mono ?_
        rintro e w' ⟨rfl, rfl⟩
        go_wp2_with fail
        refine (CB1.out _).mono ?_
        rintro e w' ⟨rfl, rfl⟩
        go_wp2_with fail
        refine (CC1.out _).mono ?_
        rintro e w' ⟨rfl, rfl⟩
        go_wp2_with fail
        refine (CD.out _).mono ?_
        rintro e w' ⟨rfl, rfl⟩
        go_wp2
        go_ret
        exact ⟨by rw [HM.out]; first | rfl | (simp; done) | (simp; omega), ((Below.refl _ _).alloc (Nat.le_refl _) _)⟩
      cases i
      · have HM : Hid (msgOkP kd fr tt bl ins V L = false) := by show _ = _; rw [HM0.out]; rfl
        go_enter Tryd.func15, Tryd.ntmps15
        go_wp2_with fail
        refine (CA.out _).mono ?_
        rintro e w' ⟨rfl, rfl⟩
        go_wp2_with fail
        refine (CB1.out _).mono ?_
        rintro e w' ⟨rfl, rfl⟩
        go_wp2_with fail
        refine (CC1.out _).mono ?_
        rintro e w' ⟨rfl, rfl⟩
        go_wp2_with fail
        refine (CD.out _).mono ?_
        rintro e w' ⟨rfl, rfl⟩
        go_wp2_with fail
        refine (CI.out _).mono ?_
        rintro e w' ⟨rfl, rfl⟩
        go_wp2
        go_ret
        exact ⟨by rw [HM.out]; first | rfl | (simp; done) | (simp; omega), ((Below.refl _ _).alloc (Nat.le_refl _) _)⟩
      cases v
      · have HM : Hid (msgOkP kd fr tt bl ins V L = false) := by show _ = _; rw [HM0.out]; rfl
        go_enter Tryd.func15, Tryd.ntmps15
        go_wp2_with fail
        refine (CA.out _).mono ?_
        rintro e w' ⟨rfl, rfl⟩
        go_wp2_with fail
        refine (CB1.out _).mono ?_
        rintro e w' ⟨rfl, rfl⟩
        go_wp2_with fail
        refine (CC1.out _).mono ?_
        rintro e w' ⟨rfl, rfl⟩
        go_wp2_with fail
        refine (CD.out _).mono ?_
        rintro e w' ⟨rfl, rfl⟩
        go_wp2_with fail
        refine (CI.out _).mono ?_
        rintro e w' ⟨rfl, rfl⟩
        go_wp2_with fail
        refine (CV.out _ ((Below.refl _ _).alloc (Nat.le_refl _) _)).mono ?_
        rintro e w' ⟨rfl, rfl⟩
        go_wp2
        go_ret
        exact ⟨by rw [HM.out]; first | rfl | (simp; done) | (simp; omega), ((Below.refl _ _).alloc (Nat.le_refl _) _)⟩
      have HM : Hid (msgOkP kd fr tt bl ins V L = l) := by show _ = _; rw [HM0.out]; cases l <;> rfl
      go_enter Tryd.func15, Tryd.ntmps15
      go_wp2_with fail
      refine (CA.out _).mono ?_
      rintro e w' ⟨rfl, rfl⟩
      go_wp2_with fail
      refine (CB1.out _).mono ?_
      rintro e w' ⟨rfl, rfl⟩
      go_wp2_with fail
      refine (CC1.out _).mono ?_
      rintro e w' ⟨rfl, rfl⟩
      go_wp2_with fail
      refine (CD.out _).mono ?_
      rintro e w' ⟨rfl, rfl⟩
      go_wp2_with fail
      refine (CI.out _).mono ?_
      rintro e w' ⟨rfl, rfl⟩
      go_wp2_with fail
      refine (CV.out _ ((Below.refl _ _).alloc (Nat.le_refl _) _)).mono ?_
      rintro e w' ⟨rfl, rfl⟩
      go_wp2_with fail
      refine (CL.out _ ((Below.refl _ _).alloc (Nat.le_refl _) _)).mono ?_
      rintro e w' ⟨rfl, hb⟩
      have HBL : Hid (Below w.heap.size w w') := (((Below.refl _ _).alloc (Nat.le_refl _) _) : Below w.heap.size w _).trans (hb.mono (by simp))
      clear hb
      go_wp2
      go_ret
      exact ⟨by rw [HM.out]; first | rfl | (simp; done), HBL.out⟩


end Go.Proofs.YtijdjplajhcilabDoor
