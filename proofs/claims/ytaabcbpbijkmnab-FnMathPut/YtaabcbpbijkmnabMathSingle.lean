/- DERIVED. The walks of the parts of a sum: named, single, signed. -/
import Derived.Test.YtaabcbpbijkmnabMathNamed
import Derived.Test.YtaabcbpbijkmnabMathTakeSign
namespace Go.Proofs.Ytaabcbpbijkmnab
open Go.RowKit

/-- How a part ends. -/
def endR : Res → Ending
  | .ok x => .returned (.int .i64 x.1)
  | .error c => .panicked [{ v := faultV c, recovered := false }]

/-- A function of the program reads as it should. -/
def PartOk (F R : Nat) (s : ByteArray) (o : Nat) (ov : Value) (V : Vs) (rk : Bool) (part : Nat → Res) : Prop :=
  ∀ (W : World) (p : Nat), p ≤ s.size → MAt W R s p o ov rk → VarsAt W R ov V →
    Calls Try.prog F #[.pointer (some ⟨R, 0, none⟩)] W fun e w' => e = endR (part p) ∧ (∀ v q, part p = .ok (v, q) → MAt w' R s q o ov rk) ∧ Keeps R W w'

set_option maxRecDepth 100000 in
set_option maxHeartbeats 800000 in
theorem named_any (R : Nat) (s : ByteArray) (p o : Nat) (ov : Value) (V : Vs) (rk : Bool) (n : ByteArray) (w : World) (h : MAt w R s p o ov rk) (hv : VarsAt w R ov V) :
    Calls Try.prog 55 #[.pointer (some ⟨R, 0, none⟩), .string n] w fun e w' => e = endE (namedP rk V n) ∧ Below w.heap.size w w' := by
  have c3 := h.vars
  have H := hid h
  have CT : Hid (∀ W, VarsAt W R ov V → Calls Try.prog 59 #[ov, .string n] W fun e w' => e = .returned (.string (textV V n)) ∧ Below W.heap.size W w') := fun W h => textOf_any R ov V n W h
  have hts : (textV V n).size ≤ maxLen := by
    obtain ⟨_, _, _, _, h2, _⟩ := hv
    exact textV_size V n h2
  have HV := hid hv
  unfold namedP
  obtain ⟨t, ht⟩ : ∃ t, t = textV V n := ⟨_, rfl⟩
  rw [← ht] at CT hts ⊢
  obtain ⟨oa, cp, rfl, _⟩ := hv
  clear h ht
  cases rk
  · rw [if_pos (Or.inl rfl)]
    go_enter Try.func55, Try.ntmps55
    go_wp2_with fail
    refine (CT.out _ HV.out).mono ?_
    rintro e w1 ⟨rfl, hb1⟩
    have c4 := (H.out.below hb1).reck
    have HB := hid hb1
    clear hb1
    go_wp2
    go_ret
    exact ⟨rfl, HB.out⟩
  · by_cases h0 : t.size = 0
    · have e0 : t = ⟨#[]⟩ := by cases t with | mk d => simp at h0; rw [h0]; rfl
      rw [if_pos (Or.inr h0)]
      subst e0
      clear h0 hts
      go_enter Try.func55, Try.ntmps55
      go_wp2_with fail
      refine (CT.out _ HV.out).mono ?_
      rintro e w1 ⟨rfl, hb1⟩
      have c4 := (H.out.below hb1).reck
      have HB := hid hb1
      clear hb1
      go_wp2
      go_ret
      exact ⟨rfl, HB.out⟩
    · have h0' : t.toList.isEmpty = false := by
        cases hx : t.toList with
        | nil => have := len_toList t; rw [hx] at this; simp at this; omega
        | cons c l => rfl
      rw [if_neg (fun c => by rcases c with c | c; cases c; exact h0 c)]
      have CS := hid (fun W => signedOf_any t W hts)
      clear h0 hts
      cases hz : signedV t.data.toList with
      | some z =>
        have CZ : Hid (∀ W, Calls Try.prog 60 #[.string t] W fun e w' => e = .returned (.tuple #[.int .i64 z, .bool true]) ∧ w' = W) := fun W => by
          have := CS.out W; unfold signedE at this; rw [hz] at this; exact this
        clear CS hz
        go_enter Try.func55, Try.ntmps55
        go_wp2_with fail
        refine (CT.out _ HV.out).mono ?_
        rintro e w1 ⟨rfl, hb1⟩
        have c4 := (H.out.below hb1).reck
        have HB := hid hb1
        clear hb1
        go_wp2_with fail
        refine (CZ.out _).mono ?_
        rintro e w2 ⟨rfl, rfl⟩
        go_wp2
        go_ret
        exact ⟨rfl, HB.out⟩
      | none =>
        have CZ : Hid (∀ W, Calls Try.prog 60 #[.string t] W fun e w' => (∃ z, e = .returned (.tuple #[.int .i64 z, .bool false])) ∧ w' = W) := fun W => by
          have := CS.out W; unfold signedE at this; rw [hz] at this; exact this
        clear CS hz
        go_enter Try.func55, Try.ntmps55
        go_wp2_with fail
        refine (CT.out _ HV.out).mono ?_
        rintro e w1 ⟨rfl, hb1⟩
        have c4 := (H.out.below hb1).reck
        have HB := hid hb1
        clear hb1
        go_wp2_with fail
        refine (CZ.out _).mono ?_
        rintro e w2 ⟨⟨z, rfl⟩, rfl⟩
        go_wp2
        exact ⟨rfl, rfl, HB.out⟩

theorem rest_ext (s : ByteArray) (q : Nat) : (s.extract q s.size).data.toList = restL s q := by
  simp [restL, ByteArray.data_extract, Array.toList_extract]
  rw [List.take_of_length_le]
  simp

theorem word_ext (s : ByteArray) (q : Nat) (hq : q ≤ s.size) : (s.extract q s.size).extract 0 (leadN (s.extract q s.size).data.toList) = wordP s q := by
  rw [rest_ext]
  unfold wordP
  have := leadN_le (restL s q)
  rw [restL_len] at this
  rw [ByteArray.extract_extract]
  congr 1
  omega

theorem wordP_size (s : ByteArray) (q : Nat) (hq : q ≤ s.size) : (wordP s q).size = leadN (restL s q) := by
  have := leadN_le (restL s q)
  rw [restL_len] at this
  unfold wordP
  simp
  omega

set_option maxRecDepth 100000 in
set_option maxHeartbeats 1600000 in
theorem single_any (R : Nat) (s : ByteArray) (o : Nat) (ov : Value) (V : Vs) (rk : Bool) (inner : Nat → Res) (hs : s.size ≤ maxLen) (hi : PartOk 50 R s o ov V rk inner) :
    PartOk 38 R s o ov V rk (singleP rk V s inner) := by
  intro w p hp hm hv
  have HM := hid hm
  have HV := hid hv
  have hsm := hs
  unfold maxLen at hs
  have CT : Hid (∀ W, MAt W R s p o ov rk → Calls Try.prog 37 #[.pointer (some ⟨R, 0, none⟩), .int .u8 40] W fun e w' => e = .returned (.bool (takeP s 40 p).1) ∧ Read R s (takeP s 40 p).2 o ov rk W w') := fun W h => take_any R s p o ov rk 40 W hsm hp h
  have htl := takeP_le s 40 p hp
  have HI := hid hi
  clear hm hv hi
  unfold singleP
  obtain ⟨⟨b, q⟩, hbq⟩ : ∃ x, x = takeP s 40 p := ⟨_, rfl⟩
  rw [← hbq] at CT htl ⊢
  dsimp only at CT htl ⊢
  clear hbq
  obtain ⟨_, hq, _⟩ := htl
  cases b
  · rw [if_neg (by decide)]
    obtain ⟨k, hk⟩ : ∃ k, k = leadN (restL s q) := ⟨_, rfl⟩
    have hkl := leadN_le (restL s q)
    rw [restL_len, ← hk] at hkl
    have hws := wordP_size s q hq
    have hwx := word_ext s q hq
    obtain ⟨wd, hwd⟩ : ∃ wd, wd = wordP s q := ⟨_, rfl⟩
    rw [← hwd, ← hk] at hws
    rw [← hwd] at hwx
    rw [← hwd, ← hk]
    have hwm : wd.size ≤ maxLen := by unfold maxLen; omega
    obtain ⟨r, hr⟩ : ∃ r, r = s.extract q s.size := ⟨_, rfl⟩
    have CL : ∀ W, Calls Try.prog 51 #[.string r, .func (.func 52) #[] #[]] W fun e w' => e = .returned (.string wd) ∧ w' = W := fun W => by
      have := leadN_any r W (by rw [hr]; simp; omega)
      rw [hr, hwx] at this
      rw [hr]; exact this
    have HCL := hid CL
    have hr' : s.extract q s.size = r := hr.symm
    clear hwx hwd hr CL hk
    have hq0 : (0 : Int) ≤ (q : Int) := by omega
    have hqs : (q : Int) ≤ (s.size : Int) := by omega
    have hsum : (q : Int) + (wd.size : Int) = ((q + k : Nat) : Int) := by omega
    have hwr : IntKind.i64.wrap ((q + k : Nat) : Int) = ((q + k : Nat) : Int) := by rw [IntKind.wrap_i64]; omega
    cases hn : isNum wd.data.toList
    · rw [if_neg (by decide)]
      have CN : Hid (∀ W, Calls Try.prog 53 #[.string wd] W fun e w' => e = .returned (.tuple #[.int .i64 0, .bool false]) ∧ w' = W) := fun W => number_no wd W hwm hn
      have CK := hid (fun W => nameOk_any wd W hwm)
      have CM := hid (fun W p' hm hv => named_any R s p' o ov V rk wd W hm hv)
      clear hn hwm
      cases hk : nameOkL wd.data.toList
      · rw [hk] at CK
        rw [if_neg (by decide)]
        clear hk CM
        go_enter Try.func38, Try.ntmps38
        go_wp2_with fail
        refine (CT.out _ HM.out).mono ?_
        rintro e w1 ⟨rfl, hrd⟩
        have c0 := hrd.1.text
        have c1 := hrd.1.place
        have f1 := hrd.1.free1
        have HRD := hid hrd
        clear hrd
        go_wp2
        go_quiet ((go_at_call 51; exact Calls.quiet_of_same (HCL.out _)))
        go_wp2_with fail
        refine (CN.out _).mono ?_
        rintro e w2 ⟨rfl, rfl⟩
        go_wp2_with fail
        refine (CK.out _).mono ?_
        rintro e w2 ⟨rfl, rfl⟩
        go_wp2
        exact ⟨rfl, rfl, fun v q e => (by cases e), HRD.out.2.trans ((Keeps.drewN _).trans (Keeps.set 1 _))⟩
      · rw [hk] at CK
        rw [if_pos rfl]
        clear hk
        obtain ⟨N, hN⟩ : ∃ N, N = namedP rk V wd := ⟨_, rfl⟩
        rw [← hN] at CM ⊢
        clear hN
        cases N with
        | error c =>
          go_enter Try.func38, Try.ntmps38
          go_wp2_with fail
          refine (CT.out _ HM.out).mono ?_
          rintro e w1 ⟨rfl, hrd⟩
          have c0 := hrd.1.text
          have c1 := hrd.1.place
          have f1 := hrd.1.free1
          have HRD := hid hrd
          clear hrd
          go_wp2
          go_quiet ((go_at_call 51; exact Calls.quiet_of_same (HCL.out _)))
          go_wp2_with fail
          refine (CN.out _).mono ?_
          rintro e w2 ⟨rfl, rfl⟩
          go_wp2_with fail
          refine (CK.out _).mono ?_
          rintro e w2 ⟨rfl, rfl⟩
          go_wp2_with fail
          refine (CM.out _ (q + k) ((HRD.out.1.drewN _).go (q + k)) (HV.out.keep (HRD.out.2.trans ((Keeps.drewN _).trans (Keeps.set 1 _))))).mono ?_
          rintro e w2 ⟨rfl, hb⟩
          exact ⟨rfl, rfl, fun v q e => (by cases e), (HRD.out.2.trans ((Keeps.drewN _).trans (Keeps.set 1 _))).trans (Keeps.of_below hb (((HRD.out.1.drewN _).go (q + k)).old))⟩
        | ok z =>
          have CZ : Hid (∀ W p', MAt W R s p' o ov rk → VarsAt W R ov V → Calls Try.prog 55 #[.pointer (some ⟨R, 0, none⟩), .string wd] W fun e w' => e = .returned (.int .i64 z) ∧ Below W.heap.size W w') := CM
          clear CM
          go_enter Try.func38, Try.ntmps38
          go_wp2_with fail
          refine (CT.out _ HM.out).mono ?_
          rintro e w1 ⟨rfl, hrd⟩
          have c0 := hrd.1.text
          have c1 := hrd.1.place
          have f1 := hrd.1.free1
          have HRD := hid hrd
          clear hrd
          go_wp2
          go_quiet ((go_at_call 51; exact Calls.quiet_of_same (HCL.out _)))
          go_wp2_with fail
          refine (CN.out _).mono ?_
          rintro e w2 ⟨rfl, rfl⟩
          go_wp2_with fail
          refine (CK.out _).mono ?_
          rintro e w2 ⟨rfl, rfl⟩
          go_wp2_with fail
          refine (CZ.out _ (q + k) ((HRD.out.1.drewN _).go (q + k)) (HV.out.keep (HRD.out.2.trans ((Keeps.drewN _).trans (Keeps.set 1 _))))).mono ?_
          rintro e w2 ⟨rfl, hb⟩
          have HM3 := hid (((HRD.out.1.drewN nq).go (q + k)).below hb)
          have HK3 : Hid (Keeps R w w2) := (HRD.out.2.trans ((Keeps.drewN _).trans (Keeps.set 1 _))).trans (Keeps.of_below hb (((HRD.out.1.drewN _).go (q + k)).old))
          clear hb
          go_wp2
          go_ret
          exact ⟨rfl, fun v q e => (by injection e with e; injection e with e1 e2; rw [← e2]; exact HM3.out), HK3.out⟩
    · rw [if_pos rfl]
      have hv : numOf wd.data.toList = numVal wd.data.toList := by unfold numOf; rw [if_pos hn]
      have CN : Hid (∀ W, Calls Try.prog 53 #[.string wd] W fun e w' => e = .returned (.tuple #[.int .i64 (numVal wd.data.toList), .bool true]) ∧ w' = W) := fun W => by have := number_yes wd W hn; rw [hv] at this; exact this
      obtain ⟨z, hz⟩ : ∃ z, z = numVal wd.data.toList := ⟨_, rfl⟩
      rw [← hz] at CN ⊢
      clear hz hv hn
      go_enter Try.func38, Try.ntmps38
      go_wp2_with fail
      refine (CT.out _ HM.out).mono ?_
      rintro e w1 ⟨rfl, hrd⟩
      have c0 := hrd.1.text
      have c1 := hrd.1.place
      have f1 := hrd.1.free1
      have HRD := hid hrd
      clear hrd
      go_wp2
      go_quiet ((go_at_call 51; exact Calls.quiet_of_same (HCL.out _)))
      go_wp2_with fail
      refine (CN.out _).mono ?_
      rintro e w2 ⟨rfl, rfl⟩
      go_wp2
      go_ret
      refine ⟨rfl, fun v q' e => ?_, ?_⟩
      · injection e with e; injection e with e1 e2
        rw [← e2]
        exact (HRD.out.1.drewN _).go (q + k)
      · exact HRD.out.2.trans ((Keeps.drewN _).trans (Keeps.set 1 _))
  · rw [if_pos rfl]
    go_enter Try.func38, Try.ntmps38
    go_wp2_with fail
    refine (CT.out _ HM.out).mono ?_
    rintro e w1 ⟨rfl, hrd⟩
    have HRD := hid hrd
    clear hrd
    have C2 := hid (HI.out w1 q hq HRD.out.1 (HV.out.keep HRD.out.2))
    cases hx : inner q with
    | error c =>
      rw [hx] at C2
      go_wp2_with fail
      refine C2.out.mono ?_
      rintro e w2 ⟨rfl, _, hk⟩
      exact ⟨rfl, by rw [hx]; rfl, fun v q e => (by rw [hx] at e; cases e), HRD.out.2.trans hk⟩
    | ok x =>
      obtain ⟨v, q'⟩ := x
      rw [hx] at C2
      have C3 : Hid (Calls Try.prog 50 #[.pointer (some ⟨R, 0, none⟩)] w1 fun e w' => e = .returned (.int .i64 v) ∧ MAt w' R s q' o ov rk ∧ Keeps R w1 w') := C2.out.mono fun e w' h => ⟨h.1, h.2.1 v q' rfl, h.2.2⟩
      clear C2
      go_wp2_with fail
      refine C3.out.mono ?_
      rintro e w2 ⟨rfl, hm2, hk⟩
      have HM2 := hid hm2
      have HK2 := hid hk
      clear hm2 hk
      go_wp2
      go_ret
      exact ⟨by rw [hx]; rfl, fun v q e => (by rw [hx] at e; injection e with e; injection e with e1 e2; rw [← e2]; exact HM2.out), HRD.out.2.trans HK2.out⟩

end Go.Proofs.Ytaabcbpbijkmnab
