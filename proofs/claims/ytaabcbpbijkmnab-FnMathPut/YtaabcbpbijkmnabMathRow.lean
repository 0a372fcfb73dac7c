/- DERIVED. The walks of signed and row. -/
import Derived.Test.YtaabcbpbijkmnabMathSingle
import Derived.Deep.RegionHeld3
namespace Go.Proofs.Ytaabcbpbijkmnab
open Go.RowKit

theorem minusP_step (s : ByteArray) (n : Nat) (f : Int) (p : Nat) (h : (takeP s 45 p).1 = true) : minusP s (n + 1) f p = minusP s n (-f) (takeP s 45 p).2 := by rw [minusP, if_pos h]

theorem minusP_stop (s : ByteArray) (n : Nat) (f : Int) (p : Nat) (h : (takeP s 45 p).1 = false) : minusP s (n + 1) f p = (f, (takeP s 45 p).2) := by rw [minusP, if_neg (by rw [h]; decide)]

set_option maxRecDepth 100000 in
set_option maxHeartbeats 1600000 in
theorem signed_any (R : Nat) (s : ByteArray) (o : Nat) (ov : Value) (V : Vs) (rk : Bool) (inner : Nat → Res) (hs : s.size ≤ maxLen) (hg : Good s inner) (hi : PartOk 50 R s o ov V rk inner) :
    PartOk 34 R s o ov V rk (signedP rk V s inner) := by
  intro w p hp hm hv
  have HM := hid hm
  have HV := hid hv
  have CT : Hid (∀ W q, q ≤ s.size → MAt W R s q o ov rk → Calls Try.prog 37 #[.pointer (some ⟨R, 0, none⟩), .int .u8 45] W fun e w' => e = .returned (.bool (takeP s 45 q).1) ∧ Read R s (takeP s 45 q).2 o ov rk W w') := fun W q hq h => take_any R s q o ov rk 45 W hs hq h
  have CS := hid (single_any R s o ov V rk inner hs hi)
  have HG := hid (good_single rk V s inner hg)
  clear hm hv hi hg
  obtain ⟨T, hT⟩ : ∃ T, T = signedP rk V s inner p := ⟨_, rfl⟩
  rw [← hT]
  unfold signedP at hT
  obtain ⟨M, hM⟩ : ∃ M, M = minusP s (s.size + 1) 1 p := ⟨_, rfl⟩
  rw [← hM] at hT
  have HMM := hid hM
  have HT := hid hT
  clear hM hT
  go_enter Try.func34, Try.ntmps34
  go_wp2
  go_loopg [3] (s.size - p) (fun gh v wr => ∃ (q n : Nat) (f : Int), q ≤ s.size ∧ s.size - q ≤ gh ∧ s.size - q < n ∧ (f = 1 ∨ f = -1) ∧ v = .int .i64 f ∧ M = minusP s n f q ∧ Read R s q o ov rk w wr)
  case atStart => exact ⟨p, s.size + 1, 1, hp, Nat.le_refl _, by omega, Or.inl rfl, rfl, HMM.out, HM.out, Keeps.refl _ _⟩
  case round =>
    obtain ⟨q, n, f, hq, hg, hn, hf, rfl, hMq, hrd⟩ := hrel
    have HR := hid hrd
    have HMQ := hid hMq
    have htl := takeP_le s 45 q hq
    have C1 := hid (CT.out wr q hq hrd.1)
    clear hrd hMq
    obtain ⟨n, rfl⟩ : ∃ n', n = n' + 1 := ⟨n - 1, by omega⟩
    cases hb : (takeP s 45 q).1
    · rw [hb] at C1
      have HME : Hid (M = (f, (takeP s 45 q).2)) := by show _ = _; rw [HMQ.out]; exact minusP_stop s n f q hb
      obtain ⟨q1, hq1⟩ : ∃ q1, q1 = (takeP s 45 q).2 := ⟨_, rfl⟩
      rw [← hq1] at C1 htl HME
      clear hq1 hb HMQ
      go_wp2_with fail
      refine C1.out.mono ?_
      rintro e w1 ⟨rfl, hrd1⟩
      have HR1 := hid hrd1
      have C2 := hid (CS.out w1 q1 htl.2.1 hrd1.1 (HV.out.keep (HR.out.2.trans hrd1.2)))
      have HKK : Hid (Keeps R w w1) := HR.out.2.trans hrd1.2
      clear hrd1
      have hgd := HG.out q1 htl.2.1
      cases hx : singleP rk V s inner q1 with
      | error c =>
        rw [hx] at C2
        go_wp2_with fail
        refine C2.out.mono ?_
        rintro e w2 ⟨rfl, _, hk⟩
        have hTe : T = .error c := by rw [HT.out, HME.out]; dsimp only; rw [hx]
        refine ⟨rfl, ?_, fun v q e => ?_, HKK.out.trans hk⟩
        · rw [hTe]; rfl
        · rw [hTe] at e; cases e
      | ok x =>
        obtain ⟨z, q'⟩ := x
        have hzb := hgd.1 z q' hx
        have C3 : Hid (Calls Try.prog 38 #[.pointer (some ⟨R, 0, none⟩)] w1 fun e w' => e = .returned (.int .i64 z) ∧ MAt w' R s q' o ov rk ∧ Keeps R w1 w') := C2.out.mono fun e w' h => ⟨by rw [h.1, hx]; rfl, h.2.1 z q' hx, h.2.2⟩
        have hw : IntKind.i64.wrap (f * z) = f * z := by
          rw [IntKind.wrap_i64]; rcases hf with rfl | rfl <;> omega
        have HX := hid hx
        clear C2 hgd hzb hf hx
        go_wp2_with fail
        refine C3.out.mono ?_
        rintro e w2 ⟨rfl, hm2, hk2⟩
        have HM2 := hid hm2
        have HK2 := hid hk2
        clear hm2 hk2
        go_wp2
        go_ret
        have hTe : T = .ok (f * z, q') := by rw [HT.out, HME.out]; dsimp only; rw [HX.out]
        refine ⟨?_, fun v q e => ?_, HKK.out.trans HK2.out⟩
        · rw [hTe]; rfl
        · rw [hTe] at e; injection e with e; injection e with e1 e2; rw [← e2]; exact HM2.out
    · rw [hb] at C1
      have HME : Hid (M = minusP s n (-f) (takeP s 45 q).2) := by show _ = _; rw [HMQ.out]; exact minusP_step s n f q hb
      have hlt := htl.2.2 hb
      obtain ⟨q1, hq1⟩ : ∃ q1, q1 = (takeP s 45 q).2 := ⟨_, rfl⟩
      rw [← hq1] at C1 htl HME hlt
      clear hq1 hb HMQ
      have hw : IntKind.i64.wrap (-f) = -f := by rw [IntKind.wrap_i64]; omega
      go_wp2_with fail
      refine C1.out.mono ?_
      rintro e w1 ⟨rfl, hrd1⟩
      have HR1 := hid hrd1
      clear hrd1
      go_wp2
      go_roundg (s.size - q1)
      case measure => omega
      case rel => exact ⟨q1, n, -f, htl.2.1, Nat.le_refl _, by omega, by omega, by first | rfl | (simp; done), HME.out, HR1.out.1, HR.out.2.trans HR1.out.2⟩

end Go.Proofs.Ytaabcbpbijkmnab
