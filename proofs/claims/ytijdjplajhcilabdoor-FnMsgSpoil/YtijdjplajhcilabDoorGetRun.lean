/- DERIVED. The reader of messages: a run of bytes, a number, a byte that is taken. -/
import Derived.Test.YtijdjplajhcilabDoorGetMem
import Derived.Test.YtijdjplajhcilabDoorRunB
import Derived.Test.YtijdjplajhcilabDoorSignedOf
import Derived.Test.YtijdjplajhcilabDoorGetPlain
namespace Go.Proofs.YtijdjplajhcilabDoor
open Go.RowKit
variable {w w' : World} {R : Nat} {s : ByteArray} {p : Nat}

set_option maxHeartbeats 800000 in
theorem numByte_any (c : UInt8) (W : World) :
    Calls Tryd.prog 58 #[.int .u8 (c.toNat : Int)] W fun e w' => e = .returned (.bool (gNumB c)) ∧ w' = W := by
  have CF := hid (fun W => figure_any (c.toNat : Int) W)
  have HN : Hid (gNumB c = (figB (c.toNat : Int) || decide ((c.toNat : Int) = 45))) := by
    show _ = _
    unfold gNumB
    congr 1
    rw [decide_eq_decide]
    constructor
    · intro h; rw [h]; rfl
    · intro h; exact UInt8.toNat_inj.mp (by have : (45 : UInt8).toNat = 45 := rfl; omega)
  cases hf : figB (c.toNat : Int)
  · rw [hf] at CF HN
    go_enter Tryd.func58, Tryd.ntmps58
    go_wp2_with fail
    refine (CF.out _).mono ?_
    rintro e w1 ⟨rfl, rfl⟩
    go_wp2
    go_ret
    exact ⟨by rw [HN.out]; first | rfl | simp, rfl⟩
  · rw [hf] at CF HN
    go_enter Tryd.func58, Tryd.ntmps58
    go_wp2_with fail
    refine (CF.out _).mono ?_
    rintro e w1 ⟨rfl, rfl⟩
    go_wp2
    go_ret
    exact ⟨by rw [HN.out]; first | rfl | simp, rfl⟩

theorem numByte_enters (args : Array Value) (W : World) : (callFunc 58 args).run Tryd.prog W = .ok (.enter 58 args) W := by kernel_rfl

theorem gByte_cons {s : ByteArray} {p : Nat} (h : p < s.size) : restL s p = gByte s p :: restL s (p + 1) := by
  rw [gByte_in h, restL_cons s p h]

/-- The first k of a run. -/
def runT (s : ByteArray) (p k : Nat) : ByteArray := ⟨((restL s p).take k).toArray⟩

theorem runT_size (s : ByteArray) (p k : Nat) (h : p + k ≤ s.size) : (runT s p k).size = k := by
  have : (restL s p).length = s.size - p := restL_len s p
  show ((restL s p).take k).toArray.size = k
  simp
  omega

theorem restL_get {s : ByteArray} {p k : Nat} (h : p + k < s.size) : (restL s p)[k]? = some (gByte s (p + k)) := by
  unfold restL
  rw [List.getElem?_drop, gByte_in h]
  rw [List.getElem?_eq_getElem (by simp; omega)]
  rfl

theorem runT_next (s : ByteArray) (p k : Nat) (h : p + k < s.size) : runT s p (k + 1) = runT s p k ++ ⟨#[gByte s (p + k)]⟩ := by
  apply Go.WideShapes.bytes_inj
  show ((restL s p).take (k + 1)) = _
  have e := restL_get h
  rw [List.take_add_one, e]
  simp [runT]

/-- A run that has come so far: only such bytes. -/
def RunTo (s : ByteArray) (p k : Nat) : Prop := ∀ x ∈ (restL s p).take k, gNumB x = true

theorem runTo_next {s : ByteArray} {p k : Nat} (h : RunTo s p k) (hk : p + k < s.size) (hc : gNumB (gByte s (p + k)) = true) : RunTo s p (k + 1) := by
  intro x hx
  rw [List.take_add_one, restL_get hk] at hx
  rcases List.mem_append.1 hx with hx | hx
  · exact h x hx
  · simp at hx
    rw [hx]
    exact hc

theorem takeWhile_to {l : List UInt8} {k : Nat} (h : ∀ x ∈ l.take k, gNumB x = true) (hk : k ≤ l.length) (he : ∀ c, l[k]? = some c → gNumB c = false) : gRun l = l.take k ∧ gDrop l = l.drop k := by
  unfold gRun gDrop
  induction l generalizing k with
  | nil => exact ⟨by simp, by simp⟩
  | cons a t ih =>
    cases k with
    | zero =>
      have := he a rfl
      rw [List.takeWhile_cons, List.dropWhile_cons, this]
      exact ⟨rfl, rfl⟩
    | succ k =>
      have ha : gNumB a = true := h a (by simp)
      obtain ⟨i1, i2⟩ := ih (k := k) (fun x hx => h x (by simp [hx])) (by simpa using hk) (fun c hc => he c (by simpa using hc))
      rw [List.takeWhile_cons, List.dropWhile_cons, ha]
      exact ⟨by rw [if_pos rfl, i1]; rfl, by rw [if_pos rfl, i2]; rfl⟩

theorem run_end {s : ByteArray} {p k : Nat} (h : RunTo s p k) (hk : p + k ≤ s.size) (he : p + k < s.size → gNumB (gByte s (p + k)) = false) : gRun (restL s p) = (restL s p).take k ∧ gDrop (restL s p) = restL s (p + k) := by
  have hl := restL_len s p
  have := takeWhile_to (l := restL s p) (k := k) h (by omega) (fun c hc => by
    have hlt : k < (restL s p).length := (List.getElem?_eq_some_iff.1 hc).1
    rw [restL_get (by omega)] at hc
    injection hc with hc
    rw [← hc]
    exact he (by omega))
  refine ⟨this.1, ?_⟩
  rw [this.2]
  unfold restL
  rw [List.drop_drop]

/-- What run answers. -/
def runS (s : ByteArray) (p : Nat) : ByteArray := ⟨(gRun (restL s p)).toArray⟩

theorem runS_end {s : ByteArray} {p k : Nat} (h : RunTo s p k) (hk : p + k ≤ s.size) (he : p + k < s.size → gNumB (gByte s (p + k)) = false) : runS s p = runT s p k := by
  unfold runS runT
  rw [(run_end h hk he).1]

/-- A builder above the reader stays a builder while the reader moves. -/
theorem used_keeps {base b : Nat} {t : ByteArray} (h : RbUsed base b t w) (k : Keeps R w w') (hR : R < base) : RbUsed base b t w' := by
  obtain ⟨v, hB, hlt, hbk, hown, hne⟩ := rused_block h
  have hz := k.below 0 w (Nat.zero_le _) (Below.refl 0 w)
  refine ⟨hB, v, (k.block b hlt (by omega)).trans hbk, hown.kept (row := some R) ⟨hz.os, hz.tape, hz.output, k.size, fun j hj hne => k.block j hj (fun e => hne (by rw [e]))⟩ ?_, hne⟩
  cases e : v.ownBlock with
  | none => exact Or.inl rfl
  | some j =>
    right
    intro c
    injection c with c
    have := (hown.lt j e).1
    omega

theorem fresh_at {b : Nat} (h : w.heap[b]? = some (.cells #[.pointer none, .slice none 0 0] 38 (0, 0))) : RbAt b b ⟨#[]⟩ w :=
  Or.inl ⟨Nat.le_refl _, .slice none 0 0, h, ⟨rfl, Or.inl ⟨rfl, rfl⟩⟩, by simp [Value.ownBlock]⟩

set_option maxRecDepth 100000 in
set_option maxHeartbeats 3200000 in
theorem run_any (h : RAt w R s p) :
    Calls Tryd.prog 57 #[.pointer (some ⟨R, 0, none⟩), .func (.func 58) #[] #[]] w fun e w' => e = .returned (.string (runS s p)) ∧ (∃ q, RAt w' R s q ∧ restL s q = gDrop (restL s p)) ∧ Keeps R w w' := by
  have hR := h.old
  have HRW : Hid (R < w.heap.size) := hR
  have hal : Below w.heap.size w (w.alloc (.cells #[.pointer none, .slice none 0 0] 38)) := (Below.refl _ _).alloc (Nat.le_refl _) _
  have HB0 : Hid (RAt (w.alloc (.cells #[.pointer none, .slice none 0 0] 38)) R s p) := h.below hal
  have HK0 : Hid (Keeps R w (w.alloc (.cells #[.pointer none, .slice none 0 0] 38))) := Keeps.of_below hal hR
  have HN0 : Hid ((w.alloc (.cells #[.pointer none, .slice none 0 0] 38)).heap[w.heap.size]? = some (.cells #[.pointer none, .slice none 0 0] 38 (0, 0))) := by
    show (w.heap.push _)[w.heap.size]? = _
    simp
  have hsm := h.small
  have HE := hid numByte_enters
  clear h hR hal
  go_enter Tryd.func57, Tryd.ntmps57
  go_wp2
  obtain ⟨n, hn⟩ : ∃ n, n = s.size - p + 1 := ⟨_, rfl⟩
  have HN := hid hn
  clear hn
  go_loopg [8] n (fun gh _ wr => ∃ k : Nat, k + gh = n ∧ Hid (RAt wr R s (p + k)) ∧ Hid (Keeps R w wr) ∧ Hid (RunTo s p k) ∧ Hid ((k = 0 ∧ wr.heap[w.heap.size]? = some (.cells #[.pointer none, .slice none 0 0] 38 (0, 0))) ∨ (0 < k ∧ RbUsed w.heap.size w.heap.size (runT s p k) wr)))
  case atStart => exact ⟨0, by omega, HB0, HK0, fun x hx => by simp at hx, Or.inl ⟨rfl, HN0.out⟩⟩
  case round =>
    obtain ⟨k, hk, HR, HK, HT, HU⟩ := hrel
    have HLE := hid HR.out.le
    cases gk with
    | zero =>
      have := HN.out
      have := HLE.out
      omega
    | succ gq =>
      by_cases hp : p + k < s.size
      · have CR := hid (rb_yes HR.out hp)
        have CF := hid (fun W => numByte_any (gByte s (p + k)) W)
        have HTN := hid (fun h => runTo_next HT.out hp h)
        have HEND := hid (fun (h : gNumB (gByte s (p + k)) = false) => (⟨runS_end HT.out (Nat.le_of_lt hp) (fun _ => h), (run_end HT.out (Nat.le_of_lt hp) (fun _ => h)).2⟩ : runS s p = runT s p k ∧ gDrop (restL s p) = restL s (p + k)))
        have HNX := hid (runT_next s p k hp)
        obtain ⟨c, hc⟩ : ∃ c, c = gByte s (p + k) := ⟨_, rfl⟩
        rw [← hc] at CR CF HTN HEND HNX
        have he := HE.out #[.int .u8 (c.toNat : Int)]
        clear hc
        cases hb : gNumB c
        · obtain ⟨e1, e2⟩ := HEND.out hb
          have HS1 := hid e1
          have HS2 := hid e2
          rw [hb] at CF
          clear e1 e2 HEND HTN
          rcases HU.out with ⟨hk0, hu⟩ | ⟨hk0, hu⟩
          · have HBK := hid hu
            have HZ := hid hk0
            clear hu hk0
            go_wp2_with fail
            refine CR.out.mono ?_
            rintro e w1 ⟨rfl, h1, k1⟩
            have HR1 := hid h1
            have HK1 := hid (HK.out.trans k1)
            have HB1 : Hid (w1.heap[w.heap.size]? = some (.cells #[.pointer none, .slice none 0 0] 38 (0, 0))) := (k1.block _ (Array.getElem?_eq_some_iff.1 HBK.out).1 (Nat.ne_of_gt HRW.out)).trans HBK.out
            clear h1 k1
            go_wp2_with fail
            refine (CF.out _).mono ?_
            rintro e w2 ⟨rfl, hw⟩
            rw [hw]
            clear hw
            clear w2
            go_wp2_with fail
            refine (ub_any HR1.out).mono ?_
            rintro e w2 ⟨rfl, h2, k2⟩
            have HR2 := hid h2
            have HK2 := hid (HK1.out.trans k2)
            have HB2 : Hid (w2.heap[w.heap.size]? = some (.cells #[.pointer none, .slice none 0 0] 38 (0, 0))) := (k2.block _ (Array.getElem?_eq_some_iff.1 HB1.out).1 (Nat.ne_of_gt HRW.out)).trans HB1.out
            clear h2 k2
            go_wp2_with fail
            refine (rtext_none _ _ HB2.out).mono ?_
            rintro e w3 ⟨rfl, hb3⟩
            have HR3 := hid (HR2.out.below hb3)
            have HK3 := hid (HK2.out.trans (Keeps.of_below hb3 HR2.out.old))
            clear hb3
            go_wp2
            go_ret
            exact ⟨by rw [HS1.out, HZ.out]; rfl, ⟨p + k, HR3.out, HS2.out.symm⟩, HK3.out⟩
          · have HU0 := hid hu
            have HZ := hid hk0
            clear hu hk0
            go_wp2_with fail
            refine CR.out.mono ?_
            rintro e w1 ⟨rfl, h1, k1⟩
            have HR1 := hid h1
            have HK1 := hid (HK.out.trans k1)
            have HU1 := hid (used_keeps HU0.out k1 HRW.out)
            clear h1 k1
            go_wp2_with fail
            refine (CF.out _).mono ?_
            rintro e w2 ⟨rfl, hw⟩
            rw [hw]
            clear hw
            clear w2
            go_wp2_with fail
            refine (ub_any HR1.out).mono ?_
            rintro e w2 ⟨rfl, h2, k2⟩
            have HR2 := hid h2
            have HK2 := hid (HK1.out.trans k2)
            have HU2 := hid (used_keeps HU1.out k2 HRW.out)
            clear h2 k2
            go_wp2_with fail
            refine (rtext_any _ _ _ _ HU2.out (by have := HLE.out; have := HZ.out; rw [runT_size s p k (by omega)]; omega)).mono ?_
            rintro e w3 ⟨rfl, hu3, hf3⟩
            have HR3 := hid (HR2.out.under HRW.out hf3.1)
            have HK3 := hid (HK2.out.under HRW.out hf3.1)
            clear hu3 hf3
            go_wp2
            go_ret
            exact ⟨by rw [HS1.out]; rfl, ⟨p + k, HR3.out, HS2.out.symm⟩, HK3.out⟩
        · have HT1 := hid (HTN.out hb)
          rw [hb] at CF
          have HTZ : Hid ((runT s p k).size ≤ 400) := by
            have := HLE.out
            show _ ≤ _
            rw [runT_size s p k (by omega)]
            omega
          have HT0 : Hid (k = 0 → runT s p k = ⟨#[]⟩) := fun e => by rw [e]; rfl
          clear HTN HEND
          rcases HU.out with ⟨hk0, hu⟩ | ⟨hk0, hu⟩
          · have HBK := hid hu
            have HZ := hid hk0
            clear hu hk0
            go_wp2_with fail
            refine CR.out.mono ?_
            rintro e w1 ⟨rfl, h1, k1⟩
            have HR1 := hid h1
            have HK1 := hid (HK.out.trans k1)
            have HB1 : Hid (w1.heap[w.heap.size]? = some (.cells #[.pointer none, .slice none 0 0] 38 (0, 0))) := (k1.block _ (Array.getElem?_eq_some_iff.1 HBK.out).1 (Nat.ne_of_gt HRW.out)).trans HBK.out
            clear h1 k1
            go_wp2_with fail
            refine (CF.out _).mono ?_
            rintro e w2 ⟨rfl, hw⟩
            rw [hw]
            clear hw
            clear w2
            go_wp2_with fail
            refine (rbyte_any w.heap.size w.heap.size (runT s p k) c (c.toNat : Int) _ (by rw [HT0.out HZ.out]; exact fresh_at HB1.out) HK1.out.size (by have := HTZ.out; omega) rfl).mono ?_
            rintro e w2 ⟨rfl, hu2, hf2⟩
            have HR2 := hid (HR1.out.under HRW.out hf2.1)
            have HK2 := hid (HK1.out.under HRW.out hf2.1)
            have HU2 : Hid (RbUsed w.heap.size w.heap.size (runT s p (k + 1)) w2) := by
              show RbUsed _ _ _ _
              rw [HNX.out]
              exact hu2
            clear hu2 hf2
            go_wp2
            go_roundg gq
            case measure => omega
            case rel => exact ⟨k + 1, by omega, HR2, HK2, HT1, Or.inr ⟨by omega, HU2.out⟩⟩
          · have HU0 := hid hu
            clear hu hk0
            go_wp2_with fail
            refine CR.out.mono ?_
            rintro e w1 ⟨rfl, h1, k1⟩
            have HR1 := hid h1
            have HK1 := hid (HK.out.trans k1)
            have HU1 := hid (used_keeps HU0.out k1 HRW.out)
            clear h1 k1
            go_wp2_with fail
            refine (CF.out _).mono ?_
            rintro e w2 ⟨rfl, hw⟩
            rw [hw]
            clear hw
            clear w2
            go_wp2_with fail
            refine (rbyte_any w.heap.size w.heap.size (runT s p k) c (c.toNat : Int) _ HU1.out.at HK1.out.size (by have := HTZ.out; omega) rfl).mono ?_
            rintro e w2 ⟨rfl, hu2, hf2⟩
            have HR2 := hid (HR1.out.under HRW.out hf2.1)
            have HK2 := hid (HK1.out.under HRW.out hf2.1)
            have HU2 : Hid (RbUsed w.heap.size w.heap.size (runT s p (k + 1)) w2) := by
              show RbUsed _ _ _ _
              rw [HNX.out]
              exact hu2
            clear hu2 hf2
            go_wp2
            go_roundg gq
            case measure => omega
            case rel => exact ⟨k + 1, by omega, HR2, HK2, HT1, Or.inr ⟨by omega, HU2.out⟩⟩
      · have CR := hid (rb_no HR.out hp)
        have HS1 : Hid (runS s p = runT s p k) := runS_end HT.out HLE.out (fun h => absurd h hp)
        have HS2 : Hid (gDrop (restL s p) = restL s (p + k)) := (run_end HT.out HLE.out (fun h => absurd h hp)).2
        rcases HU.out with ⟨hk0, hu⟩ | ⟨hk0, hu⟩
        · have HBK := hid hu
          have HZ := hid hk0
          clear hu hk0
          go_wp2_with fail
          refine CR.out.mono ?_
          rintro e w1 ⟨⟨a, rfl⟩, h1, k1⟩
          have HR1 := hid h1
          have HK1 := hid (HK.out.trans k1)
          have HB1 : Hid (w1.heap[w.heap.size]? = some (.cells #[.pointer none, .slice none 0 0] 38 (0, 0))) := (k1.block _ (Array.getElem?_eq_some_iff.1 HBK.out).1 (Nat.ne_of_gt HRW.out)).trans HBK.out
          clear h1 k1
          go_wp2_with fail
          refine (rtext_none _ _ HB1.out).mono ?_
          rintro e w3 ⟨rfl, hb3⟩
          have HR3 := hid (HR1.out.below hb3)
          have HK3 := hid (HK1.out.trans (Keeps.of_below hb3 HR1.out.old))
          clear hb3
          go_wp2
          go_ret
          exact ⟨by rw [HS1.out, HZ.out]; rfl, ⟨p + k, HR3.out, HS2.out.symm⟩, HK3.out⟩
        · have HU0 := hid hu
          have HZ := hid hk0
          clear hu hk0
          go_wp2_with fail
          refine CR.out.mono ?_
          rintro e w1 ⟨⟨a, rfl⟩, h1, k1⟩
          have HR1 := hid h1
          have HK1 := hid (HK.out.trans k1)
          have HU1 := hid (used_keeps HU0.out k1 HRW.out)
          clear h1 k1
          go_wp2_with fail
          refine (rtext_any _ _ _ _ HU1.out (by have := HLE.out; have := HZ.out; rw [runT_size s p k (by omega)]; omega)).mono ?_
          rintro e w3 ⟨rfl, hu3, hf3⟩
          have HR3 := hid (HR1.out.under HRW.out hf3.1)
          have HK3 := hid (HK1.out.under HRW.out hf3.1)
          clear hu3 hf3
          go_wp2
          go_ret
          exact ⟨by rw [HS1.out]; rfl, ⟨p + k, HR3.out, HS2.out.symm⟩, HK3.out⟩

theorem runS_len (s : ByteArray) (p : Nat) (h : s.size ≤ 400) : (runS s p).size ≤ 400 := by
  have h1 := restL_len s p
  have h2 : (gRun (restL s p)).length ≤ (restL s p).length := (List.takeWhile_sublist _).length_le
  show ((gRun (restL s p)).toArray).size ≤ 400
  simp
  omega

set_option maxRecDepth 100000 in
set_option maxHeartbeats 1600000 in
theorem rnumber_any (h : RAt w R s p) :
    Calls Tryd.prog 42 #[.pointer (some ⟨R, 0, none⟩)] w fun e w' => e = .returned (.tuple #[.int .i64 (gVal (restL s p)), .bool (gOk (restL s p))]) ∧ (∃ q, RAt w' R s q ∧ restL s q = gDrop (restL s p)) ∧ Keeps R w w' := by
  have CR := hid (run_any h)
  have hz := runS_len s p h.small
  have CS : Hid (∀ W, Calls Tryd.prog 56 #[.string (runS s p)] W fun e w' => e = .returned (.tuple #[.int .i64 (gVal (restL s p)), .bool (gOk (restL s p))]) ∧ w' = W) := fun W => (signedOf_any (runS s p) W (by unfold maxLen; omega)).mono fun e w' he => ⟨by
    have h1 := he.1
    have e1 : (runS s p).data.toList = gRun (restL s p) := by simp [runS]
    unfold signedE at h1
    rw [e1] at h1
    unfold gVal gOk
    cases hv : signedV (gRun (restL s p)) with
    | none => rw [hv] at h1; rw [h1]; rfl
    | some z => rw [hv] at h1; rw [h1]; rfl, he.2⟩
  obtain ⟨z, hz⟩ : ∃ z, z = gVal (restL s p) := ⟨_, rfl⟩
  obtain ⟨b, hb⟩ : ∃ b, b = gOk (restL s p) := ⟨_, rfl⟩
  rw [← hz, ← hb] at CS ⊢
  clear hz hb h
  go_enter Tryd.func42, Tryd.ntmps42
  go_wp2_with fail
  refine CR.out.mono ?_
  rintro e w1 ⟨rfl, h1, k1⟩
  have HR1 := hid h1
  have HK1 := hid k1
  clear h1 k1
  go_wp2_with fail
  refine (CS.out _).mono ?_
  rintro e w2 ⟨rfl, hw⟩
  rw [hw]
  clear hw
  clear w2
  go_wp2
  go_ret2
  exact ⟨rfl, HR1.out, HK1.out⟩

theorem gHas_end {s : ByteArray} {p : Nat} (c : UInt8) (h : ¬ p < s.size) : gHas c (restL s p) = false ∧ gSkip c (restL s p) = restL s p := by
  have : restL s p = [] := restL_end s p (by omega)
  rw [this]
  exact ⟨rfl, rfl⟩

theorem gHas_at {s : ByteArray} {p : Nat} (c : UInt8) (h : p < s.size) : gHas c (restL s p) = decide (gByte s p = c) ∧ gSkip c (restL s p) = if gByte s p = c then restL s (p + 1) else restL s p := by
  rw [gByte_cons h]
  exact ⟨rfl, rfl⟩

set_option maxRecDepth 100000 in
set_option maxHeartbeats 1600000 in
theorem rtake_any (h : RAt w R s p) (c : UInt8) (ci : Int) (hc : ci = (c.toNat : Int)) :
    Calls Tryd.prog 43 #[.pointer (some ⟨R, 0, none⟩), .int .u8 ci] w fun e w' => e = .returned (.bool (gHas c (restL s p))) ∧ (∃ q, RAt w' R s q ∧ restL s q = gSkip c (restL s p)) ∧ Keeps R w w' := by
  subst hc
  by_cases hp : p < s.size
  · obtain ⟨e1, e2⟩ := gHas_at c hp
    rw [e1, e2]
    have CR := hid (rb_yes h hp)
    obtain ⟨x, hx⟩ : ∃ x, x = gByte s p := ⟨_, rfl⟩
    rw [← hx] at CR ⊢
    clear hx e1 e2 h
    by_cases hxc : x = c
    · subst hxc
      have hb : (((x.toNat : Int)) == (x.toNat : Int)) = true := by rw [beq_self_eq_true]
      go_enter Tryd.func43, Tryd.ntmps43
      go_wp2_with fail
      refine CR.out.mono ?_
      rintro e w1 ⟨rfl, h1, k1⟩
      have HR1 := hid h1
      have HK1 := hid k1
      clear h1 k1
      go_wp2
      go_ret
      exact ⟨by first | rfl | simp, ⟨p + 1, HR1.out, by first | rfl | (rw [if_pos rfl])⟩, HK1.out⟩
    · have hne : (x.toNat : Int) ≠ (c.toNat : Int) := fun e => hxc (UInt8.toNat_inj.mp (by omega))
      have hb : ((x.toNat : Int) == (c.toNat : Int)) = false := by rw [beq_eq_false_iff_ne]; exact hne
      have hb2 : ((x.toNat : Int) != (c.toNat : Int)) = true := by rw [bne, hb]; rfl
      have HX := hid hxc
      clear hxc
      go_enter Tryd.func43, Tryd.ntmps43
      go_wp2_with fail
      refine CR.out.mono ?_
      rintro e w1 ⟨rfl, h1, k1⟩
      have HR1 := hid h1
      have HK1 := hid k1
      clear h1 k1
      go_wp2_with fail
      refine (ub_any HR1.out).mono ?_
      rintro e w2 ⟨rfl, h2, k2⟩
      have HR2 := hid h2
      have HK2 := hid (HK1.out.trans k2)
      clear h2 k2
      go_wp2
      go_ret
      exact ⟨by first | rfl | (rw [decide_eq_false HX.out]; first | rfl | simp), ⟨p, HR2.out, by first | rfl | (rw [if_neg HX.out])⟩, HK2.out⟩
  · obtain ⟨e1, e2⟩ := gHas_end c hp
    rw [e1, e2]
    have CR := hid (rb_no h hp)
    clear e1 e2 h
    go_enter Tryd.func43, Tryd.ntmps43
    go_wp2_with fail
    refine CR.out.mono ?_
    rintro e w1 ⟨⟨a, rfl⟩, h1, k1⟩
    have HR1 := hid h1
    have HK1 := hid k1
    clear h1 k1
    go_wp2
    go_ret
    exact ⟨by first | rfl | simp, ⟨p, HR1.out, rfl⟩, HK1.out⟩

end Go.Proofs.YtijdjplajhcilabDoor
