/- DERIVED. The walk of row. -/
import Derived.Test.YtaabcbpbijkmnabMathRow
namespace Go.Proofs.Ytaabcbpbijkmnab
open Go.RowKit

theorem signP_mem (s : ByteArray) (t : Bool) (p : Nat) (c : UInt8) (h : (signP s t p).1 = some c) : c = 43 ∨ c = 45 ∨ c = 42 ∨ c = 47 ∨ c = 37 := by
  unfold signP at h
  split at h
  · split at h
    · rename_i d _ hb
      injection h with h
      subst h
      cases t
      · simp [signB] at hb; rcases hb with h | h <;> simp [h]
      · simp [signB] at hb; rcases hb with h | h | h <;> simp [h]
    · cases h
  · cases h

def stepP (rk : Bool) (s : ByteArray) (t : Bool) (part : Nat → Res) (n : Nat) (v : Int) (x : Option UInt8 × Nat) : Res :=
  match x.1 with
  | none => .ok (v, x.2)
  | some c => match part x.2 with
    | .error e => .error e
    | .ok (r, q) => match joinP rk c v r with
      | .error e => .error e
      | .ok z => loopP rk s t part n z q

theorem loopP_step (rk : Bool) (s : ByteArray) (t : Bool) (part : Nat → Res) (n : Nat) (v : Int) (q : Nat) : loopP rk s t part (n + 1) v q = stepP rk s t part n v (signP s t q) := rfl

theorem MAt.drew {w : World} {R : Nat} {s : ByteArray} {p o : Nat} {ov : Value} {rk : Bool} (h : MAt w R s p o ov rk) : MAt w.drew R s p o ov rk := ⟨h.old, h.text, h.place, h.opened, h.vars, h.reck, h.free1, h.free2⟩

theorem Keeps.drew {R : Nat} {w : World} : Keeps R w w.drew := Keeps.drewN 1

set_option maxRecDepth 100000 in
set_option maxHeartbeats 3200000 in
theorem row_any (K R : Nat) (s : ByteArray) (o : Nat) (ov : Value) (V : Vs) (rk t : Bool) (part : Nat → Res) (w : World) (p : Nat) (hs : s.size ≤ maxLen) (hp : p ≤ s.size) (hent : ∀ (args : Array Value) (W : World), (callFunc K args).run Try.prog W = .ok (.enter K args) W)
    (hK : PartOk K R s o ov V rk part) (hG : Good s part) (hm : MAt w R s p o ov rk) (hv : VarsAt w R ov V) :
    Calls Try.prog 29 #[.pointer (some ⟨R, 0, none⟩), .bool t, .func (.func K) #[.pointer (some ⟨R, 0, none⟩)] #[]] w fun e w' => e = endR (rowP rk s t part p) ∧ (∀ v q, rowP rk s t part p = .ok (v, q) → MAt w' R s q o ov rk) ∧ Keeps R w w' := by
  have HM := hid hm
  have HV := hid hv
  have HP := hid hK
  have HG := hid hG
  have CT := hid (fun W q hq h => takeSign_any R s q o ov rk t W hs hq h)
  obtain ⟨T, hT⟩ : ∃ T, T = rowP rk s t part p := ⟨_, rfl⟩
  rw [← hT]
  unfold rowP at hT
  have HT := hid hT
  have C0 := hid (hK w p hp hm hv)
  have hgd := hG p hp
  clear hK hG hm hv hT
  cases hx : part p with
  | error c =>
    rw [hx] at C0
    have HTE : Hid (T = .error c) := by show _ = _; rw [HT.out, hx]
    clear hx hgd
    go_enter Try.func29, Try.ntmps29
    go_wp2_with fail
    refine C0.out.mono ?_
    rintro e w1 ⟨rfl, _, hk⟩
    refine ⟨rfl, ?_, fun v q e => ?_, hk⟩
    · rw [HTE.out]; rfl
    · rw [HTE.out] at e; cases e
  | ok x =>
    obtain ⟨v0, q0⟩ := x
    have hb0 := hgd.1 v0 q0 hx
    have C1 : Hid (Calls Try.prog K #[.pointer (some ⟨R, 0, none⟩)] w fun e w' => e = .returned (.int .i64 v0) ∧ MAt w' R s q0 o ov rk ∧ Keeps R w w') := C0.out.mono fun e w' h => ⟨by rw [h.1, hx]; rfl, h.2.1 v0 q0 hx, h.2.2⟩
    have HTL : Hid (T = loopP rk s t part (s.size + 1) v0 q0) := by show _ = _; rw [HT.out, hx]
    clear hx hgd C0 HT
    go_enter Try.func29, Try.ntmps29
    go_wp2_with fail
    refine C1.out.mono ?_
    rintro e w1 ⟨rfl, hm1, hk1⟩
    have HM1 := hid hm1
    have HK1 := hid hk1
    clear hm1 hk1 C1
    go_wp2
    go_loopg [7] (s.size - q0) (fun gh x wr => ∃ (q n : Nat) (v : Int), q ≤ s.size ∧ s.size - q ≤ gh ∧ s.size - q < n ∧ -999999 ≤ v ∧ v ≤ 999999 ∧ x = .int .i64 v ∧ T = loopP rk s t part n v q ∧ Read R s q o ov rk w wr)
    case atStart => exact ⟨q0, s.size + 1, v0, hb0.2.1, Nat.le_refl _, by omega, hb0.2.2.1, hb0.2.2.2, rfl, HTL.out, HM1.out, HK1.out⟩
    case round =>
      obtain ⟨q, n, v, hq, hg, hn, hv0, hv1, rfl, hTq, hrd⟩ := hrel
      have HR := hid hrd
      have HTQ := hid hTq
      have hsl := signP_le s t q hq
      have C1 := hid (CT.out wr q hq hrd.1)
      have HCM := hid (signP_mem s t q)
      clear hrd hTq
      obtain ⟨n, rfl⟩ : ∃ n', n = n' + 1 := ⟨n - 1, by omega⟩
      obtain ⟨⟨oc, q1⟩, hoc⟩ : ∃ x, x = signP s t q := ⟨_, rfl⟩
      have HLP : Hid (loopP rk s t part (n + 1) v q = stepP rk s t part n v (oc, q1)) := by show _ = _; rw [loopP_step, hoc]
      rw [← hoc] at C1 hsl HCM
      dsimp only at C1 hsl HCM
      clear hoc
      cases oc with
      | none =>
        have C2 : Hid (Calls Try.prog 32 #[.pointer (some ⟨R, 0, none⟩), .bool t] wr fun e w' => e = .returned (.tuple #[.agg #[.int .u8 0, .bool false, .nilFunc], .bool false]) ∧ Read R s q1 o ov rk wr w') := C1.out.mono fun e w' h => ⟨h.2.1 rfl, h.2.2⟩
        have HTE : Hid (T = .ok (v, q1)) := by show _ = _; rw [HTQ.out, HLP.out]; rfl
        clear C1 HLP HTQ HCM
        go_wp2_with fail
        refine C2.out.mono ?_
        rintro e w2 ⟨rfl, hrd2⟩
        have HR2 := hid hrd2
        clear hrd2
        go_wp2
        go_ret
        refine ⟨?_, fun v' q' e => ?_, ?_⟩
        · rw [HTE.out]; rfl
        · rw [HTE.out] at e; injection e with e; injection e with e1 e2; rw [← e2]; exact HR2.out.1.below ((Below.refl _ _).alloc (Nat.le_refl _) _)
        · exact (HR.out.2.trans HR2.out.2).trans (Keeps.of_below ((Below.refl _ _).alloc (Nat.le_refl _) _) HR2.out.1.old)
      | some c =>
        have hc5 := HCM.out c rfl
        have hqlt := hsl.2.2 (fun e => by cases e)
        have C2 : Hid (Calls Try.prog 32 #[.pointer (some ⟨R, 0, none⟩), .bool t] wr fun e w' => e = .returned (.tuple #[.agg #[.int .u8 (c.toNat : Int), .bool t, .func (.func (signFn c)) #[] #[]], .bool true]) ∧ Read R s q1 o ov rk wr w') := C1.out.mono fun e w' h => ⟨h.1 c rfl, h.2.2⟩
        have CJ : Hid (∀ W r q2, -999999 ≤ r ∧ r ≤ 999999 → MAt W R s q2 o ov rk → Calls Try.prog 33 #[.pointer (some ⟨R, 0, none⟩), .agg #[.int .u8 (c.toNat : Int), .bool t, .func (.func (signFn c)) #[] #[]], .int .i64 v, .int .i64 r] W fun e w' => e = endE (joinP rk c v r) ∧ Below W.heap.size W w') := fun W r q2 hr h => join_any R s q2 o ov rk t c v r W h ⟨hv0, hv1⟩ hr hc5
        obtain ⟨F, hF⟩ : ∃ F, F = signFn c := ⟨_, rfl⟩
        obtain ⟨ci, hci⟩ : ∃ ci, ci = (c.toNat : Int) := ⟨_, rfl⟩
        rw [← hF, ← hci] at C2 CJ
        clear C1 HCM hF hc5 hci
        have hgd := HG.out q1 hsl.2.1
        go_wp2_with fail
        refine C2.out.mono ?_
        rintro e w2 ⟨rfl, hrd2⟩
        have HKW : Hid (Keeps R w w2) := HR.out.2.trans hrd2.2
        have HM2 := hid hrd2.1
        have hR2 := hrd2.1.old
        clear hrd2 C2
        have hSA : SignAt (w2.alloc (.cells #[.int .u8 ci, .bool t, .func (.func F) #[] #[]] 71)) w2.heap.size (.int .u8 ci) (.bool t) (.func (.func F) #[] #[]) := SignAt.new _ _ _ _ _
        have hKA : Keeps R w2 (w2.alloc (.cells #[.int .u8 ci, .bool t, .func (.func F) #[] #[]] 71)) := Keeps.of_below ((Below.refl _ _).alloc (Nat.le_refl _) _) hR2
        have hMA : MAt (w2.alloc (.cells #[.int .u8 ci, .bool t, .func (.func F) #[] #[]] 71)) R s q1 o ov rk := HM2.out.below ((Below.refl _ _).alloc (Nat.le_refl _) _)
        obtain ⟨W, hW⟩ : ∃ W, W = w2.alloc (.cells #[.int .u8 ci, .bool t, .func (.func F) #[] #[]] 71) := ⟨_, rfl⟩
        go_wp2_with fail
        rw [← hW] at hSA hKA hMA ⊢
        obtain ⟨B, hB⟩ : ∃ B, B = w2.heap.size := ⟨_, rfl⟩
        have hBR : B ≠ R := by omega
        rw [← hB] at hSA ⊢
        clear hW hB
        have HSA := hid hSA
        have HKA : Hid (Keeps R w W.drew) := (HKW.out.trans hKA).trans Keeps.drew
        have HMA : Hid (MAt W.drew R s q1 o ov rk) := hMA.drew
        have HVA : Hid (VarsAt W.drew R ov V) := HV.out.keep HKA.out
        have CP := hid (HP.out W.drew q1 hsl.2.1 HMA.out HVA.out)
        have s0 := hSA.c0
        have s1 := hSA.c1
        have s2 := hSA.c2
        clear hSA hKA hMA HKW HM2
        cases hx : part q1 with
        | error c1 =>
          rw [hx] at CP
          have HTE : Hid (T = .error c1) := by show _ = _; rw [HTQ.out, HLP.out]; unfold stepP; dsimp only; rw [hx]
          clear hx hgd HLP HTQ
          refine wp_region_held_drew (S := fun w' => w'.cell? ⟨B, 0, none⟩ = some (.int .u8 ci) ∧ w'.cell? ⟨B, 1, none⟩ = some (.bool t) ∧ w'.cell? ⟨B, 2, none⟩ = some (.func (.func F) #[] #[])) (by kernel_rfl) ?_ (fun hS => ?_)
          · exact ⟨s0, s1, s2⟩
          refine takeH_on 0 (v := ?_) rfl rfl (by kernel_rfl) (by kernel_rfl) (by kernel_rfl) (fun _ _ _ h => h) (by rfl) hS (fun w hSw => ?_) ?_
          rotate_left
          · ((try dsimp only at hSw); go_simp; try with_reducible rfl)
          simp only [List.setIfInBounds_toArray, List.set_cons_zero, List.set_cons_succ]
          refine takeH_on 1 (v := .agg #[.int .u8 ci, .bool t, .func (.func F) #[] #[]]) rfl rfl (by kernel_rfl) (by kernel_rfl) (by kernel_rfl) (fun _ _ _ h => h) (by rfl) hS (fun w hSw => ?_) ?_
          · ((try dsimp only at hSw); go_simp; try with_reducible rfl)
          simp only [List.setIfInBounds_toArray, List.set_cons_zero, List.set_cons_succ]
          refine takeH_on 2 (v := ?_) rfl rfl (by kernel_rfl) (by kernel_rfl) (by kernel_rfl) (fun _ _ _ h => h) (by rfl) hS (fun w hSw => ?_) ?_
          rotate_left
          · ((try dsimp only at hSw); go_simp; try with_reducible rfl)
          simp only [List.setIfInBounds_toArray, List.set_cons_zero, List.set_cons_succ]
          refine takeH_on 3 (v := ?_) rfl rfl (by kernel_rfl) (by kernel_rfl) (by kernel_rfl) (fun _ _ _ h => h) (by rfl) hS (fun w hSw => ?_) ?_
          rotate_left
          · ((try dsimp only at hSw); go_simp; try with_reducible rfl)
          simp only [List.setIfInBounds_toArray, List.set_cons_zero, List.set_cons_succ]
          refine wpAnyH_ready (rs := [4]) (by kernel_rfl) (by simp) (AllReadyH.cons rfl (fun K hK => ?_) AllReadyH.nil)
          clear hS
          go_simp
          go_wp2_with fail
          refine CP.out.mono ?_
          rintro e w3 ⟨rfl, _, hk3⟩
          refine ⟨rfl, ?_, fun v q e => ?_, HKA.out.trans hk3⟩
          · rw [HTE.out]; rfl
          · rw [HTE.out] at e; cases e
        | ok y =>
          obtain ⟨r, q2⟩ := y
          have hr := hgd.1 r q2 hx
          have CQ : Hid (Calls Try.prog K #[.pointer (some ⟨R, 0, none⟩)] W.drew fun e w' => e = .returned (.int .i64 r) ∧ MAt w' R s q2 o ov rk ∧ Keeps R W.drew w') := CP.out.mono fun e w' h => ⟨by rw [h.1, hx]; rfl, h.2.1 r q2 hx, h.2.2⟩
          have HLQ : Hid (T = match joinP rk c v r with
            | .error e => .error e
            | .ok z => loopP rk s t part n z q2) := by show _ = _; rw [HTQ.out, HLP.out]; unfold stepP; dsimp only; rw [hx]
          clear hx hgd HLP HTQ CP
          have hzb := joinP_bd rk c v r
          cases hj : joinP rk c v r with
          | error c2 =>
            rw [hj] at HLQ
            have CZ : Hid (∀ W q2, MAt W R s q2 o ov rk → Calls Try.prog 33 #[.pointer (some ⟨R, 0, none⟩), .agg #[.int .u8 ci, .bool t, .func (.func F) #[] #[]], .int .i64 v, .int .i64 r] W fun e w' => e = .panicked [{ v := faultV c2, recovered := false }] ∧ Below W.heap.size W w') := fun W q2 h => by
              have := CJ.out W r q2 ⟨hr.2.2.1, hr.2.2.2⟩ h; rw [hj] at this; exact this
            have HTE : Hid (T = .error c2) := HLQ
            clear CJ hj hzb HLQ
            refine wp_region_held_drew (S := fun w' => w'.cell? ⟨B, 0, none⟩ = some (.int .u8 ci) ∧ w'.cell? ⟨B, 1, none⟩ = some (.bool t) ∧ w'.cell? ⟨B, 2, none⟩ = some (.func (.func F) #[] #[])) (by kernel_rfl) ?_ (fun hS => ?_)
            · exact ⟨s0, s1, s2⟩
            refine takeH_on 0 (v := ?_) rfl rfl (by kernel_rfl) (by kernel_rfl) (by kernel_rfl) (fun _ _ _ h => h) (by rfl) hS (fun w hSw => ?_) ?_
            rotate_left
            · ((try dsimp only at hSw); go_simp; try with_reducible rfl)
            simp only [List.setIfInBounds_toArray, List.set_cons_zero, List.set_cons_succ]
            refine takeH_on 1 (v := .agg #[.int .u8 ci, .bool t, .func (.func F) #[] #[]]) rfl rfl (by kernel_rfl) (by kernel_rfl) (by kernel_rfl) (fun _ _ _ h => h) (by rfl) hS (fun w hSw => ?_) ?_
            · ((try dsimp only at hSw); go_simp; try with_reducible rfl)
            simp only [List.setIfInBounds_toArray, List.set_cons_zero, List.set_cons_succ]
            refine takeH_on 2 (v := ?_) rfl rfl (by kernel_rfl) (by kernel_rfl) (by kernel_rfl) (fun _ _ _ h => h) (by rfl) hS (fun w hSw => ?_) ?_
            rotate_left
            · ((try dsimp only at hSw); go_simp; try with_reducible rfl)
            simp only [List.setIfInBounds_toArray, List.set_cons_zero, List.set_cons_succ]
            refine takeH_on 3 (v := ?_) rfl rfl (by kernel_rfl) (by kernel_rfl) (by kernel_rfl) (fun _ _ _ h => h) (by rfl) hS (fun w hSw => ?_) ?_
            rotate_left
            · ((try dsimp only at hSw); go_simp; try with_reducible rfl)
            simp only [List.setIfInBounds_toArray, List.set_cons_zero, List.set_cons_succ]
            refine wpAnyH_ready (rs := [4]) (by kernel_rfl) (by simp) (AllReadyH.cons rfl (fun K hK => ?_) AllReadyH.nil)
            clear hS
            go_simp
            go_wp2_with fail
            refine CQ.out.mono ?_
            rintro e w3 ⟨rfl, hm3, hk3⟩
            have HM3 := hid hm3
            have HK3 : Hid (Keeps R w w3) := HKA.out.trans hk3
            have HSB := hid ((show SignAt W.drew B (.int .u8 ci) (.bool t) (.func (.func F) #[] #[]) from ⟨HSA.out.old, s0, s1, s2, HSA.out.f0, HSA.out.f1, HSA.out.f2⟩).keep hk3 hBR)
            clear hm3 hk3
            refine Shut.out hK _ _ ⟨HSB.out.c0, HSB.out.c1, HSB.out.c2⟩ (fun hS => ?_)
            clear hK K
            refine wpAnyH_ready (rs := [5]) (by kernel_rfl) (by simp) (AllReadyH.cons rfl (fun K hK => ?_) AllReadyH.nil)
            clear hS
            go_simp
            go_wp2_with fail
            refine (CZ.out _ q2 HM3.out).mono ?_
            rintro e w4 ⟨rfl, hb4⟩
            refine ⟨rfl, ?_, fun v q e => ?_, HK3.out.trans (Keeps.of_below hb4 HM3.out.old)⟩
            · rw [HTE.out]; rfl
            · rw [HTE.out] at e; cases e
          | ok z =>
            rw [hj] at HLQ
            have hz2 := hzb.1 z hj
            have CZ : Hid (∀ W q2, MAt W R s q2 o ov rk → Calls Try.prog 33 #[.pointer (some ⟨R, 0, none⟩), .agg #[.int .u8 ci, .bool t, .func (.func F) #[] #[]], .int .i64 v, .int .i64 r] W fun e w' => e = .returned (.int .i64 z) ∧ Below W.heap.size W w') := fun W q2 h => by
              have := CJ.out W r q2 ⟨hr.2.2.1, hr.2.2.2⟩ h; rw [hj] at this; exact this
            have HTE : Hid (T = loopP rk s t part n z q2) := HLQ
            clear CJ hj hzb HLQ
            refine wp_region_held_drew (S := fun w' => w'.cell? ⟨B, 0, none⟩ = some (.int .u8 ci) ∧ w'.cell? ⟨B, 1, none⟩ = some (.bool t) ∧ w'.cell? ⟨B, 2, none⟩ = some (.func (.func F) #[] #[])) (by kernel_rfl) ?_ (fun hS => ?_)
            · exact ⟨s0, s1, s2⟩
            refine takeH_on 0 (v := ?_) rfl rfl (by kernel_rfl) (by kernel_rfl) (by kernel_rfl) (fun _ _ _ h => h) (by rfl) hS (fun w hSw => ?_) ?_
            rotate_left
            · ((try dsimp only at hSw); go_simp; try with_reducible rfl)
            simp only [List.setIfInBounds_toArray, List.set_cons_zero, List.set_cons_succ]
            refine takeH_on 1 (v := .agg #[.int .u8 ci, .bool t, .func (.func F) #[] #[]]) rfl rfl (by kernel_rfl) (by kernel_rfl) (by kernel_rfl) (fun _ _ _ h => h) (by rfl) hS (fun w hSw => ?_) ?_
            · ((try dsimp only at hSw); go_simp; try with_reducible rfl)
            simp only [List.setIfInBounds_toArray, List.set_cons_zero, List.set_cons_succ]
            refine takeH_on 2 (v := ?_) rfl rfl (by kernel_rfl) (by kernel_rfl) (by kernel_rfl) (fun _ _ _ h => h) (by rfl) hS (fun w hSw => ?_) ?_
            rotate_left
            · ((try dsimp only at hSw); go_simp; try with_reducible rfl)
            simp only [List.setIfInBounds_toArray, List.set_cons_zero, List.set_cons_succ]
            refine takeH_on 3 (v := ?_) rfl rfl (by kernel_rfl) (by kernel_rfl) (by kernel_rfl) (fun _ _ _ h => h) (by rfl) hS (fun w hSw => ?_) ?_
            rotate_left
            · ((try dsimp only at hSw); go_simp; try with_reducible rfl)
            simp only [List.setIfInBounds_toArray, List.set_cons_zero, List.set_cons_succ]
            refine wpAnyH_ready (rs := [4]) (by kernel_rfl) (by simp) (AllReadyH.cons rfl (fun K hK => ?_) AllReadyH.nil)
            clear hS
            go_simp
            go_wp2_with fail
            refine CQ.out.mono ?_
            rintro e w3 ⟨rfl, hm3, hk3⟩
            have HM3 := hid hm3
            have HK3 : Hid (Keeps R w w3) := HKA.out.trans hk3
            have HSB := hid ((show SignAt W.drew B (.int .u8 ci) (.bool t) (.func (.func F) #[] #[]) from ⟨HSA.out.old, s0, s1, s2, HSA.out.f0, HSA.out.f1, HSA.out.f2⟩).keep hk3 hBR)
            clear hm3 hk3
            refine Shut.out hK _ _ ⟨HSB.out.c0, HSB.out.c1, HSB.out.c2⟩ (fun hS => ?_)
            clear hK K
            refine wpAnyH_ready (rs := [5]) (by kernel_rfl) (by simp) (AllReadyH.cons rfl (fun K hK => ?_) AllReadyH.nil)
            clear hS
            go_simp
            go_wp2_with fail
            refine (CZ.out _ q2 HM3.out).mono ?_
            rintro e w4 ⟨rfl, hb4⟩
            have HM4 := hid (HM3.out.below hb4)
            have HK4 : Hid (Keeps R w w4) := HK3.out.trans (Keeps.of_below hb4 HM3.out.old)
            have HSC := hid (HSB.out.keep (Keeps.of_below hb4 HM3.out.old) hBR)
            clear hb4
            refine Shut.out hK _ _ ⟨HSC.out.c0, HSC.out.c1, HSC.out.c2⟩ (fun hS => ?_)
            clear hK K
            refine takeH_on 6 (v := ?_) rfl rfl (by kernel_rfl) (by kernel_rfl) (by kernel_rfl) (fun _ _ _ h => h) (by rfl) hS (fun w hSw => ?_) ?_
            rotate_left
            · ((try dsimp only at hSw); go_simp; try with_reducible rfl)
            simp only [List.setIfInBounds_toArray, List.set_cons_zero, List.set_cons_succ]
            refine wpAnyH_done (by kernel_rfl) ?_ _
            go_wp2
            go_roundg (s.size - q2)
            case measure => omega
            case rel => exact ⟨q2, n, z, by omega, Nat.le_refl _, by omega, hz2.1, hz2.2, rfl, HTE.out, HM4.out, HK4.out⟩

end Go.Proofs.Ytaabcbpbijkmnab
