/- DERIVED. The walk of takeSign. -/
import Derived.Test.YtaabcbpbijkmnabMathJoin
namespace Go.Proofs.Ytaabcbpbijkmnab
open Go.RowKit

/-- The signs, in their order. -/
def chr (k : Nat) : UInt8 := if k = 0 then 43 else if k = 1 then 45 else if k = 2 then 42 else if k = 3 then 47 else 37

def tgt (k : Nat) : Bool := decide (2 ≤ k)

theorem take_at (s : ByteArray) (c : UInt8) (p q : Nat) (h : skipP s q = skipP s p) : takeP s c q = if atP s (skipP s p) = some c then (true, skipP s p + 1) else (false, skipP s p) := by
  unfold takeP; rw [h]

theorem sign_yes (s : ByteArray) (t : Bool) (p k : Nat) (hk : k < 5) (ht : tgt k = t) (h : atP s (skipP s p) = some (chr k)) : signP s t p = (some (chr k), skipP s p + 1) := by
  unfold signP
  rw [h]
  dsimp only
  rw [if_pos]
  subst ht
  obtain rfl | rfl | rfl | rfl | rfl : k = 0 ∨ k = 1 ∨ k = 2 ∨ k = 3 ∨ k = 4 := by omega
  all_goals rfl

theorem sign_no (s : ByteArray) (t : Bool) (p : Nat) (h : ∀ j, j < 5 → tgt j = t → atP s (skipP s p) ≠ some (chr j)) : signP s t p = (none, skipP s p) := by
  unfold signP
  cases hc : atP s (skipP s p) with
  | none => rfl
  | some c =>
    dsimp only
    rw [if_neg]
    rw [hc] at h
    intro hb
    cases t
    · have h0 := h 0 (by omega) rfl
      have h1 := h 1 (by omega) rfl
      simp [signB] at hb
      rcases hb with rfl | rfl
      · exact h0 rfl
      · exact h1 rfl
    · have h2 := h 2 (by omega) rfl
      have h3 := h 3 (by omega) rfl
      have h4 := h 4 (by omega) rfl
      simp [signB] at hb
      rcases hb with rfl | rfl | rfl
      · exact h2 rfl
      · exact h3 rfl
      · exact h4 rfl

/-- A sign lies in a block. -/
structure SignAt (w : World) (B : Nat) (x y z : Value) : Prop where
  old : B < w.heap.size
  c0 : w.cell? ⟨B, 0, none⟩ = some x
  c1 : w.cell? ⟨B, 1, none⟩ = some y
  c2 : w.cell? ⟨B, 2, none⟩ = some z
  f0 : w.frozen? ⟨B, 0, none⟩ = false
  f1 : w.frozen? ⟨B, 1, none⟩ = false
  f2 : w.frozen? ⟨B, 2, none⟩ = false

theorem SignAt.keep {w w' : World} {R B : Nat} {x y z : Value} (h : SignAt w B x y z) (k : Keeps R w w') (hB : B ≠ R) : SignAt w' B x y z :=
  ⟨Nat.lt_of_lt_of_le h.old k.size, by rw [k.cell B 0 h.old hB]; exact h.c0, by rw [k.cell B 1 h.old hB]; exact h.c1, by rw [k.cell B 2 h.old hB]; exact h.c2, by rw [k.frozen B 0 h.old]; exact h.f0, by rw [k.frozen B 1 h.old]; exact h.f1, by rw [k.frozen B 2 h.old]; exact h.f2⟩

theorem SignAt.new (w : World) (x y z : Value) (t : Nat) : SignAt (w.alloc (.cells #[x, y, z] t)) w.heap.size x y z := ⟨by simp, by simp, by simp, by simp, by simp, by simp, by simp⟩

theorem Keeps.put {R : Nat} {w w' : World} (h : Keeps R w w') (hR : R < w.heap.size) {b : Nat} (hb : w.heap.size ≤ b) (o : Nat) (v : Value) : Keeps R w (w'.setCell ⟨b, o, none⟩ v) where
  size := by simpa using h.size
  below := fun B w0 hB hw => (h.below B w0 hB hw).setCell (by show B ≤ b; omega) v
  cell := fun x o' hx hn => by rw [World.cell?_setCell_other (h := fun e => absurd (show b = x by injection e) (by omega))]; exact h.cell x o' hx hn
  frozen := fun x o' hx => by simpa using h.frozen x o' hx
  block := fun x hx hn => (Below.heap_setCell _ _ _ _ (show x ≠ b by omega)).trans (h.block x hx hn)

theorem MAt.put {w : World} {R : Nat} {s : ByteArray} {p o : Nat} {ov : Value} {rk : Bool} (h : MAt w R s p o ov rk) {b : Nat} (hb : b ≠ R) (i : Nat) (v : Value) : MAt (w.setCell ⟨b, i, none⟩ v) R s p o ov rk where
  old := by simpa using h.old
  text := by rw [World.cell?_setCell_other (h := fun e => hb (by injection e))]; exact h.text
  place := by rw [World.cell?_setCell_other (h := fun e => hb (by injection e))]; exact h.place
  opened := by rw [World.cell?_setCell_other (h := fun e => hb (by injection e))]; exact h.opened
  vars := by rw [World.cell?_setCell_other (h := fun e => hb (by injection e))]; exact h.vars
  reck := by rw [World.cell?_setCell_other (h := fun e => hb (by injection e))]; exact h.reck
  free1 := by simpa using h.free1
  free2 := by simpa using h.free2

theorem SignAt.put {w : World} {B : Nat} {x y z : Value} (h : SignAt w B x y z) (a b c : Value) : SignAt (((w.setCell ⟨B, 0, none⟩ a).setCell ⟨B, 1, none⟩ b).setCell ⟨B, 2, none⟩ c) B a b c where
  old := by simpa using h.old
  c0 := by
    rw [World.cell?_setCell_other (h := fun e => by injection e with _ e2; cases e2), World.cell?_setCell_other (h := fun e => by injection e with _ e2; cases e2), World.cell?_setCell_same (h := h.c0)]
  c1 := by
    have h1 : (w.setCell ⟨B, 0, none⟩ a).cell? ⟨B, 1, none⟩ = some y := by rw [World.cell?_setCell_other (h := fun e => by injection e with _ e2; cases e2)]; exact h.c1
    rw [World.cell?_setCell_other (h := fun e => by injection e with _ e2; cases e2), World.cell?_setCell_same (h := h1)]
  c2 := by
    have h1 : ((w.setCell ⟨B, 0, none⟩ a).setCell ⟨B, 1, none⟩ b).cell? ⟨B, 2, none⟩ = some z := by rw [World.cell?_setCell_other (h := fun e => by injection e with _ e2; cases e2), World.cell?_setCell_other (h := fun e => by injection e with _ e2; cases e2)]; exact h.c2
    rw [World.cell?_setCell_same (h := h1)]
  f0 := by simpa using h.f0
  f1 := by simpa using h.f1
  f2 := by simpa using h.f2

set_option maxRecDepth 100000 in
set_option maxHeartbeats 8000000 in
theorem takeSign_any (R : Nat) (s : ByteArray) (p o : Nat) (ov : Value) (rk t : Bool) (w : World) (hs : s.size ≤ maxLen) (hp : p ≤ s.size) (h : MAt w R s p o ov rk) :
    Calls Try.prog 32 #[.pointer (some ⟨R, 0, none⟩), .bool t] w fun e w' =>
      (∀ c, (signP s t p).1 = some c → e = .returned (.tuple #[signV t c (signFn c), .bool true])) ∧ ((signP s t p).1 = none → e = .returned (.tuple #[.agg #[.int .u8 0, .bool false, .nilFunc], .bool false])) ∧ Read R s (signP s t p).2 o ov rk w w' := by
  have H := hid h
  have hR := h.old
  have hsk := skipP_le s p hp
  have HID := hid (skipP_idem s p (s.size - p) (Nat.le_refl _))
  clear h
  go_enter Try.func32, Try.ntmps32
  go_wp2_with fail
  obtain ⟨w0, hw0⟩ : ∃ w0, w0 = w.alloc (.cells #[.int .u8 0, .bool false, .nilFunc] 71) := ⟨_, rfl⟩
  have hSA : SignAt w0 w.heap.size (.int .u8 0) (.bool false) .nilFunc := by rw [hw0]; exact SignAt.new _ _ _ _ _
  have hb0 : Below w.heap.size w w0 := by rw [hw0]; exact (Below.refl _ _).alloc (Nat.le_refl _) _
  have HM0 := hid (H.out.below hb0)
  have HK0 : Hid (Keeps R w w0) := Keeps.of_below hb0 hR
  have HSA := hid hSA
  rw [← hw0]
  clear hw0 hSA hb0
  refine (mathSigns_any w0).mono ?_
  rintro e w1 ⟨rfl, hb1⟩
  have HM1 := hid (HM0.out.below hb1)
  have HK1 : Hid (Keeps R w w1) := HK0.out.trans (Keeps.of_below hb1 HM0.out.old)
  have HS1 : Hid (SignAt w1 w.heap.size (.int .u8 0) (.bool false) .nilFunc) := HSA.out.keep (Keeps.of_below hb1 HM0.out.old) (by omega)
  clear hb1 HSA
  go_wp2
  go_loopg [9] 5 (fun gh i wr => ∃ k q : Nat, k ≤ 5 ∧ 5 - k ≤ gh ∧ i = .int .i64 (k : Int) ∧ (q = skipP s p ∨ (q = p ∧ k ≤ if t = true then 2 else 0)) ∧ (∀ j, j < k → tgt j = t → atP s (skipP s p) ≠ some (chr j)) ∧ MAt wr R s q o ov rk ∧ Keeps R w wr ∧ SignAt wr w.heap.size (.int .u8 0) (.bool false) .nilFunc)
  case atStart => exact ⟨0, p, by omega, by omega, rfl, Or.inr ⟨rfl, Nat.zero_le _⟩, fun j hj => absurd hj (Nat.not_lt_zero _), HM1.out, HK1.out, HS1.out⟩
  case round =>
    obtain ⟨k, q, hk, hg, rfl, hq, hno, hm, hkp, hsa⟩ := hrel
    have HNO := hid hno
    have HM := hid hm
    have HK := hid hkp
    have HSA := hid hsa
    have HQ : Hid (q ≤ s.size ∧ skipP s q = skipP s p) := by
      rcases hq with h | ⟨h, _⟩
      · rw [h]; exact ⟨hsk.2, HID.out⟩
      · rw [h]; exact ⟨hp, rfl⟩
    have HQ2 := hid hq
    clear hno hm hkp hsa hq
    obtain rfl | rfl | rfl | rfl | rfl | rfl : k = 0 ∨ k = 1 ∨ k = 2 ∨ k = 3 ∨ k = 4 ∨ k = 5 := by omega
    · have hidx : ∀ W, (Instr.index 75 (.agg #[.int .u8 43, .bool false, .func (.func 44) #[] #[], .int .u8 45, .bool false, .func (.func 45) #[] #[], .int .u8 42, .bool true, .func (.func 46) #[] #[], .int .u8 47, .bool true, .func (.func 47) #[] #[], .int .u8 37, .bool true, .func (.func 49) #[] #[]]) (.int .i64 0)).run Try.prog W = .ok (.agg #[.int .u8 43, .bool false, .func (.func 44) #[] #[]]) W := fun W => by kernel_rfl
      have HBA : Hid (Below wr.heap.size wr (wr.alloc (.cells #[.int .u8 43, .bool false, .func (.func 44) #[] #[]] 71))) := (Below.refl _ _).alloc (Nat.le_refl _) _
      have HMA := hid (HM.out.below HBA.out)
      have HKA : Hid (Keeps R wr (wr.alloc (.cells #[.int .u8 43, .bool false, .func (.func 44) #[] #[]] 71))) := Keeps.of_below HBA.out HM.out.old
      have HNA : Hid (SignAt (wr.alloc (.cells #[.int .u8 43, .bool false, .func (.func 44) #[] #[]] 71)) wr.heap.size (.int .u8 43) (.bool false) (.func (.func 44) #[] #[])) := SignAt.new _ _ _ _ _
      have hne : wr.heap.size ≠ R := by have := HM.out.old; omega
      cases t
      · by_cases hc : atP s (skipP s p) = some 43
        · have CT : Hid (∀ W, MAt W R s q o ov rk → Calls Try.prog 37 #[.pointer (some ⟨R, 0, none⟩), .int .u8 43] W fun e w' => e = .returned (.bool true) ∧ Read R s (skipP s p + 1) o ov rk W w') := fun W h => by
            have := take_any R s q o ov rk 43 W hs HQ.out.1 h
            rw [take_at s 43 p q HQ.out.2, if_pos hc] at this
            exact this
          have HS : Hid (signP s false p = (some 43, skipP s p + 1)) := sign_yes s false p 0 (by omega) rfl hc
          clear hc
          go_wp2_with fail
          refine (CT.out _ HMA.out).mono ?_
          rintro e w2 ⟨rfl, hrd⟩
          have HRD := hid hrd
          have HNB := hid (HNA.out.keep hrd.2 hne)
          have HSB := hid ((HSA.out.keep HKA.out (by omega)).keep hrd.2 (by omega))
          clear hrd
          have a0 := HNB.out.c0
          have a1 := HNB.out.c1
          have a2 := HNB.out.c2
          have b0 := HSB.out.c0
          have b1 := HSB.out.c1
          have b2 := HSB.out.c2
          have d0 := HSB.out.f0
          have d1 := HSB.out.f1
          have d2 := HSB.out.f2
          go_wp2
          have HP := hid (HSB.out.put (.int .u8 43) (.bool false) (.func (.func 44) #[] #[]))
          have e0 := HP.out.c0
          have e1 := HP.out.c1
          have e2 := HP.out.c2
          refine bodyPost_ret (v := .tuple #[.agg #[.int .u8 43, .bool false, .func (.func 44) #[] #[]], .bool true]) (by simp [results, Try.results32, go_sem, e0, e1, e2]) rfl ?_
          rw [HS.out]
          refine ⟨fun c hc => ?_, fun hc => (by cases hc), ?_, ?_⟩
          · injection hc with hc; subst hc; rfl
          · exact ((HRD.out.1.put (by omega) 0 _).put (by omega) 1 _).put (by omega) 2 _
          · exact ((((HK.out.trans HKA.out).trans HRD.out.2).put hR (Nat.le_refl _) 0 _).put hR (Nat.le_refl _) 1 _).put hR (Nat.le_refl _) 2 _
        · have CT : Hid (∀ W, MAt W R s q o ov rk → Calls Try.prog 37 #[.pointer (some ⟨R, 0, none⟩), .int .u8 43] W fun e w' => e = .returned (.bool false) ∧ Read R s (skipP s p) o ov rk W w') := fun W h => by
            have := take_any R s q o ov rk 43 W hs HQ.out.1 h
            rw [take_at s 43 p q HQ.out.2, if_neg hc] at this
            exact this
          have HC := hid hc
          clear hc
          go_wp2_with fail
          refine (CT.out _ HMA.out).mono ?_
          rintro e w2 ⟨rfl, hrd⟩
          have HRD := hid hrd
          have HNB := hid (HNA.out.keep hrd.2 hne)
          have HSB := hid ((HSA.out.keep HKA.out (by omega)).keep hrd.2 (by omega))
          clear hrd
          go_wp2
          go_roundg (5 - (0 + 1))
          case measure => omega
          case rel =>
            refine ⟨1, skipP s p, by omega, by omega, rfl, Or.inl rfl, fun j hj ht => ?_, HRD.out.1, (HK.out.trans HKA.out).trans HRD.out.2, HSB.out⟩
            by_cases e : j = 0
            · subst e; exact HC.out
            · exact HNO.out j (by omega) ht
      · go_wp2
        go_roundg (5 - (0 + 1))
        case measure => omega
        case rel =>
          refine ⟨1, q, by omega, by omega, rfl, ?_, fun j hj ht => ?_, HMA.out, HK.out.trans HKA.out, HSA.out.keep HKA.out (by omega)⟩
          · rcases HQ2.out with h | ⟨h, h2⟩
            · exact Or.inl h
            · exact Or.inr ⟨h, by decide⟩
          · by_cases e : j = 0
            · subst e; cases ht
            · exact HNO.out j (by omega) ht
    · have hidx : ∀ W, (Instr.index 75 (.agg #[.int .u8 43, .bool false, .func (.func 44) #[] #[], .int .u8 45, .bool false, .func (.func 45) #[] #[], .int .u8 42, .bool true, .func (.func 46) #[] #[], .int .u8 47, .bool true, .func (.func 47) #[] #[], .int .u8 37, .bool true, .func (.func 49) #[] #[]]) (.int .i64 1)).run Try.prog W = .ok (.agg #[.int .u8 45, .bool false, .func (.func 45) #[] #[]]) W := fun W => by kernel_rfl
      have HBA : Hid (Below wr.heap.size wr (wr.alloc (.cells #[.int .u8 45, .bool false, .func (.func 45) #[] #[]] 71))) := (Below.refl _ _).alloc (Nat.le_refl _) _
      have HMA := hid (HM.out.below HBA.out)
      have HKA : Hid (Keeps R wr (wr.alloc (.cells #[.int .u8 45, .bool false, .func (.func 45) #[] #[]] 71))) := Keeps.of_below HBA.out HM.out.old
      have HNA : Hid (SignAt (wr.alloc (.cells #[.int .u8 45, .bool false, .func (.func 45) #[] #[]] 71)) wr.heap.size (.int .u8 45) (.bool false) (.func (.func 45) #[] #[])) := SignAt.new _ _ _ _ _
      have hne : wr.heap.size ≠ R := by have := HM.out.old; omega
      cases t
      · by_cases hc : atP s (skipP s p) = some 45
        · have CT : Hid (∀ W, MAt W R s q o ov rk → Calls Try.prog 37 #[.pointer (some ⟨R, 0, none⟩), .int .u8 45] W fun e w' => e = .returned (.bool true) ∧ Read R s (skipP s p + 1) o ov rk W w') := fun W h => by
            have := take_any R s q o ov rk 45 W hs HQ.out.1 h
            rw [take_at s 45 p q HQ.out.2, if_pos hc] at this
            exact this
          have HS : Hid (signP s false p = (some 45, skipP s p + 1)) := sign_yes s false p 1 (by omega) rfl hc
          clear hc
          go_wp2_with fail
          refine (CT.out _ HMA.out).mono ?_
          rintro e w2 ⟨rfl, hrd⟩
          have HRD := hid hrd
          have HNB := hid (HNA.out.keep hrd.2 hne)
          have HSB := hid ((HSA.out.keep HKA.out (by omega)).keep hrd.2 (by omega))
          clear hrd
          have a0 := HNB.out.c0
          have a1 := HNB.out.c1
          have a2 := HNB.out.c2
          have b0 := HSB.out.c0
          have b1 := HSB.out.c1
          have b2 := HSB.out.c2
          have d0 := HSB.out.f0
          have d1 := HSB.out.f1
          have d2 := HSB.out.f2
          go_wp2
          have HP := hid (HSB.out.put (.int .u8 45) (.bool false) (.func (.func 45) #[] #[]))
          have e0 := HP.out.c0
          have e1 := HP.out.c1
          have e2 := HP.out.c2
          refine bodyPost_ret (v := .tuple #[.agg #[.int .u8 45, .bool false, .func (.func 45) #[] #[]], .bool true]) (by simp [results, Try.results32, go_sem, e0, e1, e2]) rfl ?_
          rw [HS.out]
          refine ⟨fun c hc => ?_, fun hc => (by cases hc), ?_, ?_⟩
          · injection hc with hc; subst hc; rfl
          · exact ((HRD.out.1.put (by omega) 0 _).put (by omega) 1 _).put (by omega) 2 _
          · exact ((((HK.out.trans HKA.out).trans HRD.out.2).put hR (Nat.le_refl _) 0 _).put hR (Nat.le_refl _) 1 _).put hR (Nat.le_refl _) 2 _
        · have CT : Hid (∀ W, MAt W R s q o ov rk → Calls Try.prog 37 #[.pointer (some ⟨R, 0, none⟩), .int .u8 45] W fun e w' => e = .returned (.bool false) ∧ Read R s (skipP s p) o ov rk W w') := fun W h => by
            have := take_any R s q o ov rk 45 W hs HQ.out.1 h
            rw [take_at s 45 p q HQ.out.2, if_neg hc] at this
            exact this
          have HC := hid hc
          clear hc
          go_wp2_with fail
          refine (CT.out _ HMA.out).mono ?_
          rintro e w2 ⟨rfl, hrd⟩
          have HRD := hid hrd
          have HNB := hid (HNA.out.keep hrd.2 hne)
          have HSB := hid ((HSA.out.keep HKA.out (by omega)).keep hrd.2 (by omega))
          clear hrd
          go_wp2
          go_roundg (5 - (1 + 1))
          case measure => omega
          case rel =>
            refine ⟨2, skipP s p, by omega, by omega, rfl, Or.inl rfl, fun j hj ht => ?_, HRD.out.1, (HK.out.trans HKA.out).trans HRD.out.2, HSB.out⟩
            by_cases e : j = 1
            · subst e; exact HC.out
            · exact HNO.out j (by omega) ht
      · go_wp2
        go_roundg (5 - (1 + 1))
        case measure => omega
        case rel =>
          refine ⟨2, q, by omega, by omega, rfl, ?_, fun j hj ht => ?_, HMA.out, HK.out.trans HKA.out, HSA.out.keep HKA.out (by omega)⟩
          · rcases HQ2.out with h | ⟨h, h2⟩
            · exact Or.inl h
            · exact Or.inr ⟨h, by decide⟩
          · by_cases e : j = 1
            · subst e; cases ht
            · exact HNO.out j (by omega) ht
    · have hidx : ∀ W, (Instr.index 75 (.agg #[.int .u8 43, .bool false, .func (.func 44) #[] #[], .int .u8 45, .bool false, .func (.func 45) #[] #[], .int .u8 42, .bool true, .func (.func 46) #[] #[], .int .u8 47, .bool true, .func (.func 47) #[] #[], .int .u8 37, .bool true, .func (.func 49) #[] #[]]) (.int .i64 2)).run Try.prog W = .ok (.agg #[.int .u8 42, .bool true, .func (.func 46) #[] #[]]) W := fun W => by kernel_rfl
      have HBA : Hid (Below wr.heap.size wr (wr.alloc (.cells #[.int .u8 42, .bool true, .func (.func 46) #[] #[]] 71))) := (Below.refl _ _).alloc (Nat.le_refl _) _
      have HMA := hid (HM.out.below HBA.out)
      have HKA : Hid (Keeps R wr (wr.alloc (.cells #[.int .u8 42, .bool true, .func (.func 46) #[] #[]] 71))) := Keeps.of_below HBA.out HM.out.old
      have HNA : Hid (SignAt (wr.alloc (.cells #[.int .u8 42, .bool true, .func (.func 46) #[] #[]] 71)) wr.heap.size (.int .u8 42) (.bool true) (.func (.func 46) #[] #[])) := SignAt.new _ _ _ _ _
      have hne : wr.heap.size ≠ R := by have := HM.out.old; omega
      cases t
      · go_wp2
        go_roundg (5 - (2 + 1))
        case measure => omega
        case rel =>
          refine ⟨3, q, by omega, by omega, rfl, ?_, fun j hj ht => ?_, HMA.out, HK.out.trans HKA.out, HSA.out.keep HKA.out (by omega)⟩
          · rcases HQ2.out with h | ⟨h, h2⟩
            · exact Or.inl h
            · simp at h2
          · by_cases e : j = 2
            · subst e; cases ht
            · exact HNO.out j (by omega) ht
      · by_cases hc : atP s (skipP s p) = some 42
        · have CT : Hid (∀ W, MAt W R s q o ov rk → Calls Try.prog 37 #[.pointer (some ⟨R, 0, none⟩), .int .u8 42] W fun e w' => e = .returned (.bool true) ∧ Read R s (skipP s p + 1) o ov rk W w') := fun W h => by
            have := take_any R s q o ov rk 42 W hs HQ.out.1 h
            rw [take_at s 42 p q HQ.out.2, if_pos hc] at this
            exact this
          have HS : Hid (signP s true p = (some 42, skipP s p + 1)) := sign_yes s true p 2 (by omega) rfl hc
          clear hc
          go_wp2_with fail
          refine (CT.out _ HMA.out).mono ?_
          rintro e w2 ⟨rfl, hrd⟩
          have HRD := hid hrd
          have HNB := hid (HNA.out.keep hrd.2 hne)
          have HSB := hid ((HSA.out.keep HKA.out (by omega)).keep hrd.2 (by omega))
          clear hrd
          have a0 := HNB.out.c0
          have a1 := HNB.out.c1
          have a2 := HNB.out.c2
          have b0 := HSB.out.c0
          have b1 := HSB.out.c1
          have b2 := HSB.out.c2
          have d0 := HSB.out.f0
          have d1 := HSB.out.f1
          have d2 := HSB.out.f2
          go_wp2
          have HP := hid (HSB.out.put (.int .u8 42) (.bool true) (.func (.func 46) #[] #[]))
          have e0 := HP.out.c0
          have e1 := HP.out.c1
          have e2 := HP.out.c2
          refine bodyPost_ret (v := .tuple #[.agg #[.int .u8 42, .bool true, .func (.func 46) #[] #[]], .bool true]) (by simp [results, Try.results32, go_sem, e0, e1, e2]) rfl ?_
          rw [HS.out]
          refine ⟨fun c hc => ?_, fun hc => (by cases hc), ?_, ?_⟩
          · injection hc with hc; subst hc; rfl
          · exact ((HRD.out.1.put (by omega) 0 _).put (by omega) 1 _).put (by omega) 2 _
          · exact ((((HK.out.trans HKA.out).trans HRD.out.2).put hR (Nat.le_refl _) 0 _).put hR (Nat.le_refl _) 1 _).put hR (Nat.le_refl _) 2 _
        · have CT : Hid (∀ W, MAt W R s q o ov rk → Calls Try.prog 37 #[.pointer (some ⟨R, 0, none⟩), .int .u8 42] W fun e w' => e = .returned (.bool false) ∧ Read R s (skipP s p) o ov rk W w') := fun W h => by
            have := take_any R s q o ov rk 42 W hs HQ.out.1 h
            rw [take_at s 42 p q HQ.out.2, if_neg hc] at this
            exact this
          have HC := hid hc
          clear hc
          go_wp2_with fail
          refine (CT.out _ HMA.out).mono ?_
          rintro e w2 ⟨rfl, hrd⟩
          have HRD := hid hrd
          have HNB := hid (HNA.out.keep hrd.2 hne)
          have HSB := hid ((HSA.out.keep HKA.out (by omega)).keep hrd.2 (by omega))
          clear hrd
          go_wp2
          go_roundg (5 - (2 + 1))
          case measure => omega
          case rel =>
            refine ⟨3, skipP s p, by omega, by omega, rfl, Or.inl rfl, fun j hj ht => ?_, HRD.out.1, (HK.out.trans HKA.out).trans HRD.out.2, HSB.out⟩
            by_cases e : j = 2
            · subst e; exact HC.out
            · exact HNO.out j (by omega) ht
    · have hidx : ∀ W, (Instr.index 75 (.agg #[.int .u8 43, .bool false, .func (.func 44) #[] #[], .int .u8 45, .bool false, .func (.func 45) #[] #[], .int .u8 42, .bool true, .func (.func 46) #[] #[], .int .u8 47, .bool true, .func (.func 47) #[] #[], .int .u8 37, .bool true, .func (.func 49) #[] #[]]) (.int .i64 3)).run Try.prog W = .ok (.agg #[.int .u8 47, .bool true, .func (.func 47) #[] #[]]) W := fun W => by kernel_rfl
      have HBA : Hid (Below wr.heap.size wr (wr.alloc (.cells #[.int .u8 47, .bool true, .func (.func 47) #[] #[]] 71))) := (Below.refl _ _).alloc (Nat.le_refl _) _
      have HMA := hid (HM.out.below HBA.out)
      have HKA : Hid (Keeps R wr (wr.alloc (.cells #[.int .u8 47, .bool true, .func (.func 47) #[] #[]] 71))) := Keeps.of_below HBA.out HM.out.old
      have HNA : Hid (SignAt (wr.alloc (.cells #[.int .u8 47, .bool true, .func (.func 47) #[] #[]] 71)) wr.heap.size (.int .u8 47) (.bool true) (.func (.func 47) #[] #[])) := SignAt.new _ _ _ _ _
      have hne : wr.heap.size ≠ R := by have := HM.out.old; omega
      cases t
      · go_wp2
        go_roundg (5 - (3 + 1))
        case measure => omega
        case rel =>
          refine ⟨4, q, by omega, by omega, rfl, ?_, fun j hj ht => ?_, HMA.out, HK.out.trans HKA.out, HSA.out.keep HKA.out (by omega)⟩
          · rcases HQ2.out with h | ⟨h, h2⟩
            · exact Or.inl h
            · simp at h2
          · by_cases e : j = 3
            · subst e; cases ht
            · exact HNO.out j (by omega) ht
      · by_cases hc : atP s (skipP s p) = some 47
        · have CT : Hid (∀ W, MAt W R s q o ov rk → Calls Try.prog 37 #[.pointer (some ⟨R, 0, none⟩), .int .u8 47] W fun e w' => e = .returned (.bool true) ∧ Read R s (skipP s p + 1) o ov rk W w') := fun W h => by
            have := take_any R s q o ov rk 47 W hs HQ.out.1 h
            rw [take_at s 47 p q HQ.out.2, if_pos hc] at this
            exact this
          have HS : Hid (signP s true p = (some 47, skipP s p + 1)) := sign_yes s true p 3 (by omega) rfl hc
          clear hc
          go_wp2_with fail
          refine (CT.out _ HMA.out).mono ?_
          rintro e w2 ⟨rfl, hrd⟩
          have HRD := hid hrd
          have HNB := hid (HNA.out.keep hrd.2 hne)
          have HSB := hid ((HSA.out.keep HKA.out (by omega)).keep hrd.2 (by omega))
          clear hrd
          have a0 := HNB.out.c0
          have a1 := HNB.out.c1
          have a2 := HNB.out.c2
          have b0 := HSB.out.c0
          have b1 := HSB.out.c1
          have b2 := HSB.out.c2
          have d0 := HSB.out.f0
          have d1 := HSB.out.f1
          have d2 := HSB.out.f2
          go_wp2
          have HP := hid (HSB.out.put (.int .u8 47) (.bool true) (.func (.func 47) #[] #[]))
          have e0 := HP.out.c0
          have e1 := HP.out.c1
          have e2 := HP.out.c2
          refine bodyPost_ret (v := .tuple #[.agg #[.int .u8 47, .bool true, .func (.func 47) #[] #[]], .bool true]) (by simp [results, Try.results32, go_sem, e0, e1, e2]) rfl ?_
          rw [HS.out]
          refine ⟨fun c hc => ?_, fun hc => (by cases hc), ?_, ?_⟩
          · injection hc with hc; subst hc; rfl
          · exact ((HRD.out.1.put (by omega) 0 _).put (by omega) 1 _).put (by omega) 2 _
          · exact ((((HK.out.trans HKA.out).trans HRD.out.2).put hR (Nat.le_refl _) 0 _).put hR (Nat.le_refl _) 1 _).put hR (Nat.le_refl _) 2 _
        · have CT : Hid (∀ W, MAt W R s q o ov rk → Calls Try.prog 37 #[.pointer (some ⟨R, 0, none⟩), .int .u8 47] W fun e w' => e = .returned (.bool false) ∧ Read R s (skipP s p) o ov rk W w') := fun W h => by
            have := take_any R s q o ov rk 47 W hs HQ.out.1 h
            rw [take_at s 47 p q HQ.out.2, if_neg hc] at this
            exact this
          have HC := hid hc
          clear hc
          go_wp2_with fail
          refine (CT.out _ HMA.out).mono ?_
          rintro e w2 ⟨rfl, hrd⟩
          have HRD := hid hrd
          have HNB := hid (HNA.out.keep hrd.2 hne)
          have HSB := hid ((HSA.out.keep HKA.out (by omega)).keep hrd.2 (by omega))
          clear hrd
          go_wp2
          go_roundg (5 - (3 + 1))
          case measure => omega
          case rel =>
            refine ⟨4, skipP s p, by omega, by omega, rfl, Or.inl rfl, fun j hj ht => ?_, HRD.out.1, (HK.out.trans HKA.out).trans HRD.out.2, HSB.out⟩
            by_cases e : j = 3
            · subst e; exact HC.out
            · exact HNO.out j (by omega) ht
    · have hidx : ∀ W, (Instr.index 75 (.agg #[.int .u8 43, .bool false, .func (.func 44) #[] #[], .int .u8 45, .bool false, .func (.func 45) #[] #[], .int .u8 42, .bool true, .func (.func 46) #[] #[], .int .u8 47, .bool true, .func (.func 47) #[] #[], .int .u8 37, .bool true, .func (.func 49) #[] #[]]) (.int .i64 4)).run Try.prog W = .ok (.agg #[.int .u8 37, .bool true, .func (.func 49) #[] #[]]) W := fun W => by kernel_rfl
      have HBA : Hid (Below wr.heap.size wr (wr.alloc (.cells #[.int .u8 37, .bool true, .func (.func 49) #[] #[]] 71))) := (Below.refl _ _).alloc (Nat.le_refl _) _
      have HMA := hid (HM.out.below HBA.out)
      have HKA : Hid (Keeps R wr (wr.alloc (.cells #[.int .u8 37, .bool true, .func (.func 49) #[] #[]] 71))) := Keeps.of_below HBA.out HM.out.old
      have HNA : Hid (SignAt (wr.alloc (.cells #[.int .u8 37, .bool true, .func (.func 49) #[] #[]] 71)) wr.heap.size (.int .u8 37) (.bool true) (.func (.func 49) #[] #[])) := SignAt.new _ _ _ _ _
      have hne : wr.heap.size ≠ R := by have := HM.out.old; omega
      cases t
      · go_wp2
        go_roundg (5 - (4 + 1))
        case measure => omega
        case rel =>
          refine ⟨5, q, by omega, by omega, rfl, ?_, fun j hj ht => ?_, HMA.out, HK.out.trans HKA.out, HSA.out.keep HKA.out (by omega)⟩
          · rcases HQ2.out with h | ⟨h, h2⟩
            · exact Or.inl h
            · simp at h2
          · by_cases e : j = 4
            · subst e; cases ht
            · exact HNO.out j (by omega) ht
      · by_cases hc : atP s (skipP s p) = some 37
        · have CT : Hid (∀ W, MAt W R s q o ov rk → Calls Try.prog 37 #[.pointer (some ⟨R, 0, none⟩), .int .u8 37] W fun e w' => e = .returned (.bool true) ∧ Read R s (skipP s p + 1) o ov rk W w') := fun W h => by
            have := take_any R s q o ov rk 37 W hs HQ.out.1 h
            rw [take_at s 37 p q HQ.out.2, if_pos hc] at this
            exact this
          have HS : Hid (signP s true p = (some 37, skipP s p + 1)) := sign_yes s true p 4 (by omega) rfl hc
          clear hc
          go_wp2_with fail
          refine (CT.out _ HMA.out).mono ?_
          rintro e w2 ⟨rfl, hrd⟩
          have HRD := hid hrd
          have HNB := hid (HNA.out.keep hrd.2 hne)
          have HSB := hid ((HSA.out.keep HKA.out (by omega)).keep hrd.2 (by omega))
          clear hrd
          have a0 := HNB.out.c0
          have a1 := HNB.out.c1
          have a2 := HNB.out.c2
          have b0 := HSB.out.c0
          have b1 := HSB.out.c1
          have b2 := HSB.out.c2
          have d0 := HSB.out.f0
          have d1 := HSB.out.f1
          have d2 := HSB.out.f2
          go_wp2
          have HP := hid (HSB.out.put (.int .u8 37) (.bool true) (.func (.func 49) #[] #[]))
          have e0 := HP.out.c0
          have e1 := HP.out.c1
          have e2 := HP.out.c2
          refine bodyPost_ret (v := .tuple #[.agg #[.int .u8 37, .bool true, .func (.func 49) #[] #[]], .bool true]) (by simp [results, Try.results32, go_sem, e0, e1, e2]) rfl ?_
          rw [HS.out]
          refine ⟨fun c hc => ?_, fun hc => (by cases hc), ?_, ?_⟩
          · injection hc with hc; subst hc; rfl
          · exact ((HRD.out.1.put (by omega) 0 _).put (by omega) 1 _).put (by omega) 2 _
          · exact ((((HK.out.trans HKA.out).trans HRD.out.2).put hR (Nat.le_refl _) 0 _).put hR (Nat.le_refl _) 1 _).put hR (Nat.le_refl _) 2 _
        · have CT : Hid (∀ W, MAt W R s q o ov rk → Calls Try.prog 37 #[.pointer (some ⟨R, 0, none⟩), .int .u8 37] W fun e w' => e = .returned (.bool false) ∧ Read R s (skipP s p) o ov rk W w') := fun W h => by
            have := take_any R s q o ov rk 37 W hs HQ.out.1 h
            rw [take_at s 37 p q HQ.out.2, if_neg hc] at this
            exact this
          have HC := hid hc
          clear hc
          go_wp2_with fail
          refine (CT.out _ HMA.out).mono ?_
          rintro e w2 ⟨rfl, hrd⟩
          have HRD := hid hrd
          have HNB := hid (HNA.out.keep hrd.2 hne)
          have HSB := hid ((HSA.out.keep HKA.out (by omega)).keep hrd.2 (by omega))
          clear hrd
          go_wp2
          go_roundg (5 - (4 + 1))
          case measure => omega
          case rel =>
            refine ⟨5, skipP s p, by omega, by omega, rfl, Or.inl rfl, fun j hj ht => ?_, HRD.out.1, (HK.out.trans HKA.out).trans HRD.out.2, HSB.out⟩
            by_cases e : j = 4
            · subst e; exact HC.out
            · exact HNO.out j (by omega) ht
    · have HS : Hid (signP s t p = (none, skipP s p)) := sign_no s t p (fun j hj ht => HNO.out j hj ht)
      have HQE : Hid (q = skipP s p) := by
        rcases HQ2.out with h | ⟨_, h⟩
        · exact h
        · cases t <;> simp at h
      have b0 := HSA.out.c0
      have b1 := HSA.out.c1
      have b2 := HSA.out.c2
      have d0 := HSA.out.f0
      have d1 := HSA.out.f1
      have d2 := HSA.out.f2
      go_wp2
      have HP := hid (HSA.out.put (.int .u8 0) (.bool false) .nilFunc)
      have e0 := HP.out.c0
      have e1 := HP.out.c1
      have e2 := HP.out.c2
      refine bodyPost_ret (v := .tuple #[.agg #[.int .u8 0, .bool false, .nilFunc], .bool false]) (by simp [results, Try.results32, go_sem, e0, e1, e2]) rfl ?_
      rw [HS.out]
      refine ⟨fun c hc => (by cases hc), fun _ => rfl, ?_, ?_⟩
      · have := HM.out
        rw [HQE.out] at this
        exact ((this.put (by omega) 0 _).put (by omega) 1 _).put (by omega) 2 _
      · exact (((HK.out).put hR (Nat.le_refl _) 0 _).put hR (Nat.le_refl _) 1 _).put hR (Nat.le_refl _) 2 _

end Go.Proofs.Ytaabcbpbijkmnab
