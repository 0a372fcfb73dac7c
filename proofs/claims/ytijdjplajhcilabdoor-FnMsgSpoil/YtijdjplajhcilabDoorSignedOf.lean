/- DERIVED. The program's signedOf, exactly. -/
import Derived.Test.YtijdjplajhcilabDoorMathPlain
import Derived.Test.YtijdjplajhcilabDoorNumImpl
import Derived.Deep.QuietTactic
import Derived.BigQuiet
namespace Go.Proofs.YtijdjplajhcilabDoor
open Go.RowKit

theorem toList_inj2 {a b : ByteArray} (h : a.toList = b.toList) : a = b := by
  have h1 : a.data.toList = b.data.toList := by simpa [ByteArray.toList_eq] using h
  cases a; cases b; congr; exact Array.toList_inj.1 h1

theorem first_ext (s : ByteArray) (h0 : 0 < s.size) : (s.extract 0 1).data.toList = [s[0]] := by
  have := restL_cons s 0 h0
  simp [restL] at this
  simp [ByteArray.data_extract, Array.toList_extract]
  rw [this]; rfl

set_option maxHeartbeats 800000 in
theorem cutMinus_yes (s : ByteArray) (w : World) (h0 : 0 < s.size) (h : s[0] = 45) (hs : s.size ≤ maxLen) :
    Calls Tryd.prog 65 #[.string s, .string ⟨#[45]⟩] w fun e w' => e = .returned (.tuple #[.string (s.extract 1 s.size), .bool true]) ∧ w' = w := by
  unfold maxLen at hs
  have h1 : (1 : Int) ≤ (s.size : Int) := by omega
  have hp : ((s.extract 0 1).toList == [45]) = true := by
    rw [beq_iff_eq, ByteArray.toList_eq, first_ext s h0, h]
  clear h
  go_enter Tryd.func65, Tryd.ntmps65
  go_wp2
  go_ret2
  exact ⟨rfl, rfl⟩

set_option maxHeartbeats 800000 in
theorem cutMinus_no (s : ByteArray) (w : World) (h : ∀ h0 : 0 < s.size, s[0] ≠ 45) (hs : s.size ≤ maxLen) :
    Calls Tryd.prog 65 #[.string s, .string ⟨#[45]⟩] w fun e w' => e = .returned (.tuple #[.string s, .bool false]) ∧ w' = w := by
  unfold maxLen at hs
  by_cases h0 : 0 < s.size
  · have h1 : (1 : Int) ≤ (s.size : Int) := by omega
    have hp : ((s.extract 0 1).toList == [45]) = false := by
      rw [beq_eq_false_iff_ne, ByteArray.toList_eq, first_ext s h0]
      intro e
      injection e with e
      exact h h0 e
    clear h
    go_enter Tryd.func65, Tryd.ntmps65
    go_wp2
    go_ret2
    exact ⟨rfl, rfl⟩
  · have h1 : ¬ (1 : Int) ≤ (s.size : Int) := by omega
    clear h
    go_enter Tryd.func65, Tryd.ntmps65
    go_wp2
    go_ret2
    exact ⟨rfl, rfl⟩

theorem cons_of (s : ByteArray) (h0 : 0 < s.size) : s.data.toList = s[0] :: (s.extract 1 s.size).data.toList := by
  have := restL_cons s 0 h0
  simp [restL] at this
  rw [this]
  congr 1
  simp [ByteArray.data_extract, Array.toList_extract]
  rw [List.take_of_length_le]
  simp

/-- How signedOf answers. -/
def signedE (l : List UInt8) (e : Ending) : Prop :=
  match signedV l with
  | some z => e = .returned (.tuple #[.int .i64 z, .bool true])
  | none => e = .returned (.tuple #[.int .i64 0, .bool false])

set_option maxHeartbeats 800000 in
theorem signedOf_any (s : ByteArray) (w : World) (hs : s.size ≤ maxLen) :
    Calls Tryd.prog 56 #[.string s] w fun e w' => signedE s.data.toList e ∧ w' = w := by
  by_cases h0 : ∃ h0 : 0 < s.size, s[0] = 45
  · obtain ⟨h0, h1⟩ := h0
    have hl := cons_of s h0
    have CC : Hid (∀ W, Calls Tryd.prog 65 #[.string s, .string ⟨#[45]⟩] W fun e w' => e = .returned (.tuple #[.string (s.extract 1 s.size), .bool true]) ∧ w' = W) := fun W => cutMinus_yes s W h0 h1 hs
    obtain ⟨r, hr⟩ : ∃ r, r = s.extract 1 s.size := ⟨_, rfl⟩
    have hrs : r.size ≤ maxLen := by rw [hr]; simp; omega
    rw [← hr] at hl CC
    have HE : Hid (∀ e, signedE s.data.toList e ↔ (if isNum r.data.toList = true then (if numVal r.data.toList = 0 then e = .returned (.tuple #[.int .i64 0, .bool false]) else e = .returned (.tuple #[.int .i64 (-numVal r.data.toList), .bool true])) else e = .returned (.tuple #[.int .i64 0, .bool false]))) := by
      intro e
      have hS : signedV s.data.toList = (if isNum r.data.toList = true then (if numVal r.data.toList = 0 then none else some (-numVal r.data.toList)) else none) := by
        unfold signedV; rw [hl, h1]; rfl
      unfold signedE
      rw [hS]
      by_cases a : isNum r.data.toList = true
      · by_cases b : numVal r.data.toList = 0
        · rw [if_pos a, if_pos a, if_pos b, if_pos b]; first | done | exact Iff.rfl
        · rw [if_pos a, if_pos a, if_neg b, if_neg b]; first | done | exact Iff.rfl
      · rw [if_neg a, if_neg a]; first | done | exact Iff.rfl
    clear hl h1 hr h0
    cases hn : isNum r.data.toList
    · have CN : Hid (∀ W, Calls Tryd.prog 66 #[.string r] W fun e w' => e = .returned (.tuple #[.int .i64 0, .bool false]) ∧ w' = W) := fun W => number_no r W hrs hn
      go_enter Tryd.func56, Tryd.ntmps56
      go_wp2_with fail
      refine (CC.out _).mono ?_
      rintro e w1 ⟨rfl, rfl⟩
      go_wp2_with fail
      refine (CN.out _).mono ?_
      rintro e w1 ⟨rfl, rfl⟩
      go_wp2
      go_ret2
      exact ⟨by rw [HE.out, hn]; rfl, rfl⟩
    · have hb := numOf_yes _ hn
      have hv : numOf r.data.toList = numVal r.data.toList := by unfold numOf; rw [if_pos hn]
      rw [hv] at hb
      have CN : Hid (∀ W, Calls Tryd.prog 66 #[.string r] W fun e w' => e = .returned (.tuple #[.int .i64 (numVal r.data.toList), .bool true]) ∧ w' = W) := fun W => by have := number_yes r W hn; rw [hv] at this; exact this
      obtain ⟨z, hz⟩ : ∃ z, z = numVal r.data.toList := ⟨_, rfl⟩
      rw [← hz] at hb CN HE
      have hw : IntKind.i64.wrap (-z) = -z := by rw [IntKind.wrap_i64]; omega
      clear hv hz
      by_cases h2 : z = 0
      · have hz0 : (z == 0) = true := by rw [beq_iff_eq]; exact h2
        have hz1 : (z != 0) = false := by rw [bne, hz0]; rfl
        have HE2 : Hid (∀ e, signedE s.data.toList e ↔ e = .returned (.tuple #[.int .i64 0, .bool false])) := fun e => by rw [HE.out, hn, if_pos rfl, if_pos h2]
        subst h2
        clear HE hb hn hz0 hz1 hw
        go_enter Tryd.func56, Tryd.ntmps56
        go_wp2_with fail
        refine (CC.out _).mono ?_
        rintro e w1 ⟨rfl, rfl⟩
        go_wp2_with fail
        refine (CN.out _).mono ?_
        rintro e w1 ⟨rfl, rfl⟩
        go_wp2
        go_ret2
        exact ⟨(HE2.out _).2 (by first | rfl | simp), rfl⟩
      · have hz0 : (z == 0) = false := by rw [beq_eq_false_iff_ne]; exact h2
        have hz1 : (z != 0) = true := by rw [bne, hz0]; rfl
        have HE2 : Hid (∀ e, signedE s.data.toList e ↔ e = .returned (.tuple #[.int .i64 (-z), .bool true])) := fun e => by rw [HE.out, hn, if_pos rfl, if_neg h2]
        clear h2 HE hb hn
        go_enter Tryd.func56, Tryd.ntmps56
        go_wp2_with fail
        refine (CC.out _).mono ?_
        rintro e w1 ⟨rfl, rfl⟩
        go_wp2_with fail
        refine (CN.out _).mono ?_
        rintro e w1 ⟨rfl, rfl⟩
        go_wp2
        go_ret2
        exact ⟨(HE2.out _).2 (by first | rfl | (rw [hz1]; rfl)), rfl⟩
  · have hno : ∀ h1 : 0 < s.size, s[0] ≠ 45 := fun h1 h2 => h0 ⟨h1, h2⟩
    have CC : Hid (∀ W, Calls Tryd.prog 65 #[.string s, .string ⟨#[45]⟩] W fun e w' => e = .returned (.tuple #[.string s, .bool false]) ∧ w' = W) := fun W => cutMinus_no s W hno hs
    have HE : Hid (∀ e, signedE s.data.toList e ↔ (if isNum s.data.toList = true then e = .returned (.tuple #[.int .i64 (numVal s.data.toList), .bool true]) else e = .returned (.tuple #[.int .i64 0, .bool false]))) := by
      intro e
      by_cases h1 : 0 < s.size
      · have hS : signedV s.data.toList = if isNum s.data.toList = true then some (numVal s.data.toList) else none := by
          unfold signedV
          rw [cons_of s h1]
          exact if_neg (hno h1)
        unfold signedE
        rw [hS]
        by_cases a : isNum s.data.toList = true
        · rw [if_pos a, if_pos a]; first | done | exact Iff.rfl
        · rw [if_neg a, if_neg a]; first | done | exact Iff.rfl
      · have hle : s.data.toList.length = s.size := by simp
        have : s.data.toList = [] := List.eq_nil_of_length_eq_zero (by omega)
        unfold signedE signedV
        rw [this]
        rfl
    clear hno h0
    cases hn : isNum s.data.toList
    · have CN : Hid (∀ W, Calls Tryd.prog 66 #[.string s] W fun e w' => e = .returned (.tuple #[.int .i64 0, .bool false]) ∧ w' = W) := fun W => number_no s W hs hn
      go_enter Tryd.func56, Tryd.ntmps56
      go_wp2_with fail
      refine (CC.out _).mono ?_
      rintro e w1 ⟨rfl, rfl⟩
      go_wp2_with fail
      refine (CN.out _).mono ?_
      rintro e w1 ⟨rfl, rfl⟩
      go_wp2
      go_ret2
      exact ⟨by rw [HE.out, hn]; rfl, rfl⟩
    · have hv : numOf s.data.toList = numVal s.data.toList := by unfold numOf; rw [if_pos hn]
      have CN : Hid (∀ W, Calls Tryd.prog 66 #[.string s] W fun e w' => e = .returned (.tuple #[.int .i64 (numVal s.data.toList), .bool true]) ∧ w' = W) := fun W => by have := number_yes s W hn; rw [hv] at this; exact this
      obtain ⟨z, hz⟩ : ∃ z, z = numVal s.data.toList := ⟨_, rfl⟩
      rw [← hz] at CN HE
      clear hz hv
      go_enter Tryd.func56, Tryd.ntmps56
      go_wp2_with fail
      refine (CC.out _).mono ?_
      rintro e w1 ⟨rfl, rfl⟩
      go_wp2_with fail
      refine (CN.out _).mono ?_
      rintro e w1 ⟨rfl, rfl⟩
      go_wp2
      go_ret2
      exact ⟨by rw [HE.out, hn, if_pos rfl]; rfl, rfl⟩

end Go.Proofs.YtijdjplajhcilabDoor
