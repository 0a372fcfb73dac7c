/- DERIVED. The walks of records: the program's and the model's. -/
import Derived.Test.YtplbfllhimcpiaaGreatDoorLogPlain
import Derived.Test.YtplbfllhimcpiaaGreatDoorItoa
namespace Go.Proofs.YtplbfllhimcpiaaGreatDoor
open Go.RowKit

set_option maxHeartbeats 400000 in
theorem printed_any (c : Int) (w : World) :
    Calls Tryz.prog 141 #[.int .u8 c] w fun e w' => e = .returned (.bool (prB c)) ∧ w' = w := by
  unfold prB
  by_cases h : 32 ≤ c
  all_goals
    go_enter Tryz.func141, Tryz.ntmps141
    go_wp2
    go_ret
    refine ⟨?_, rfl⟩
    first | (simp [h]; done) | (simp; omega)

set_option maxHeartbeats 400000 in
theorem leadP_any (s : ByteArray) (w : World) (hs : s.size ≤ maxLen) :
    Calls Tryz.prog 140 #[.string s, .func (.func 141) #[] #[]] w fun e w' => e = .returned (.string (s.extract 0 (leadP s.data.toList))) ∧ w' = w := by
  unfold maxLen at hs
  go_enter Tryz.func140, Tryz.ntmps140
  go_wp2
  go_loop [8] (fun i => ∃ k : Nat, k ≤ s.size ∧ i = .int .i64 k ∧ prAll (s.data.toList.take k) = true) (fun i => s.size - (intOf i).toNat)
  case atStart => exact ⟨0, Nat.zero_le _, rfl, rfl⟩
  case round =>
    obtain ⟨k, hk, rfl, hl⟩ := hrel
    have HL : Hid (prAll (s.data.toList.take k) = true) := hl
    clear hl
    by_cases hlt : k < s.size
    · have HS : Hid (prAll (s.data.toList.take (k + 1)) = (prAll (s.data.toList.take k) && prB (s[k].toNat : Int))) := prAll_snoc s k hlt
      cases hc : prB (s[k].toNat : Int)
      · go_wp2_with (go_at_call 141; refine (printed_any _ _).mono ?_; rintro e w' ⟨rfl, rfl⟩)
        go_ret
        refine ⟨?_, rfl⟩
        rw [leadP_none s.data.toList k (by simpa using hlt) HL.out (by exact hc)]
        rfl
      · go_wp2_with (go_at_call 141; refine (printed_any _ _).mono ?_; rintro e w' ⟨rfl, rfl⟩)
        go_round
        case rel => exact ⟨k + 1, by omega, by go_num, by rw [HS.out, HL.out, hc]; rfl⟩
        case measure => simp [intOf]; omega
    · go_wp2
      go_ret
      refine ⟨?_, rfl⟩
      have e1 := HL.out
      rw [lowAll_whole s k (by omega)] at e1
      rw [leadP_all _ e1]
      simp

theorem leadP_yes (s : ByteArray) (w : World) (hs : s.size ≤ maxLen) (h : prAll s.data.toList = true) :
    Calls Tryz.prog 140 #[.string s, .func (.func 141) #[] #[]] w fun e w' => e = .returned (.string s) ∧ w' = w := by
  refine (leadP_any s w hs).mono ?_
  rintro e w' ⟨rfl, rfl⟩
  rw [leadP_all _ h]
  simp

theorem leadP_no (s : ByteArray) (w : World) (r : ByteArray) (hs : s.size ≤ maxLen) (hr : r = s.extract 0 (leadP s.data.toList)) :
    Calls Tryz.prog 140 #[.string s, .func (.func 141) #[] #[]] w fun e w' => e = .returned (.string r) ∧ w' = w := by
  subst hr
  exact leadP_any s w hs

theorem leadP_ne (s : ByteArray) (h : prAll s.data.toList = false) : ((s.extract 0 (leadP s.data.toList)).toList == s.toList) = false := by
  have := leadP_lt _ h
  rw [beq_eq_false_iff_ne]
  intro e
  have e2 := congrArg List.length e
  have e3 : (s.extract 0 (leadP s.data.toList)).size = s.size := by rw [len_toList, len_toList] at e2; exact e2
  have e4 : s.data.toList.length = s.size := by simp
  rw [ByteArray.size_extract] at e3
  omega

set_option maxHeartbeats 600000 in
theorem isRecord_any (s : ByteArray) (w : World) (hs : s.size ≤ maxLen) :
    Calls Tryz.prog 118 #[.string s] w fun e w' => e = .returned (.bool (recOk s)) ∧ w' = w := by
  by_cases h0 : s.toList.isEmpty = true
  · have e0 : s.size = 0 := by rw [← len_toList]; simpa using h0
    go_enter Tryz.func118, Tryz.ntmps118
    go_wp2
    go_ret
    exact ⟨by simp [recOk, e0], rfl⟩
  · have h0' : s.toList.isEmpty = false := by simpa using h0
    clear h0
    have hp : 1 ≤ s.size := by
      have : s.size ≠ 0 := by intro e; rw [← len_toList] at e; simp at e; simp [e] at h0'
      omega
    by_cases h6 : (s.size : Int) ≤ 60
    · cases hl : prAll s.data.toList
      · have hne := leadP_ne s hl
        obtain ⟨r, hr⟩ : ∃ r, r = s.extract 0 (leadP s.data.toList) := ⟨_, rfl⟩
        rw [← hr] at hne
        have HR : Hid (r = s.extract 0 (leadP s.data.toList)) := hr
        have HK : Hid (recOk s = false) := by show _ = _; simp [recOk, hl]
        clear hr hl
        go_enter Tryz.func118, Tryz.ntmps118
        go_wp2_with (go_at_call 140; refine (leadP_no _ _ r hs HR.out).mono ?_; rintro e w' ⟨rfl, rfl⟩)
        go_ret
        exact ⟨by rw [HK.out]; rfl, rfl⟩
      · have HL := hid hl
        have HK : Hid (recOk s = true) := by show _ = _; simp [recOk, hl]; omega
        clear hl
        go_enter Tryz.func118, Tryz.ntmps118
        go_wp2_with (go_at_call 140; refine (leadP_yes _ _ hs HL.out).mono ?_; rintro e w' ⟨rfl, rfl⟩)
        go_ret
        exact ⟨by rw [HK.out]; rfl, rfl⟩
    · have HK : Hid (recOk s = false) := by show _ = _; simp [recOk]; omega
      go_enter Tryz.func118, Tryz.ntmps118
      go_wp2
      go_ret
      exact ⟨by rw [HK.out]; rfl, rfl⟩

set_option maxHeartbeats 600000 in
theorem recordPut_any (s : ByteArray) (w : World) (hs : s.size ≤ 1048576) (ht : Tab w) :
    Calls Tryz.prog 88 #[.string s] w fun e w' => e = .returned (.string (putR s)) ∧ Below w.heap.size w w' := by
  have hd := decS_size s.size
  obtain ⟨r, hr⟩ : ∃ r, r = decS s.size := ⟨_, rfl⟩
  have HP : Hid (putR s = r ++ ⟨#[58]⟩ ++ s ++ ⟨#[59]⟩) := by show _ = _; rw [hr]; rfl
  rw [← hr] at hd
  have CD : Hid (∀ w, Tab w → Calls Tryz.prog 108 #[.int .i64 (s.size : Int)] w fun e w' => e = .returned (.string r) ∧ Below w.heap.size w w') := fun w ht => by rw [hr]; exact itoa_big s.size w (by omega) ht
  have HT := hid ht
  clear hr ht
  have z1 : (⟨#[58]⟩ : ByteArray).size = 1 := rfl
  have z2 : (⟨#[59]⟩ : ByteArray).size = 1 := rfl
  have h1 := fun W => run_string_add_sum (P := Tryz.prog) (w := W) r ⟨#[58]⟩ (by omega)
  have h2 := fun W => run_string_add_sum (P := Tryz.prog) (w := W) (r ++ ⟨#[58]⟩) s (by rw [ByteArray.size_append]; omega)
  have h3 := fun W => run_string_add_sum (P := Tryz.prog) (w := W) (r ++ ⟨#[58]⟩ ++ s) ⟨#[59]⟩ (by rw [ByteArray.size_append, ByteArray.size_append]; omega)
  go_enter Tryz.func88, Tryz.ntmps88
  go_wp2_with fail
  refine (CD.out _ HT.out).mono ?_
  rintro e w1 ⟨rfl, hb⟩
  have HB := hid hb
  clear hb
  go_wp2
  go_ret
  exact ⟨by rw [HP.out]; rfl, HB.out⟩


end Go.Proofs.YtplbfllhimcpiaaGreatDoor
