/- DERIVED. The small walks over messages. -/
import Derived.Test.YtplbfllhimcpiaaGreatDoorVoteWalks
import Derived.Test.YtplbfllhimcpiaaGreatDoorMsgPlain
namespace Go.Proofs.YtplbfllhimcpiaaGreatDoor
open Go.RowKit

set_option maxHeartbeats 800000 in
theorem kind_any (n : Int) (w : World) :
    Calls Tryz.prog 74 #[.int .i64 n] w fun e w' => e = .returned (.bool (inB n 1 9)) ∧ w' = w := by
  by_cases hin : 1 ≤ n ∧ n ≤ 9
  · have HI : Hid (inB n 1 9 = true) := by show _ = _; simp [inB]; omega
    have hc : n = 1 ∨ n = 2 ∨ n = 3 ∨ n = 4 ∨ n = 5 ∨ n = 6 ∨ n = 7 ∨ n = 8 ∨ n = 9 := by omega
    rcases hc with rfl | rfl | rfl | rfl | rfl | rfl | rfl | rfl | rfl
    all_goals
      clear hin
      go_enter Tryz.func74, Tryz.ntmps74
      go_wp2
      go_ret
      exact ⟨by rw [HI.out]; rfl, rfl⟩
  · have HI : Hid (inB n 1 9 = false) := by show _ = _; simp [inB]; omega
    have h1 : (n == 1) = false := by rw [beq_eq_false_iff_ne]; omega
    have h2 : (n == 2) = false := by rw [beq_eq_false_iff_ne]; omega
    have h3 : (n == 3) = false := by rw [beq_eq_false_iff_ne]; omega
    have h4 : (n == 4) = false := by rw [beq_eq_false_iff_ne]; omega
    have h5 : (n == 5) = false := by rw [beq_eq_false_iff_ne]; omega
    have h6 : (n == 6) = false := by rw [beq_eq_false_iff_ne]; omega
    have h7 : (n == 7) = false := by rw [beq_eq_false_iff_ne]; omega
    have h8 : (n == 8) = false := by rw [beq_eq_false_iff_ne]; omega
    have h9 : (n == 9) = false := by rw [beq_eq_false_iff_ne]; omega
    clear hin
    go_enter Tryz.func74, Tryz.ntmps74
    go_wp2
    go_ret
    exact ⟨by rw [HI.out]; rfl, rfl⟩

theorem agent_any (n : Int) (w : World) :
    Calls Tryz.prog 41 #[.int .i64 n] w fun e w' => e = .returned (.bool (inB n 0 2)) ∧ w' = w := by
  by_cases h1 : n ≥ 0
  · by_cases h2 : n < 3
    · have HI : Hid (inB n 0 2 = true) := by show _ = _; simp [inB]; omega
      go_enter Tryz.func41, Tryz.ntmps41
      go_wp2
      go_ret
      exact ⟨by rw [HI.out]; first | rfl | (simp; done) | (simp; omega), rfl⟩
    · have HI : Hid (inB n 0 2 = false) := by show _ = _; simp [inB]; omega
      go_enter Tryz.func41, Tryz.ntmps41
      go_wp2
      go_ret
      exact ⟨by rw [HI.out]; first | rfl | (simp; done) | (simp; omega), rfl⟩
  · have HI : Hid (inB n 0 2 = false) := by show _ = _; simp [inB]; omega
    go_enter Tryz.func41, Tryz.ntmps41
    go_wp2
    go_ret
    exact ⟨by rw [HI.out]; first | rfl | (simp; done) | (simp; omega), rfl⟩

theorem rep_any (n : Int) (w : World) :
    Calls Tryz.prog 14 #[.int .i64 n] w fun e w' => e = .returned (.bool (inB n 10 12)) ∧ w' = w := by
  by_cases h1 : n ≥ 10
  · by_cases h2 : n < 13
    · have HI : Hid (inB n 10 12 = true) := by show _ = _; simp [inB]; omega
      go_enter Tryz.func14, Tryz.ntmps14
      go_wp2
      go_ret
      exact ⟨by rw [HI.out]; first | rfl | (simp; done) | (simp; omega), rfl⟩
    · have HI : Hid (inB n 10 12 = false) := by show _ = _; simp [inB]; omega
      go_enter Tryz.func14, Tryz.ntmps14
      go_wp2
      go_ret
      exact ⟨by rw [HI.out]; first | rfl | (simp; done) | (simp; omega), rfl⟩
  · have HI : Hid (inB n 10 12 = false) := by show _ = _; simp [inB]; omega
    go_enter Tryz.func14, Tryz.ntmps14
    go_wp2
    go_ret
    exact ⟨by rw [HI.out]; first | rfl | (simp; done) | (simp; omega), rfl⟩

theorem party_any (n : Int) (w : World) :
    Calls Tryz.prog 75 #[.int .i64 n] w fun e w' => e = .returned (.bool (party n)) ∧ w' = w := by
  obtain ⟨a, ha⟩ : ∃ a, a = inB n 0 2 := ⟨_, rfl⟩
  obtain ⟨b, hb⟩ : ∃ b, b = inB n 10 12 := ⟨_, rfl⟩
  have HP : Hid (party n = (a || b)) := by show _ = _; rw [ha, hb]; rfl
  have CA : Hid (Calls Tryz.prog 41 #[.int .i64 n] w fun e w' => e = .returned (.bool a) ∧ w' = w) := by rw [ha]; exact agent_any n w
  have CB : Hid (Calls Tryz.prog 14 #[.int .i64 n] w fun e w' => e = .returned (.bool b) ∧ w' = w) := by rw [hb]; exact rep_any n w
  clear ha hb
  cases a
  · go_enter Tryz.func75, Tryz.ntmps75
    go_wp2_with fail
    refine CA.out.mono ?_
    rintro e w' ⟨rfl, rfl⟩
    go_wp2_with fail
    refine CB.out.mono ?_
    rintro e w' ⟨rfl, rfl⟩
    go_wp2
    go_ret
    exact ⟨by rw [HP.out]; rfl, rfl⟩
  · go_enter Tryz.func75, Tryz.ntmps75
    go_wp2_with fail
    refine CA.out.mono ?_
    rintro e w' ⟨rfl, rfl⟩
    go_wp2
    go_ret
    exact ⟨by rw [HP.out]; rfl, rfl⟩

theorem l9Rep_any (n : Int) (w : World) :
    Calls Tryz.prog 19 #[.int .i64 n] w fun e w' => e = .returned (.bool (inB n 10 12)) ∧ w' = w := by
  go_enter Tryz.func19, Tryz.ntmps19
  go_wp2_with fail
  refine (in_any _ _ _ _).mono ?_
  rintro e w' ⟨rfl, rfl⟩
  go_wp2
  go_ret
  exact ⟨rfl, rfl⟩

set_option maxRecDepth 100000 in
set_option maxHeartbeats 800000 in
theorem entOk_any (i b : Int) (oa : Option Addr) (cap len : Nat) (V : List Int) (w : World) (hl : len = V.length) (hm : len ≤ 1048576) (h : NumsAt w oa V) :
    Calls Tryz.prog 95 #[.agg #[.int .i64 i, .int .i64 b, .slice oa len cap]] w fun e w' => e = .returned (.bool (entOk (i, b, V))) ∧ Below w.heap.size w w' := by
  obtain ⟨c, hc⟩ : ∃ c, c = okV V := ⟨_, rfl⟩
  have CV : Hid (∀ w', Below w.heap.size w w' → Calls Tryz.prog 76 #[.slice oa len cap] w' fun e w2 => e = .returned (.bool c) ∧ w2 = w') := fun w' hb => by rw [hc]; exact implVotesOk_any oa cap len V w' hl hm (h.below hb)
  have HE : Hid (entOk (i, b, V) = (inB i 0 11 && inB b 1 9999 && c && !(decide (len = 0)))) := by show _ = _; rw [hc, hl]; rfl
  clear h hl hc
  by_cases h1 : i ≥ 0
  case neg =>
    have HF : Hid (entOk (i, b, V) = false) := by show _ = _; rw [HE.out]; simp [inB]; omega
    go_enter Tryz.func95, Tryz.ntmps95
    go_wp2
    go_ret
    exact ⟨by rw [HF.out]; first | rfl | (simp; done) | (simp; omega), (Below.refl _ _).alloc (Nat.le_refl _) _⟩
  by_cases h2 : i < 12
  case neg =>
    have HF : Hid (entOk (i, b, V) = false) := by show _ = _; rw [HE.out]; simp [inB]; omega
    go_enter Tryz.func95, Tryz.ntmps95
    go_wp2
    go_ret
    exact ⟨by rw [HF.out]; first | rfl | (simp; done) | (simp; omega), (Below.refl _ _).alloc (Nat.le_refl _) _⟩
  by_cases h3 : b ≥ 1
  case neg =>
    have HF : Hid (entOk (i, b, V) = false) := by show _ = _; rw [HE.out]; simp [inB]; omega
    go_enter Tryz.func95, Tryz.ntmps95
    go_wp2
    go_ret
    exact ⟨by rw [HF.out]; first | rfl | (simp; done) | (simp; omega), (Below.refl _ _).alloc (Nat.le_refl _) _⟩
  by_cases h4 : b ≤ 9999
  case neg =>
    have HF : Hid (entOk (i, b, V) = false) := by show _ = _; rw [HE.out]; simp [inB]; omega
    go_enter Tryz.func95, Tryz.ntmps95
    go_wp2
    go_ret
    exact ⟨by rw [HF.out]; first | rfl | (simp; done) | (simp; omega), (Below.refl _ _).alloc (Nat.le_refl _) _⟩
  by_cases h5 : (len : Int) > 0
  case neg =>
    have HF : Hid (entOk (i, b, V) = false) := by show _ = _; rw [HE.out]; simp; omega
    have hz : len = 0 := by omega
    subst hz
    go_enter Tryz.func95, Tryz.ntmps95
    go_wp2
    go_ret
    exact ⟨by rw [HF.out]; first | rfl | simp, (Below.refl _ _).alloc (Nat.le_refl _) _⟩
  have HT : Hid (entOk (i, b, V) = c) := by show _ = _; rw [HE.out]; cases c <;> simp [inB] <;> omega
  have hl0 : 0 < len := by omega
  have hd0 : decide (0 < len) = true := decide_eq_true hl0
  have hd1 : decide (0 ≤ i) = true := decide_eq_true h1
  have hd2 : decide (i < 12) = true := decide_eq_true h2
  have hd3 : decide (1 ≤ b) = true := decide_eq_true h3
  have hd4 : decide (b ≤ 9999) = true := decide_eq_true h4
  go_enter Tryz.func95, Tryz.ntmps95
  go_wp2_with fail
  refine (CV.out _ ((Below.refl _ _).alloc (Nat.le_refl _) _)).mono ?_
  rintro e w' ⟨rfl, rfl⟩
  go_wp2
  go_ret
  exact ⟨by rw [HT.out]; rfl, (Below.refl _ _).alloc (Nat.le_refl _) _⟩

end Go.Proofs.YtplbfllhimcpiaaGreatDoor
