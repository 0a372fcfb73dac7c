/- DERIVED. The walks over votes: the program's and the model's. -/
import Derived.Test.YtplbfllhimcpiaaGreatDoorNumsAt
import Derived.Test.YtplbfllhimcpiaaGreatDoorVotePlain
import Derived.Below
import Derived.OwnWalk
import Derived.Deep.LoopGhost
import Derived.Deep.QuietTactic
import Derived.BigQuiet
namespace Go.Proofs.YtplbfllhimcpiaaGreatDoor
open Go.RowKit

set_option maxHeartbeats 400000 in
theorem isStatus_any (n : Int) (w : World) :
    Calls Tryz.prog 120 #[.int .i64 n] w fun e w' => e = .returned (.bool (decide (0 ≤ n) && decide (n ≤ 127))) ∧ w' = w := by
  by_cases h : 0 ≤ n
  · have hd : decide (0 ≤ n) = true := by simpa using h
    go_enter Tryz.func120, Tryz.ntmps120
    go_wp2
    go_ret
    refine ⟨?_, rfl⟩
    first | (simp [h]; done) | (simp; omega)
  · have hd : decide (0 ≤ n) = false := by simpa using h
    go_enter Tryz.func120, Tryz.ntmps120
    go_wp2
    go_ret
    refine ⟨?_, rfl⟩
    simp

set_option maxHeartbeats 400000 in
theorem isNoVote_any (n : Int) (w : World) :
    Calls Tryz.prog 101 #[.int .i64 n] w fun e w' => e = .returned (.bool (noVote n)) ∧ w' = w := by
  by_cases h : n = -1
  · subst h
    go_enter Tryz.func101, Tryz.ntmps101
    go_wp2
    go_ret
    exact ⟨rfl, rfl⟩
  · have h' : (n != -1) = true := by rw [bne_iff_ne]; exact h
    have HN : Hid (noVote n = !(decide (0 ≤ n) && decide (n ≤ 127))) := by show _ = _; simp [noVote, h]
    obtain ⟨c, hc⟩ : ∃ c, c = (decide (0 ≤ n) && decide (n ≤ 127)) := ⟨_, rfl⟩
    have CS : Hid (∀ w, Calls Tryz.prog 120 #[.int .i64 n] w fun e w' => e = .returned (.bool c) ∧ w' = w) := fun w => by rw [hc]; exact isStatus_any n w
    rw [← hc] at HN
    clear hc h
    go_enter Tryz.func101, Tryz.ntmps101
    go_wp2_with (go_at_call 120; refine (CS.out _).mono ?_; rintro e w' ⟨rfl, rfl⟩)
    go_ret
    exact ⟨by rw [HN.out]; rfl, rfl⟩

set_option maxRecDepth 100000 in
set_option maxHeartbeats 800000 in
theorem indexFunc_any (oa : Option Addr) (cap len : Nat) (V : List Int) (w : World) (hl : len = V.length) (hm : len ≤ 1048576) (h : NumsAt w oa V) :
    Calls Tryz.prog 119 #[.slice oa len cap, .func (.func 101) #[] #[]] w fun e w' => (∃ z : Int, e = .returned (.int .i64 z) ∧ Hid (decide (0 ≤ z) = V.any noVote)) ∧ w' = w := by
  have HV := hid h
  have HL := hid hl
  clear h hl
  go_enter Tryz.func119, Tryz.ntmps119
  go_wp2
  go_loop [8] (fun i => ∃ k : Nat, k ≤ len ∧ i = .int .i64 k ∧ (V.take k).any noVote = false) (fun i => len - (intOf i).toNat)
  case atStart => exact ⟨0, Nat.zero_le _, rfl, rfl⟩
  case round =>
    obtain ⟨k, hk, rfl, hp⟩ := hrel
    have HP : Hid ((V.take k).any noVote = false) := hp
    clear hp
    by_cases hlt : k < len
    · have hltI : (k : Int) < (len : Int) := by omega
      have hkv : k < V.length := by rw [← HL.out]; exact hlt
      obtain ⟨b, off, rfl, _, hc⟩ := HV.out k hkv
      obtain ⟨x, hx⟩ : ∃ x, x = V[k] := ⟨_, rfl⟩
      rw [← hx] at hc
      have HS : Hid ((V.take (k + 1)).any noVote = ((V.take k).any noVote || noVote x)) := by show _ = _; rw [any_take V noVote k hkv, hx]
      have HA : Hid (noVote x = true → V.any noVote = true) := fun h => any_of V noVote k hkv (by rw [← hx]; exact h)
      obtain ⟨c, hcx⟩ : ∃ c, c = noVote x := ⟨_, rfl⟩
      have CN : Hid (∀ w, Calls Tryz.prog 101 #[.int .i64 x] w fun e w' => e = .returned (.bool c) ∧ w' = w) := fun w => by rw [hcx]; exact isNoVote_any x w
      rw [← hcx] at HS HA
      clear hx hcx
      cases c
      · go_wp2_with (go_at_call 101; refine (CN.out _).mono ?_; rintro e w' ⟨rfl, rfl⟩)
        go_round
        case rel => exact ⟨k + 1, by omega, by go_num, by rw [HS.out, HP.out]; rfl⟩
        case measure => simp [intOf]; omega
      · go_wp2_with (go_at_call 101; refine (CN.out _).mono ?_; rintro e w' ⟨rfl, rfl⟩)
        go_ret
        refine ⟨⟨(k : Int), rfl, ?_⟩, rfl⟩
        show _ = _
        rw [HA.out (by first | rfl | trivial)]
        simp
    · have hltI : ¬ (k : Int) < (len : Int) := by omega
      have HE : Hid (V.any noVote = false) := by
        have := HP.out
        rw [List.take_of_length_le (by rw [← HL.out]; omega)] at this
        exact this
      go_wp2
      go_ret
      exact ⟨⟨-1, rfl, by show _ = _; rw [HE.out]; rfl⟩, rfl⟩

set_option maxHeartbeats 400000 in
theorem containsFunc_any (oa : Option Addr) (cap len : Nat) (V : List Int) (w : World) (hl : len = V.length) (hm : len ≤ 1048576) (h : NumsAt w oa V) :
    Calls Tryz.prog 100 #[.slice oa len cap, .func (.func 101) #[] #[]] w fun e w' => e = .returned (.bool (V.any noVote)) ∧ w' = w := by
  have CI := hid (indexFunc_any oa cap len V w hl hm h)
  clear h hl
  obtain ⟨c, hc⟩ : ∃ c, c = V.any noVote := ⟨_, rfl⟩
  rw [← hc] at CI ⊢
  clear hc
  go_enter Tryz.func100, Tryz.ntmps100
  go_wp2_with fail
  refine CI.out.mono ?_
  rintro e w' ⟨⟨z, rfl, hz⟩, rfl⟩
  by_cases h0 : 0 ≤ z
  · have hg : z ≥ 0 := h0
    have HC : Hid (c = true) := by show _ = _; rw [← hz.out]; exact decide_eq_true h0
    go_wp2
    go_ret
    exact ⟨by rw [HC.out]; simp, rfl⟩
  · have HC : Hid (c = false) := by show _ = _; rw [← hz.out]; exact decide_eq_false h0
    go_wp2
    go_ret
    exact ⟨by rw [HC.out]; simp; omega, rfl⟩

set_option maxHeartbeats 400000 in
theorem implVotesOk_any (oa : Option Addr) (cap len : Nat) (V : List Int) (w : World) (hl : len = V.length) (hm : len ≤ 1048576) (h : NumsAt w oa V) :
    Calls Tryz.prog 76 #[.slice oa len cap] w fun e w' => e = .returned (.bool (okV V)) ∧ w' = w := by
  obtain ⟨c, hc⟩ : ∃ c, c = V.any noVote := ⟨_, rfl⟩
  have CI : Hid (Calls Tryz.prog 100 #[.slice oa len cap, .func (.func 101) #[] #[]] w fun e w' => e = .returned (.bool c) ∧ w' = w) := by rw [hc]; exact containsFunc_any oa cap len V w hl hm h
  by_cases h3 : (len : Int) ≤ 3
  · have HK : Hid (okV V = !c) := by show _ = _; unfold okV; rw [hc, ← hl]; simp; omega
    have hd : decide (len ≤ 3) = true := by simp; omega
    clear hc h hl
    go_enter Tryz.func76, Tryz.ntmps76
    go_wp2_with fail
    refine CI.out.mono ?_
    rintro e w' ⟨rfl, rfl⟩
    go_wp2
    go_ret
    exact ⟨by rw [HK.out]; rfl, rfl⟩
  · have HK : Hid (okV V = false) := by show _ = _; unfold okV; rw [← hl]; simp; omega
    clear hc h hl
    go_enter Tryz.func76, Tryz.ntmps76
    go_wp2
    go_ret
    exact ⟨by rw [HK.out]; rfl, rfl⟩

end Go.Proofs.YtplbfllhimcpiaaGreatDoor
