/- DERIVED. The walks of the library's Cut and Split at a separator of one byte, and of the program's cutNums and numsOf. -/
import Derived.Test.YtahhjhhnjpbocaaDoorOpenEq
import Derived.Test.YtahhjhhnjpbocaaDoorOpenRows
import Derived.Test.YtahhjhhnjpbocaaDoorNumImpl
import Derived.Deep.QuietTactic
import Derived.BigQuiet
namespace Go.Proofs.YtahhjhhnjpbocaaDoor
open Go.RowKit

theorem below_drewn (w : World) (n : Nat) : Below w.heap.size w (w.drewN n) := below_drewN (Below.refl _ _) n

set_option maxRecDepth 100000 in
set_option maxHeartbeats 1000000 in
theorem liteCut_one (s : ByteArray) (c : UInt8) (w : World) (hs : s.size ≤ maxLen) :
    Calls Tryd.prog 67 #[.string s, .string ⟨#[c]⟩] w fun e w' => e = .returned (.tuple #[.string (mkB (Lib.cut s.data.toList [c]).1), .string (mkB (Lib.cut s.data.toList [c]).2.1), .bool (Lib.cut s.data.toList [c]).2.2]) ∧ Below w.heap.size w w' := by
  have hs' : s.size ≤ 2 ^ 63 - 1 := hs
  have hI := fun W => Go.Proofs.Tryd.stringslite_Index_one s c W
  rcases Lib.indexB_cases s ⟨#[c]⟩ with hix | ⟨i, hix, hroom⟩
  · obtain ⟨e1, e2, e3⟩ := Lib.cutB_miss s ⟨#[c]⟩ hix
    have e1' : mkB (Lib.cut s.data.toList [c]).1 = s := e1
    have e2' : mkB (Lib.cut s.data.toList [c]).2.1 = ⟨#[]⟩ := e2
    have e3' : (Lib.cut s.data.toList [c]).2.2 = false := e3
    rw [e1', e2', e3']
    have hj : Lib.indexByte s.data.toList c = -1 := by rw [← Lib.index_one]; exact hix
    rw [hj] at hI
    have HI := hid hI
    clear hI hj e1 e2 e3 e1' e2' e3' hix
    go_enter Tryd.func67, Tryd.ntmps67
    go_wp2_with fail
    refine (HI.out _).mono ?_
    rintro e w1 ⟨rfl, rfl⟩
    go_wp2
    go_ret3
    exact ⟨rfl, Below.refl _ _⟩
  · obtain ⟨e1, e2, e3⟩ := Lib.cutB_hit s ⟨#[c]⟩ i hix
    have e1' : mkB (Lib.cut s.data.toList [c]).1 = s.extract 0 i := e1
    have e2' : mkB (Lib.cut s.data.toList [c]).2.1 = s.extract (i + 1) s.size := e2
    have e3' : (Lib.cut s.data.toList [c]).2.2 = true := e3
    rw [e1', e2', e3']
    have hj : Lib.indexByte s.data.toList c = i := by rw [← Lib.index_one]; exact hix
    rw [hj] at hI
    have HI := hid hI
    have hr : i + 1 ≤ s.size := hroom
    have c0 : (0 : Int) ≤ ↑i := by omega
    have c2 : (↑i : Int) ≤ ↑s.size := by omega
    have c3 : (0 : Int) ≤ ↑i + 1 := by omega
    have c4 : (↑i + 1 : Int) ≤ ↑s.size := by omega
    have cw : IntKind.i64.wrap ((i : Int) + 1) = (i : Int) + 1 := by simp [IntKind.wrap, IntKind.bits, IntKind.signed]; omega
    have c5 : ((i : Int) + 1).toNat = i + 1 := by omega
    clear hI hj e1 e2 e3 e1' e2' e3' hix hroom
    go_enter Tryd.func67, Tryd.ntmps67
    go_wp2_with fail
    refine (HI.out _).mono ?_
    rintro e w1 ⟨rfl, rfl⟩
    go_wp2
    go_quiet (fail)
    go_wp2
    go_ret3
    exact ⟨rfl, below_drewn _ _⟩

set_option maxHeartbeats 600000 in
theorem cut_one (s : ByteArray) (c : UInt8) (w : World) (hs : s.size ≤ maxLen) :
    Calls Tryd.prog 59 #[.string s, .string ⟨#[c]⟩] w fun e w' => e = .returned (.tuple #[.string (mkB (Lib.cut s.data.toList [c]).1), .string (mkB (Lib.cut s.data.toList [c]).2.1), .bool (Lib.cut s.data.toList [c]).2.2]) ∧ Below w.heap.size w w' := by
  have HI := hid (fun W => liteCut_one s c W hs)
  obtain ⟨a, ha⟩ : ∃ a, a = mkB (Lib.cut s.data.toList [c]).1 := ⟨_, rfl⟩
  obtain ⟨b, hb⟩ : ∃ b, b = mkB (Lib.cut s.data.toList [c]).2.1 := ⟨_, rfl⟩
  obtain ⟨f, hf⟩ : ∃ f, f = (Lib.cut s.data.toList [c]).2.2 := ⟨_, rfl⟩
  rw [← ha, ← hb, ← hf] at HI ⊢
  clear ha hb hf
  go_enter Tryd.func59, Tryd.ntmps59
  go_wp2_with fail
  refine (HI.out _).mono ?_
  rintro e w1 ⟨rfl, hb1⟩
  have HB := hid hb1
  clear hb1
  go_wp2
  go_ret3
  exact ⟨rfl, HB.out⟩

theorem split_cells (s : ByteArray) (c : UInt8) : (Lib.splitB ⟨#[c]⟩ 0 (Lib.countB s ⟨#[c]⟩) s).map Value.string = (Lib.split s.data.toList [c]).map strV := by
  have h := Lib.splitB_data ⟨#[c]⟩ 0 (Lib.countB s ⟨#[c]⟩) s
  have h2 : Lib.split s.data.toList [c] = (Lib.splitB ⟨#[c]⟩ 0 (Lib.countB s ⟨#[c]⟩) s).map (·.data.toList) := h.symm
  rw [h2, List.map_map]
  apply List.map_congr_left
  intro b _
  show Value.string b = Value.string (mkB b.data.toList)
  rw [mkB_data]

set_option maxHeartbeats 1000000 in
theorem split_one (s : ByteArray) (c : UInt8) (w : World) (hs : s.size < 4294967281) :
    Calls Tryd.prog 44 #[.string s, .string ⟨#[c]⟩] w fun e w' => e = .returned (.slice (some ⟨w.heap.size, 0, none⟩) (Lib.split s.data.toList [c]).length (Lib.split s.data.toList [c]).length) ∧ w' = w.alloc (.cells ((Lib.split s.data.toList [c]).map strV).toArray 9) := by
  have h1 : 1 ≤ (⟨#[c]⟩ : ByteArray).size := Nat.le_refl 1
  have hle := Lib.countB_le ⟨#[c]⟩ h1 s.size s (Nat.le_refl _)
  have hlen := Lib.splitB_all ⟨#[c]⟩ h1 0 _ s rfl
  have hI : ∀ (x : ByteArray) (a : Array Value), x.size ≤ s.size → Calls Tryd.prog 71 #[.string x, .string ⟨#[c]⟩] (w.alloc (.cells a 9)) fun e w' => e = .returned (.int .i64 (Lib.indexB x ⟨#[c]⟩)) ∧ w' = w.alloc (.cells a 9) := fun x a _ => by
    have e : Lib.indexB x ⟨#[c]⟩ = Lib.indexByte x.data.toList c := Lib.index_one _ _
    rw [e]
    exact Go.Proofs.Tryd.strings_Index_one x c _
  have hC : Calls Tryd.prog 70 #[.string s, .string ⟨#[c]⟩] w fun e w' => e = .returned (.int .i64 (Lib.countB s ⟨#[c]⟩)) ∧ w' = w := by
    have e : Lib.countB s ⟨#[c]⟩ = Lib.countByte s.data.toList c := Lib.count_one _ _
    rw [e]
    exact Go.Proofs.Tryd.strings_Count_one s c w
  have h := Go.Proofs.Any.strings_genSplit_core Go.Proofs.Tryd.lays221 (by kernel_rfl) s ⟨#[c]⟩ 0 (-1) (Lib.countB s ⟨#[c]⟩ + 1) w hs h1 (Nat.zero_le _) hI hC (by decide) (by decide) (by rw [if_pos (by decide)]; omega)
  rw [Nat.add_sub_cancel, hlen] at h
  have e2 : Lib.cellsOf (Lib.splitB ⟨#[c]⟩ 0 (Lib.countB s ⟨#[c]⟩) s) (Lib.countB s ⟨#[c]⟩ + 1) = ((Lib.splitB ⟨#[c]⟩ 0 (Lib.countB s ⟨#[c]⟩) s).map Value.string).toArray := by rw [← hlen]; exact Lib.cellsOf_full _
  rw [e2, split_cells] at h
  have e3 : Lib.countB s ⟨#[c]⟩ + 1 = (Lib.split s.data.toList [c]).length := by
    have e4 := congrArg List.length (split_cells s c)
    rw [List.length_map, List.length_map] at e4
    rw [← hlen, e4]
  rw [e3] at h
  obtain ⟨L, hL⟩ : ∃ L, L = Lib.split s.data.toList [c] := ⟨_, rfl⟩
  rw [← hL] at h ⊢
  have H : Hid (Calls Tryd.prog 61 #[.string s, .string ⟨#[c]⟩, .int .i64 0, .int .i64 (-1)] w fun e w' => e = .returned (.slice (some ⟨w.heap.size, 0, none⟩) L.length L.length) ∧ w' = w.alloc (.cells (L.map strV).toArray 9)) := h
  clear h e2 e3 hI hC hle hlen hL
  go_enter Tryd.func44, Tryd.ntmps44
  go_wp2_with fail
  refine H.out.mono ?_
  rintro e w1 ⟨rfl, hw⟩
  have HW := hid hw
  clear hw H
  go_wp2
  go_ret
  exact ⟨rfl, HW.out⟩

set_option maxHeartbeats 800000 in
theorem numsOf_yes (s : ByteArray) (a b : Int) (w : World) (hs : s.size ≤ maxLen) (h : numsI s.data.toList = some (a, b)) :
    Calls Tryd.prog 45 #[.string s] w fun e w' => e = .returned (.tuple #[.int .i64 a, .int .i64 b, .bool true]) ∧ Below w.heap.size w w' := by
  have HI := hid (fun W => cut_one s 45 W hs)
  unfold numsI at h
  obtain ⟨p, hp⟩ : ∃ p, p = (Lib.cut s.data.toList [45]).1 := ⟨_, rfl⟩
  obtain ⟨q, hq⟩ : ∃ q, q = (Lib.cut s.data.toList [45]).2.1 := ⟨_, rfl⟩
  obtain ⟨f, hf⟩ : ∃ f, f = (Lib.cut s.data.toList [45]).2.2 := ⟨_, rfl⟩
  rw [← hp, ← hq, ← hf] at HI h
  clear hp hq hf
  by_cases h1 : isNum p = true
  · rw [if_pos h1] at h
    have HP : Hid (∀ W, Calls Tryd.prog 62 #[.string (mkB p)] W fun e w' => e = .returned (.tuple #[.int .i64 (numOf p), .bool true]) ∧ w' = W) := fun W => by
      have := number_yes (mkB p) W (by rw [mkB_list]; exact h1)
      rw [mkB_list] at this; exact this
    cases f
    · rw [if_neg (by decide)] at h
      injection h with h
      injection h with ha hb
      rw [ha] at HP hb
      subst hb
      clear ha h1
      go_enter Tryd.func45, Tryd.ntmps45
      go_wp2_with fail
      refine (HI.out _).mono ?_
      rintro e w1 ⟨rfl, hb1⟩
      have HB := hid hb1
      clear hb1
      go_wp2_with fail
      refine (HP.out _).mono ?_
      rintro e w2 ⟨rfl, rfl⟩
      go_wp2
      go_ret3
      exact ⟨rfl, HB.out⟩
    · rw [if_pos rfl] at h
      by_cases h2 : isNum q = true
      · rw [if_pos h2] at h
        injection h with h
        injection h with ha hb
        have HQ : Hid (∀ W, Calls Tryd.prog 62 #[.string (mkB q)] W fun e w' => e = .returned (.tuple #[.int .i64 (numOf q), .bool true]) ∧ w' = W) := fun W => by
          have := number_yes (mkB q) W (by rw [mkB_list]; exact h2)
          rw [mkB_list] at this; exact this
        rw [ha] at HP
        rw [hb] at HQ
        clear ha hb h1 h2
        go_enter Tryd.func45, Tryd.ntmps45
        go_wp2_with fail
        refine (HI.out _).mono ?_
        rintro e w1 ⟨rfl, hb1⟩
        have HB := hid hb1
        clear hb1
        go_wp2_with fail
        refine (HP.out _).mono ?_
        rintro e w2 ⟨rfl, rfl⟩
        go_wp2_with fail
        refine (HQ.out _).mono ?_
        rintro e w2 ⟨rfl, rfl⟩
        go_wp2
        go_ret3
        exact ⟨rfl, HB.out⟩
      · rw [if_neg h2] at h; cases h
  · rw [if_neg h1] at h; cases h

set_option maxHeartbeats 800000 in
theorem numsOf_no (s : ByteArray) (w : World) (hs : s.size ≤ maxLen) (h : numsI s.data.toList = none) :
    Calls Tryd.prog 45 #[.string s] w fun e w' => (∃ a b : Int, e = .returned (.tuple #[.int .i64 a, .int .i64 b, .bool false])) ∧ Below w.heap.size w w' := by
  have HI := hid (fun W => cut_one s 45 W hs)
  have hl := cut_len s.data.toList 45
  have hsz : s.data.toList.length = s.size := by simp
  unfold numsI at h
  obtain ⟨p, hp⟩ : ∃ p, p = (Lib.cut s.data.toList [45]).1 := ⟨_, rfl⟩
  obtain ⟨q, hq⟩ : ∃ q, q = (Lib.cut s.data.toList [45]).2.1 := ⟨_, rfl⟩
  obtain ⟨f, hf⟩ : ∃ f, f = (Lib.cut s.data.toList [45]).2.2 := ⟨_, rfl⟩
  rw [← hp, ← hq] at hl
  rw [← hp, ← hq, ← hf] at HI h
  have hps : (mkB p).size ≤ maxLen := by rw [mkB_size]; exact Nat.le_trans hl.1 (by rw [hsz]; exact hs)
  have hqs : (mkB q).size ≤ maxLen := by rw [mkB_size]; exact Nat.le_trans hl.2.1 (by rw [hsz]; exact hs)
  clear hp hq hf hl hsz
  by_cases h1 : isNum p = true
  · rw [if_pos h1] at h
    have HP : Hid (∀ W, Calls Tryd.prog 62 #[.string (mkB p)] W fun e w' => e = .returned (.tuple #[.int .i64 (numOf p), .bool true]) ∧ w' = W) := fun W => by
      have := number_yes (mkB p) W (by rw [mkB_list]; exact h1)
      rw [mkB_list] at this; exact this
    cases f
    · rw [if_neg (by decide)] at h; cases h
    · rw [if_pos rfl] at h
      by_cases h2 : isNum q = true
      · rw [if_pos h2] at h; cases h
      · have h2' : isNum q = false := by simpa using h2
        have HQ : Hid (∀ W, Calls Tryd.prog 62 #[.string (mkB q)] W fun e w' => e = .returned (.tuple #[.int .i64 0, .bool false]) ∧ w' = W) := fun W => number_no (mkB q) W hqs (by rw [mkB_list]; exact h2')
        clear h1 h2 h2' h
        go_enter Tryd.func45, Tryd.ntmps45
        go_wp2_with fail
        refine (HI.out _).mono ?_
        rintro e w1 ⟨rfl, hb1⟩
        have HB := hid hb1
        clear hb1
        go_wp2_with fail
        refine (HP.out _).mono ?_
        rintro e w2 ⟨rfl, rfl⟩
        go_wp2_with fail
        refine (HQ.out _).mono ?_
        rintro e w2 ⟨rfl, rfl⟩
        go_wp2
        go_ret3
        exact ⟨⟨_, _, rfl⟩, HB.out⟩
  · have h1' : isNum p = false := by simpa using h1
    have HP : Hid (∀ W, Calls Tryd.prog 62 #[.string (mkB p)] W fun e w' => e = .returned (.tuple #[.int .i64 0, .bool false]) ∧ w' = W) := fun W => number_no (mkB p) W hps (by rw [mkB_list]; exact h1')
    clear h1 h1' h
    cases f
    all_goals
      go_enter Tryd.func45, Tryd.ntmps45
      go_wp2_with fail
      refine (HI.out _).mono ?_
      rintro e w1 ⟨rfl, hb1⟩
      have HB := hid hb1
      clear hb1
      go_wp2_with fail
      refine (HP.out _).mono ?_
      rintro e w2 ⟨rfl, rfl⟩
      go_wp2
      go_ret3
      exact ⟨⟨_, _, rfl⟩, HB.out⟩

set_option maxHeartbeats 800000 in
theorem cutNums_any (s : ByteArray) (w : World) (hs : s.size ≤ maxLen) :
    Calls Tryd.prog 43 #[.string s] w fun e w' => e = .returned (.tuple #[.string (mkB (cutI s.data.toList).1), .string (mkB (cutI s.data.toList).2)]) ∧ Below w.heap.size w w' := by
  have HP := hid (fun W => Go.Proofs.Tryd.strings_CutPrefix s ⟨#[91]⟩ W)
  have hsz : s.data.toList.length = s.size := by simp
  have e91 : (⟨#[91]⟩ : ByteArray).data.toList = [91] := rfl
  rw [e91] at HP
  cases hp : Lib.hasPrefix s.data.toList [91]
  · have HC := hid (fun W => cut_one s 44 W hs)
    have e1 : cutI s.data.toList = ((Lib.cut s.data.toList [44]).1, (Lib.cut s.data.toList [44]).2.1) := by unfold cutI; rw [if_neg (by rw [hp]; decide)]
    rw [e1]
    rw [hp] at HP
    obtain ⟨t, ht⟩ : ∃ t, t = Lib.trimPrefix s.data.toList [91] := ⟨_, rfl⟩
    rw [← ht] at HP
    obtain ⟨p, hp⟩ : ∃ p, p = mkB (Lib.cut s.data.toList [44]).1 := ⟨_, rfl⟩
    obtain ⟨q, hq⟩ : ∃ q, q = mkB (Lib.cut s.data.toList [44]).2.1 := ⟨_, rfl⟩
    obtain ⟨f, hf⟩ : ∃ f, f = (Lib.cut s.data.toList [44]).2.2 := ⟨_, rfl⟩
    dsimp only
    rw [← hp, ← hq, ← hf] at HC
    rw [← hp, ← hq]
    clear hp hq hf ht e1 hsz e91
    go_enter Tryd.func43, Tryd.ntmps43
    go_wp2_with fail
    refine (HP.out _).mono ?_
    rintro e w1 ⟨rfl, rfl⟩
    go_wp2_with fail
    refine (HC.out _).mono ?_
    rintro e w1 ⟨rfl, hb1⟩
    have HB := hid hb1
    clear hb1
    go_wp2
    go_ret2
    exact ⟨rfl, HB.out⟩
  · obtain ⟨t, ht⟩ : ∃ t, t = Lib.trimPrefix s.data.toList [91] := ⟨_, rfl⟩
    have htl : t.length ≤ s.size := by rw [ht, ← hsz]; exact trim_len _ _
    have hts : (mkB t).size ≤ maxLen := by rw [mkB_size]; exact Nat.le_trans htl hs
    have HC := hid (fun W => cut_one (mkB t) 93 W hts)
    rw [mkB_list] at HC
    have e1 : cutI s.data.toList = ((Lib.cut t [93]).1, Lib.trimPrefix (Lib.cut t [93]).2.1 [44]) := by unfold cutI; rw [if_pos hp, ht]
    rw [e1]
    rw [hp, ← ht] at HP
    obtain ⟨p, hp⟩ : ∃ p, p = mkB (Lib.cut t [93]).1 := ⟨_, rfl⟩
    obtain ⟨q, hq⟩ : ∃ q, q = (Lib.cut t [93]).2.1 := ⟨_, rfl⟩
    obtain ⟨f, hf⟩ : ∃ f, f = (Lib.cut t [93]).2.2 := ⟨_, rfl⟩
    dsimp only
    rw [← hp, ← hq, ← hf] at HC
    rw [← hp, ← hq]
    have HT := hid (fun W => Go.Proofs.Tryd.strings_TrimPrefix (mkB q) ⟨#[44]⟩ W)
    have e44 : (⟨#[44]⟩ : ByteArray).data.toList = [44] := rfl
    rw [e44, mkB_list] at HT
    have HP2 : Hid (∀ W, Calls Tryd.prog 58 #[.string s, .string ⟨#[91]⟩] W fun e w' => e = .returned (.tuple #[.string (mkB t), .bool true]) ∧ w' = W) := HP.out
    have HT2 : Hid (∀ W, Calls Tryd.prog 60 #[.string (mkB q), .string ⟨#[44]⟩] W fun e w' => e = .returned (.string (mkB (Lib.trimPrefix q [44]))) ∧ w' = W) := HT.out
    obtain ⟨r, hr⟩ : ∃ r, r = mkB (Lib.trimPrefix q [44]) := ⟨_, rfl⟩
    rw [← hr] at HT2 ⊢
    clear hp hq hf ht e1 hsz e91 e44 HP HT hr htl
    go_enter Tryd.func43, Tryd.ntmps43
    go_wp2_with fail
    refine (HP2.out _).mono ?_
    rintro e w1 ⟨rfl, rfl⟩
    go_wp2_with fail
    refine (HC.out _).mono ?_
    rintro e w1 ⟨rfl, hb1⟩
    have HB := hid hb1
    clear hb1
    go_wp2_with fail
    refine (HT2.out _).mono ?_
    rintro e w2 ⟨rfl, rfl⟩
    go_wp2
    go_ret2
    exact ⟨rfl, HB.out⟩

end Go.Proofs.YtahhjhhnjpbocaaDoor
