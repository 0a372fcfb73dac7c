/- DERIVED. The walks of LogTear: the program's and the model's, exactly. -/
import Derived.Test.YtmafkelegjjnfaeDoorLogAdd
import Derived.Laws.IdiomStrings
namespace Go.Proofs.YtmafkelegjjnfaeDoor
open Go.RowKit

/-- How many bytes of m are written: none below 0, all at most. -/
def tearN (n : Int) (m : Nat) : Nat := if n < 0 then 0 else if (m : Int) < n then m else n.toNat

/-- A log with a part of a record more. -/
def tearS (log r : ByteArray) (n : Int) : ByteArray := if addOk log r = true then log ++ (putR r).extract 0 (tearN n (putR r).size) else log

theorem ext_list (s : ByteArray) (i j : Nat) : (s.extract i j).data.toList = (s.data.toList.drop i).take (j - i) := by
  simp [ByteArray.data_extract, List.extract]

theorem app_list (a b : ByteArray) : (a ++ b).data.toList = a.data.toList ++ b.data.toList := by
  simp [ByteArray.data_append]

theorem list_size (a : ByteArray) : a.data.toList.length = a.size := by simp

theorem ext_ahead (a b : ByteArray) (k : Nat) : (a ++ b).extract 0 (a.size + k) = a ++ b.extract 0 k := by
  apply Go.WideShapes.bytes_inj
  rw [ext_list, app_list, app_list, ext_list, List.drop_zero, List.drop_zero, Nat.sub_zero, Nat.sub_zero, ← list_size a, List.take_length_add_append]

theorem ext_behind (a b : ByteArray) : (a ++ b).extract a.size (a ++ b).size = b := by
  apply Go.WideShapes.bytes_inj
  have e : (a ++ b).size - a.size = b.data.toList.length := by rw [ByteArray.size_append, list_size]; omega
  rw [ext_list, app_list, e, ← list_size a, List.drop_left, List.take_length]

theorem tear_low {n : Int} {m : Nat} (h : n < 0) : tearN n m = 0 := if_pos h
theorem tear_high {n : Int} {m : Nat} (h0 : ¬ n < 0) (h : (m : Int) < n) : tearN n m = m := by unfold tearN; rw [if_neg h0, if_pos h]
theorem tear_in {n : Int} {m : Nat} (h0 : ¬ n < 0) (h : ¬ (m : Int) < n) : tearN n m = n.toNat := by unfold tearN; rw [if_neg h0, if_neg h]

set_option maxHeartbeats 800000 in
theorem l10Tear_any (log p : ByteArray) (n : Int) (w : World) (hl : log.size ≤ 6000) (hp : p.size ≤ 6000) :
    Calls Tryd.prog 14 #[.string log, .string p, .int .i64 n] w fun e w' => e = .returned (.string (log ++ p.extract 0 (tearN n p.size))) ∧ w' = w := by
  by_cases h0 : n < 0
  · have HT : Hid (log ++ p.extract 0 (tearN n p.size) = log) := by show _ = _; rw [tear_low h0]; simp
    have he0 : ByteArray.empty.size = 0 := rfl
    have hadd := fun W => run_string_add_sum (P := Tryd.prog) (w := W) log ByteArray.empty (by omega)
    go_enter Tryd.func14, Tryd.ntmps14
    go_wp2
    go_ret
    exact ⟨by rw [HT.out]; rfl, rfl⟩
  · by_cases h1 : (p.size : Int) < n
    · have HT : Hid (log ++ p.extract 0 (tearN n p.size) = log ++ p) := by show _ = _; rw [tear_high h0 h1]; simp
      have hadd := fun W => run_string_add_sum (P := Tryd.prog) (w := W) log p (by omega)
      go_enter Tryd.func14, Tryd.ntmps14
      go_wp2
      go_ret
      exact ⟨by rw [HT.out]; rfl, rfl⟩
    · obtain ⟨k, rfl⟩ : ∃ k : Nat, n = (k : Int) := ⟨n.toNat, by omega⟩
      have hk : k ≤ p.size := by omega
      have HT : Hid (log ++ p.extract 0 (tearN (k : Int) p.size) = log ++ p.extract 0 k) := by show _ = _; rw [tear_in h0 h1]; rfl
      have hadd := fun W => run_string_add_sum (P := Tryd.prog) (w := W) log (p.extract 0 k) (by rw [ByteArray.size_extract]; omega)
      go_enter Tryd.func14, Tryd.ntmps14
      go_wp2
      go_ret
      exact ⟨by rw [HT.out]; rfl, rfl⟩

theorem addOk_size {log r : ByteArray} (h : addOk log r = true) : log.size ≤ 6000 ∧ (putR r).size ≤ 6000 := by
  simp [addOk] at h
  omega

set_option maxRecDepth 100000 in
set_option maxHeartbeats 800000 in
theorem specTear_any (log r : ByteArray) (n : Int) (w : World) (hl : log.size ≤ 1048576) (hr : r.size ≤ 1048576) :
    Calls Tryd.prog 6 #[.string log, .string r, .int .i64 n] w fun e w' => e = .returned (.string (tearS log r n)) ∧ Below w.heap.size w w' := by
  have CA : Hid (∀ w, Calls Tryd.prog 13 #[.string log, .string r] w fun e w' => e = .returned (.tuple #[.string (addS log r), .bool (addOk log r)]) ∧ Below w.heap.size w w') := fun w => specAdd_any log r w hl hr
  cases hk : addOk log r
  · have HS : Hid (tearS log r n = log) := if_neg (by rw [hk]; decide)
    rw [hk] at CA
    clear hk
    go_enter Tryd.func6, Tryd.ntmps6
    go_wp2_with fail
    refine (CA.out _).mono ?_
    rintro e w1 ⟨rfl, hb⟩
    have HB := hid hb
    clear hb
    go_wp2
    go_ret
    exact ⟨by rw [HS.out]; rfl, HB.out⟩
  · have hsz := addOk_size hk
    have HS : Hid (tearS log r n = log ++ (putR r).extract 0 (tearN n (putR r).size)) := if_pos hk
    have ha : addS log r = log ++ putR r := if_pos hk
    rw [hk, ha] at CA
    obtain ⟨p, hp⟩ : ∃ p, p = putR r := ⟨_, rfl⟩
    rw [← hp] at CA HS hsz
    have he := ext_behind log p
    have hlz : log.size ≤ (log ++ p).size := by rw [ByteArray.size_append]; omega
    have hlz2 : (log ++ p).size ≤ 12000 := by rw [ByteArray.size_append]; omega
    obtain ⟨q, hq⟩ : ∃ q, q = log ++ p := ⟨_, rfl⟩
    rw [← hq] at CA he hlz hlz2
    have CT : Hid (∀ w, Calls Tryd.prog 14 #[.string log, .string p, .int .i64 n] w fun e w' => e = .returned (.string (log ++ p.extract 0 (tearN n p.size))) ∧ w' = w) := fun w => l10Tear_any log p n w hsz.1 hsz.2
    rw [← HS.out] at CT
    clear hk ha hp HS hq
    go_enter Tryd.func6, Tryd.ntmps6
    go_wp2_with fail
    refine (CA.out _).mono ?_
    rintro e w1 ⟨rfl, hb⟩
    have HB := hid hb
    clear hb
    go_wp2_with fail
    refine (CT.out _).mono ?_
    rintro e w2 ⟨rfl, rfl⟩
    go_wp2
    go_ret
    exact ⟨rfl, HB.out⟩

set_option maxRecDepth 100000 in
set_option maxHeartbeats 800000 in
theorem implTear_any (log r : ByteArray) (n : Int) (w : World) (hl : log.size ≤ 1048576) (hr : r.size ≤ 1048576) (ht : Tab w) :
    Calls Tryd.prog 5 #[.string log, .string r, .int .i64 n] w fun e w' => e = .returned (.string (tearS log r n)) ∧ Below w.heap.size w w' := by
  have CA : Hid (∀ w, Tab w → Calls Tryd.prog 8 #[.string log, .string r] w fun e w' => e = .returned (.tuple #[.string (addS log r), .bool (addOk log r)]) ∧ Below w.heap.size w w') := fun w ht => implAdd_any log r w hl hr ht
  have HT := hid ht
  clear ht
  cases hk : addOk log r
  · have HS : Hid (tearS log r n = log) := if_neg (by rw [hk]; decide)
    rw [hk] at CA
    clear hk
    go_enter Tryd.func5, Tryd.ntmps5
    go_wp2_with fail
    refine (CA.out _ HT.out).mono ?_
    rintro e w1 ⟨rfl, hb⟩
    have HB := hid hb
    clear hb
    go_wp2
    go_ret
    exact ⟨by rw [HS.out]; rfl, HB.out⟩
  · have hsz := addOk_size hk
    have HS : Hid (tearS log r n = log ++ (putR r).extract 0 (tearN n (putR r).size)) := if_pos hk
    have ha : addS log r = log ++ putR r := if_pos hk
    rw [hk, ha] at CA
    obtain ⟨p, hp⟩ : ∃ p, p = putR r := ⟨_, rfl⟩
    rw [← hp] at CA HS hsz
    have hqz : (log ++ p).size = log.size + p.size := by rw [ByteArray.size_append]
    have HX : Hid (∀ k, (log ++ p).extract 0 (log.size + k) = log ++ p.extract 0 k) := ext_ahead log p
    obtain ⟨q, hq⟩ : ∃ q, q = log ++ p := ⟨_, rfl⟩
    rw [← hq] at CA hqz HX
    clear hk ha hp hq
    by_cases h0 : n < 0
    · have HS2 : Hid (tearS log r n = q.extract 0 (log.size + 0)) := by show _ = _; rw [HS.out, tear_low h0, ← HX.out]
      go_enter Tryd.func5, Tryd.ntmps5
      go_wp2_with fail
      refine (CA.out _ HT.out).mono ?_
      rintro e w1 ⟨rfl, hb⟩
      have HB := hid hb
      clear hb
      go_wp2
      go_ret
      refine ⟨congrArg (fun x => Ending.returned (.string x)) (?_ : _ = tearS log r n), HB.out⟩
      rw [HS2.out]
      congr 1
      omega
    · by_cases h1 : (p.size : Int) < n
      · have HS2 : Hid (tearS log r n = q.extract 0 (log.size + p.size)) := by show _ = _; rw [HS.out, tear_high h0 h1, HX.out]
        go_enter Tryd.func5, Tryd.ntmps5
        go_wp2_with fail
        refine (CA.out _ HT.out).mono ?_
        rintro e w1 ⟨rfl, hb⟩
        have HB := hid hb
        clear hb
        go_wp2
        go_ret
        refine ⟨congrArg (fun x => Ending.returned (.string x)) (?_ : _ = tearS log r n), HB.out⟩
        rw [HS2.out]
        congr 1
        omega
      · obtain ⟨k, rfl⟩ : ∃ k : Nat, n = (k : Int) := ⟨n.toNat, by omega⟩
        have hk : k ≤ p.size := by omega
        have HS2 : Hid (tearS log r (k : Int) = q.extract 0 (log.size + k)) := by show _ = _; rw [HS.out, tear_in h0 h1, HX.out]; rfl
        go_enter Tryd.func5, Tryd.ntmps5
        go_wp2_with fail
        refine (CA.out _ HT.out).mono ?_
        rintro e w1 ⟨rfl, hb⟩
        have HB := hid hb
        clear hb
        go_wp2
        go_ret
        refine ⟨congrArg (fun x => Ending.returned (.string x)) (?_ : _ = tearS log r (k : Int)), HB.out⟩
        rw [HS2.out]
        congr 1
        omega

end Go.Proofs.YtmafkelegjjnfaeDoor
