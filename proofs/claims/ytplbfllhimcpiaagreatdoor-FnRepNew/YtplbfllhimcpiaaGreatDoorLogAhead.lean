/- DERIVED. The walk of reading one record: the program's. -/
import Derived.Test.YtplbfllhimcpiaaGreatDoorLogOne
import Derived.Test.YtplbfllhimcpiaaGreatDoorLogWalks
import Derived.Test.YtplbfllhimcpiaaGreatDoorCutLite
import Derived.Test.YtplbfllhimcpiaaGreatDoorNumImpl
namespace Go.Proofs.YtplbfllhimcpiaaGreatDoor
open Go.RowKit

/-- Does a text begin with another one? -/
def begins (s p : ByteArray) : Bool := decide (p.size ≤ s.size) && ((s.extract 0 p.size).toList == p.toList)

set_option maxHeartbeats 400000 in
theorem liteHas_any (s p : ByteArray) (w : World) :
    Calls Tryz.prog 146 #[.string s, .string p] w fun e w' => e = .returned (.bool (begins s p)) ∧ w' = w := by
  by_cases h : p.size ≤ s.size
  · have hI : (p.size : Int) ≤ (s.size : Int) := by omega
    have HE : Hid (begins s p = ((s.extract 0 p.size).toList == p.toList)) := by show _ = _; simp [begins, h]
    cases hc : ((s.extract 0 p.size).toList == p.toList)
    all_goals
      have HC := hid hc
      go_enter Tryz.func146, Tryz.ntmps146
      go_wp2
      go_ret
      exact ⟨by rw [HE.out, HC.out]; rfl, rfl⟩
  · have HE : Hid (begins s p = false) := by show _ = _; simp [begins, h]
    have hI : ¬ (p.size : Int) ≤ (s.size : Int) := by omega
    go_enter Tryz.func146, Tryz.ntmps146
    go_wp2
    go_ret
    exact ⟨by rw [HE.out]; rfl, rfl⟩

set_option maxHeartbeats 400000 in
theorem has_any (s p : ByteArray) (w : World) :
    Calls Tryz.prog 132 #[.string s, .string p] w fun e w' => e = .returned (.bool (begins s p)) ∧ w' = w := by
  go_enter Tryz.func132, Tryz.ntmps132
  go_wp2_with (go_at_call 146; refine (liteHas_any _ _ _).mono ?_; rintro e w' ⟨rfl, rfl⟩)
  go_ret
  exact ⟨rfl, rfl⟩

theorem begins_iff (s p : ByteArray) : begins s p = true ↔ ∃ t, s.data.toList = p.data.toList ++ t := by
  unfold begins
  rw [Bool.and_eq_true, decide_eq_true_eq, beq_iff_eq, ByteArray.toList_eq, ByteArray.toList_eq]
  have hl : p.data.toList.length = p.size := by simp
  have e1 : (s.extract 0 p.size).data.toList = s.data.toList.take p.size := by rw [← mkB_list (s.data.toList.take p.size)]; rw [← List.drop_zero (l := s.data.toList.take p.size), mkB_extract]
  rw [e1]
  constructor
  · rintro ⟨_, h⟩
    exact ⟨s.data.toList.drop p.size, by rw [← h, List.take_append_drop]⟩
  · rintro ⟨t, h⟩
    refine ⟨?_, by rw [h, ← hl, List.take_left]⟩
    have := congrArg List.length h
    simp at this
    omega

/-- What reading one record answers: the record, if there is one. -/
def AheadOut (s x : ByteArray) (b : Bool) : Prop := (b = false ∧ oneR s = none) ∨ (b = true ∧ oneR s = some x)

theorem ext_take (b : List UInt8) (k : Nat) : (mkB b).extract 0 k = mkB (b.take k) := by
  rw [← mkB_extract]
  simp [mkB_list]

theorem ahead_hit {s : ByteArray} {a b : List UInt8} {k : Nat} (hsl : s.data.toList = a ++ 58 :: b) (ha : ∀ x ∈ a, x ≠ 58) (hk : numOf a = (k : Int)) (hkb : k ≤ b.length) (hr : recOk (mkB (b.take k)) = true) :
    AheadOut s (mkB (b.take k)) (begins s (putR (mkB (b.take k)))) := by
  have hsz : (mkB (b.take k)).size = k := by rw [mkB_size, List.length_take]; omega
  cases hb : begins s (putR (mkB (b.take k)))
  · left
    refine ⟨rfl, ?_⟩
    cases ho : oneR s with
    | none => rfl
    | some r =>
      exfalso
      have hr2 := ho
      rw [oneR_hit hsl ha] at hr2
      unfold oneL at hr2
      split at hr2
      · injection hr2 with hr2
        rw [hk, show ((k : Nat) : Int).toNat = k from rfl] at hr2
        obtain ⟨_, t, e⟩ := one_some ho
        rw [← hr2] at e
        rw [(begins_iff s _).2 ⟨t, e⟩] at hb
        cases hb
      · cases hr2
  · right
    obtain ⟨t, e⟩ := (begins_iff s _).1 hb
    exact ⟨rfl, one_of _ t s hr e⟩

theorem ahead_long {s : ByteArray} {a b : List UInt8} (hsl : s.data.toList = a ++ 58 :: b) (ha : ∀ x ∈ a, x ≠ 58) (h : ¬ (1 ≤ numOf a ∧ numOf a ≤ b.length ∧ recOk (mkB (b.take (numOf a).toNat)) = true)) : oneR s = none := by
  rw [oneR_hit hsl ha]
  unfold oneL
  rw [if_neg]
  rintro ⟨h1, h2, _, h4⟩
  exact h ⟨h1, by omega, h4⟩

theorem recOk_empty : recOk ⟨#[]⟩ = false := by rfl

set_option maxRecDepth 100000 in
set_option maxHeartbeats 1600000 in
theorem recordAhead_any (s : ByteArray) (w : World) (hs : s.size ≤ 6000) (ht : Tab w) :
    Calls Tryz.prog 107 #[.string s] w fun e w' => (∃ x b, e = .returned (.tuple #[.string x, .bool b]) ∧ Hid (AheadOut s x b)) ∧ Below w.heap.size w w' := by
  have hsm : s.size ≤ maxLen := by unfold maxLen; omega
  have HT := hid ht
  clear ht
  rcases first_at 58 s.data.toList with hmiss | ⟨a, b, hsl, ha⟩
  · have HM : Hid (oneR s = none) := oneR_miss hmiss
    have CC : Hid (∀ w, Calls Tryz.prog 130 #[.string s, .string ⟨#[58]⟩] w fun e w' => e = .returned (.tuple #[.string s, .string ⟨#[]⟩, .bool false]) ∧ Below w.heap.size w w') := fun w => by
      have := cut_one s 58 w hsm
      rw [cut_miss _ _ hmiss, mkB_data] at this
      exact this
    clear hmiss
    cases hn : isNum s.data.toList
    · have HN := hid hn
      clear hn
      go_enter Tryz.func107, Tryz.ntmps107
      go_wp2_with fail
      refine (CC.out _).mono ?_
      rintro e w1 ⟨rfl, hb⟩
      have HB := hid hb
      clear hb
      go_wp2_with (go_at_call 131; refine (number_no s _ hsm HN.out).mono ?_; rintro e w' ⟨rfl, rfl⟩)
      go_ret2
      exact ⟨⟨_, _, rfl, hid (Or.inl ⟨rfl, HM.out⟩)⟩, HB.out⟩
    · have hbd := numOf_yes _ hn
      have HN := hid hn
      obtain ⟨k, hk⟩ : ∃ k : Nat, numOf s.data.toList = (k : Int) := ⟨(numOf s.data.toList).toNat, by omega⟩
      have CN : Hid (∀ w, Calls Tryz.prog 131 #[.string s] w fun e w' => e = .returned (.tuple #[.int .i64 (k : Int), .bool true]) ∧ w' = w) := fun w => by
        have := number_yes s w HN.out
        rw [hk] at this; exact this
      clear hn hbd hk
      by_cases h0 : (0 : Int) < (k : Int)
      · go_enter Tryz.func107, Tryz.ntmps107
        go_wp2_with fail
        refine (CC.out _).mono ?_
        rintro e w1 ⟨rfl, hb⟩
        have HB := hid hb
        clear hb
        go_wp2_with (go_at_call 131; refine (CN.out _).mono ?_; rintro e w' ⟨rfl, rfl⟩)
        go_ret2
        exact ⟨⟨_, _, rfl, hid (Or.inl ⟨rfl, HM.out⟩)⟩, HB.out⟩
      · obtain rfl : k = 0 := by omega
        have CR : Hid (∀ w, Calls Tryz.prog 118 #[.string ⟨#[]⟩] w fun e w' => e = .returned (.bool false) ∧ w' = w) := fun w => by
          have := isRecord_any ⟨#[]⟩ w (by decide)
          rw [recOk_empty] at this; exact this
        go_enter Tryz.func107, Tryz.ntmps107
        go_wp2_with fail
        refine (CC.out _).mono ?_
        rintro e w1 ⟨rfl, hb⟩
        have HB := hid hb
        clear hb
        go_wp2_with (first
          | (go_at_call 131; refine (CN.out _).mono ?_; rintro e w' ⟨rfl, rfl⟩)
          | (go_at_call 118; refine (CR.out _).mono ?_; rintro e w' ⟨rfl, rfl⟩))
        go_ret2
        exact ⟨⟨_, _, rfl, hid (Or.inl ⟨rfl, HM.out⟩)⟩, HB.out⟩
  · have hsz : a.length + b.length + 1 = s.size := by
      have := congrArg List.length hsl
      simp at this
      omega
    have hA := mkB_size a
    have hBs := mkB_size b
    have CC : Hid (∀ w, Calls Tryz.prog 130 #[.string s, .string ⟨#[58]⟩] w fun e w' => e = .returned (.tuple #[.string (mkB a), .string (mkB b), .bool true]) ∧ Below w.heap.size w w') := fun w => by
      have := cut_one s 58 w hsm
      rw [hsl, cut_hit _ _ _ ha] at this
      exact this
    have HL := hid (ahead_long hsl ha)
    have HSL := hid hsl
    have HA0 := hid ha
    cases hn : isNum a
    · have CN : Hid (∀ w, Calls Tryz.prog 131 #[.string (mkB a)] w fun e w' => e = .returned (.tuple #[.int .i64 0, .bool false]) ∧ w' = w) := fun w => number_no (mkB a) w (by unfold maxLen; omega) (by rw [mkB_list]; exact hn)
      have HN : Hid (oneR s = none) := HL.out (by rw [numOf_no a hn]; omega)
      obtain ⟨A, hAe⟩ : ∃ A, A = mkB a := ⟨_, rfl⟩
      obtain ⟨B, hBe⟩ : ∃ B, B = mkB b := ⟨_, rfl⟩
      rw [← hAe, ← hBe] at CC
      rw [← hAe] at CN
      clear hn hsl ha hAe hBe hA hBs hsz
      go_enter Tryz.func107, Tryz.ntmps107
      go_wp2_with fail
      refine (CC.out _).mono ?_
      rintro e w1 ⟨rfl, hb⟩
      have HB := hid hb
      clear hb
      go_wp2_with (go_at_call 131; refine (CN.out _).mono ?_; rintro e w' ⟨rfl, rfl⟩)
      go_ret2
      exact ⟨⟨_, _, rfl, hid (Or.inl ⟨rfl, HN.out⟩)⟩, HB.out⟩
    · have hbd := numOf_yes _ hn
      obtain ⟨k, hk⟩ : ∃ k : Nat, numOf a = (k : Int) := ⟨(numOf a).toNat, by omega⟩
      have CN : Hid (∀ w, Calls Tryz.prog 131 #[.string (mkB a)] w fun e w' => e = .returned (.tuple #[.int .i64 (k : Int), .bool true]) ∧ w' = w) := fun w => by
        have := number_yes (mkB a) w (by rw [mkB_list]; exact hn)
        rw [mkB_list, hk] at this; exact this
      have HK := hid hk
      have HBL : Hid ((mkB b).size = b.length) := hBs
      have HX : Hid ((mkB b).extract 0 k = mkB (b.take k)) := ext_take b k
      have hB6 : (mkB b).size ≤ 6000 := by omega
      have hk9 : k ≤ 999999 := by omega
      obtain ⟨A, hAe⟩ : ∃ A, A = mkB a := ⟨_, rfl⟩
      obtain ⟨B, hBe⟩ : ∃ B, B = mkB b := ⟨_, rfl⟩
      rw [← hAe, ← hBe] at CC
      rw [← hAe] at CN
      rw [← hBe] at HBL HX hB6
      clear hn hsl ha hAe hBe hA hBs hsz hk hbd
      by_cases h3 : (k : Int) > (B.size : Int)
      · have HN : Hid (oneR s = none) := HL.out (by rw [HK.out]; have := HBL.out; omega)
        go_enter Tryz.func107, Tryz.ntmps107
        go_wp2_with fail
        refine (CC.out _).mono ?_
        rintro e w1 ⟨rfl, hb⟩
        have HB := hid hb
        clear hb
        go_wp2_with (go_at_call 131; refine (CN.out _).mono ?_; rintro e w' ⟨rfl, rfl⟩)
        go_ret2
        exact ⟨⟨_, _, rfl, hid (Or.inl ⟨rfl, HN.out⟩)⟩, HB.out⟩
      · have hkle : k ≤ B.size := by omega
        have hxs : (B.extract 0 k).size ≤ 6000 := by rw [ByteArray.size_extract]; omega
        obtain ⟨r, hr⟩ : ∃ r, r = B.extract 0 k := ⟨_, rfl⟩
        rw [← hr] at HX hxs
        have hrm : r.size ≤ maxLen := by unfold maxLen; omega
        cases hrec : recOk r
        · have HN : Hid (oneR s = none) := HL.out (by rw [HK.out, show ((k : Nat) : Int).toNat = k from rfl, ← HX.out, hrec]; simp)
          have CR : Hid (∀ w, Calls Tryz.prog 118 #[.string (B.extract 0 k)] w fun e w' => e = .returned (.bool false) ∧ w' = w) := fun w => by
            have := isRecord_any r w hrm
            rw [hrec, hr] at this; exact this
          clear hrec hr
          go_enter Tryz.func107, Tryz.ntmps107
          go_wp2_with fail
          refine (CC.out _).mono ?_
          rintro e w1 ⟨rfl, hb⟩
          have HB := hid hb
          clear hb
          go_wp2_with (first
            | (go_at_call 131; refine (CN.out _).mono ?_; rintro e w' ⟨rfl, rfl⟩)
            | (go_at_call 118; refine (CR.out _).mono ?_; rintro e w' ⟨rfl, rfl⟩))
          go_ret2
          exact ⟨⟨_, _, rfl, hid (Or.inl ⟨rfl, HN.out⟩)⟩, HB.out⟩
        · have hsz := recOk_size hrec
          have hd := decS_size r.size
          have hps := putR_size r
          have HO : Hid (AheadOut s r (begins s (putR r))) := by
            have := ahead_hit HSL.out HA0.out HK.out (by have := HBL.out; omega) (by rw [← HX.out]; exact hrec)
            rw [← HX.out] at this
            exact this
          have CR : Hid (∀ w, Calls Tryz.prog 118 #[.string (B.extract 0 k)] w fun e w' => e = .returned (.bool true) ∧ w' = w) := fun w => by
            have := isRecord_any r w hrm
            rw [hrec, hr] at this; exact this
          obtain ⟨p, hp⟩ : ∃ p, p = putR r := ⟨_, rfl⟩
          have CP : Hid (∀ w, Tab w → Calls Tryz.prog 88 #[.string (B.extract 0 k)] w fun e w' => e = .returned (.string p) ∧ Below w.heap.size w w') := fun w ht => by
            have := recordPut_any r w (by omega) ht
            rw [← hp, hr] at this; exact this
          rw [← hp] at HO
          obtain ⟨c, hc⟩ : ∃ c, c = begins s p := ⟨_, rfl⟩
          have CH : Hid (∀ w, Calls Tryz.prog 132 #[.string s, .string p] w fun e w' => e = .returned (.bool c) ∧ w' = w) := fun w => by rw [hc]; exact has_any s p w
          rw [← hc, hr] at HO
          clear hrec hr hp hc hd hps
          cases c
          all_goals
            go_enter Tryz.func107, Tryz.ntmps107
            go_wp2_with fail
            refine (CC.out _).mono ?_
            rintro e w1 ⟨rfl, hb⟩
            have HB := hid hb
            clear hb
            go_wp2_with (first
              | (go_at_call 131; refine (CN.out _).mono ?_; rintro e w' ⟨rfl, rfl⟩)
              | (go_at_call 118; refine (CR.out _).mono ?_; rintro e w' ⟨rfl, rfl⟩)
              | (go_at_call 88; refine (CP.out _ (HT.out.below HB.out)).mono ?_; rintro e w2 ⟨rfl, hb⟩; have HB2 := hid (HB.out.trans (hb.mono HB.out.size)); clear hb)
              | (go_at_call 132; refine (CH.out _).mono ?_; rintro e w' ⟨rfl, rfl⟩))
            go_ret2
            exact ⟨⟨_, _, rfl, HO⟩, HB2.out⟩

end Go.Proofs.YtplbfllhimcpiaaGreatDoor
