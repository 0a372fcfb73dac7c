/- DERIVED. The walks of what a name says: textOf, signedOf, named. -/
import Derived.Test.YtaabcbpbijkmnabMathNames
import Derived.Test.YtaabcbpbijkmnabMathSign
namespace Go.Proofs.Ytaabcbpbijkmnab
open Go.RowKit

/-- Names and what they say lie in a row that a reader in block R may look at. -/
def VarsAt (w : World) (R : Nat) (ov : Value) (V : Vs) : Prop :=
  ∃ oa cp, ov = .slice oa V.length cp ∧ V.length ≤ 1000 ∧ (∀ x ∈ V, x.2.size ≤ maxLen) ∧ ∀ i (hi : i < V.length), ∃ g off, oa = some ⟨g, off, none⟩ ∧ g < w.heap.size ∧ g ≠ R ∧ w.cell? ⟨g, off + i * 2, none⟩ = some (.string V[i].1) ∧ w.cell? ⟨g, off + i * 2 + 1, none⟩ = some (.string V[i].2)

theorem VarsAt.keep {w w' : World} {R : Nat} {ov : Value} {V : Vs} (h : VarsAt w R ov V) (k : Keeps R w w') : VarsAt w' R ov V := by
  obtain ⟨oa, cp, e, h1, h2, h3⟩ := h
  refine ⟨oa, cp, e, h1, h2, fun i hi => ?_⟩
  obtain ⟨g, off, e2, hg, hn, c0, c1⟩ := h3 i hi
  exact ⟨g, off, e2, Nat.lt_of_lt_of_le hg k.size, hn, by rw [k.cell g _ hg hn]; exact c0, by rw [k.cell g _ hg hn]; exact c1⟩

theorem VarsAt.below {w w' : World} {R : Nat} {ov : Value} {V : Vs} (h : VarsAt w R ov V) (k : Below w.heap.size w w') : VarsAt w' R ov V := by
  obtain ⟨oa, cp, e, h1, h2, h3⟩ := h
  refine ⟨oa, cp, e, h1, h2, fun i hi => ?_⟩
  obtain ⟨g, off, e2, hg, hn, c0, c1⟩ := h3 i hi
  exact ⟨g, off, e2, Nat.lt_of_lt_of_le hg k.size, hn, by rw [k.cell (p := ⟨g, _, none⟩) hg]; exact c0, by rw [k.cell (p := ⟨g, _, none⟩) hg]; exact c1⟩

theorem textV_skip (V : Vs) (n : ByteArray) (k : Nat) (h : ∀ j (hj : j < V.length), j < k → V[j].1 ≠ n) : textV V n = textV (V.drop k) n := by
  induction k generalizing V with
  | zero => rfl
  | succ k ih =>
    cases V with
    | nil => rfl
    | cons x V =>
      rw [textV, if_neg (show ¬ x.1 = n from h 0 (by simp) (by omega)), List.drop_succ_cons]
      exact ih V (fun j hj hk => h (j + 1) (by simpa using hj) (by omega))

theorem textV_hit (V : Vs) (n : ByteArray) (k : Nat) (hk : k < V.length) (h : ∀ j (hj : j < V.length), j < k → V[j].1 ≠ n) (he : V[k].1 = n) : textV V n = V[k].2 := by
  rw [textV_skip V n k h, List.drop_eq_getElem_cons hk, textV, if_pos he]

theorem textV_none (V : Vs) (n : ByteArray) (h : ∀ j (hj : j < V.length), V[j].1 ≠ n) : textV V n = ⟨#[]⟩ := by
  rw [textV_skip V n V.length (fun j hj _ => h j hj), List.drop_length]; rfl

theorem textV_size (V : Vs) (n : ByteArray) (h : ∀ x ∈ V, x.2.size ≤ maxLen) : (textV V n).size ≤ maxLen := by
  induction V with
  | nil => exact Nat.zero_le _
  | cons x V ih =>
    rw [textV]
    split
    · exact h x (by simp)
    · exact ih (fun y hy => h y (by simp [hy]))

theorem toList_inj2 {a b : ByteArray} (h : a.toList = b.toList) : a = b := by
  have h1 : a.data.toList = b.data.toList := by simpa [ByteArray.toList_eq] using h
  cases a; cases b; congr; exact Array.toList_inj.1 h1

set_option maxRecDepth 100000 in
set_option maxHeartbeats 800000 in
theorem textOf_any (R : Nat) (ov : Value) (V : Vs) (n : ByteArray) (w : World) (h : VarsAt w R ov V) :
    Calls Try.prog 59 #[ov, .string n] w fun e w' => e = .returned (.string (textV V n)) ∧ Below w.heap.size w w' := by
  have HV := hid h
  obtain ⟨oa, cp, rfl, hl, _⟩ := h
  go_enter Try.func59, Try.ntmps59
  go_wp2
  go_loopw [9] (fun i wr => Below w.heap.size w wr ∧ ∃ k : Nat, k ≤ V.length ∧ i = .int .i64 (k : Int) ∧ ∀ j (hj : j < V.length), j < k → V[j].1 ≠ n) (fun i _ => V.length - (intOf i).toNat)
  case atStart => exact ⟨Below.refl _ _, 0, Nat.zero_le _, rfl, fun j _ h => absurd h (Nat.not_lt_zero _)⟩
  case round =>
    obtain ⟨hB, k, hk, rfl, hno⟩ := hrel
    have HB := hid hB
    have HNO := hid hno
    clear hB hno
    by_cases hlt : k < V.length
    · obtain ⟨oa', cp', e', _, _, h3⟩ := HV.out.below HB.out
      injection e' with e1 e2 e3
      subst e1 e3
      obtain ⟨g, off, rfl, hg, _, c0, c1⟩ := h3 k hlt
      clear e2 h3
      have hk0 : (0 : Int) ≤ (k : Int) := by omega
      have hkI : (k : Int) < (V.length : Int) := by omega
      obtain ⟨x, hx⟩ : ∃ x, x = V[k].1 := ⟨_, rfl⟩
      obtain ⟨y, hy⟩ : ∃ y, y = V[k].2 := ⟨_, rfl⟩
      rw [← hx] at c0
      rw [← hy] at c1
      have HX := hid hx
      have HY := hid hy
      clear hx hy
      have HBA : Hid (Below w.heap.size w (wr.alloc (.cells #[.string x, .string y] 50))) := HB.out.trans (((Below.refl _ _).alloc (Nat.le_refl _) _).mono HB.out.size)
      by_cases he : x = n
      · have he' : (x.toList == n.toList) = true := by rw [he]; simp
        have HT : Hid (textV V n = y) := by show _ = _; rw [textV_hit V n k hlt HNO.out (by rw [← HX.out]; exact he), HY.out]
        clear he
        go_wp2
        go_ret
        exact ⟨by rw [HT.out]; rfl, HBA.out⟩
      · have he' : (x.toList == n.toList) = false := by
          rw [beq_eq_false_iff_ne]; exact fun c => he (toList_inj2 c)
        have HE := hid he
        clear he
        go_wp2
        go_roundw
        case rel =>
          refine ⟨HBA.out, k + 1, by omega, by go_num, fun j hj hjk => ?_⟩
          by_cases e : j = k
          · subst e; rw [← HX.out]; exact HE.out
          · exact HNO.out j hj (by omega)
        case measure => simp [intOf]; omega
    · have HT : Hid (textV V n = ⟨#[]⟩) := textV_none V n (fun j hj => HNO.out j hj (by omega))
      go_wp2
      go_ret
      exact ⟨by rw [HT.out]; rfl, HB.out⟩

theorem first_ext (s : ByteArray) (h0 : 0 < s.size) : (s.extract 0 1).data.toList = [s[0]] := by
  have := restL_cons s 0 h0
  simp [restL] at this
  simp [ByteArray.data_extract, Array.toList_extract]
  rw [this]; rfl

set_option maxHeartbeats 800000 in
theorem cutMinus_yes (s : ByteArray) (w : World) (h0 : 0 < s.size) (h : s[0] = 45) (hs : s.size ≤ maxLen) :
    Calls Try.prog 62 #[.string s, .string ⟨#[45]⟩] w fun e w' => e = .returned (.tuple #[.string (s.extract 1 s.size), .bool true]) ∧ w' = w := by
  unfold maxLen at hs
  have h1 : (1 : Int) ≤ (s.size : Int) := by omega
  have hp : ((s.extract 0 1).toList == [45]) = true := by
    rw [beq_iff_eq, ByteArray.toList_eq, first_ext s h0, h]
  clear h
  go_enter Try.func62, Try.ntmps62
  go_wp2
  go_ret2
  exact ⟨rfl, rfl⟩

set_option maxHeartbeats 800000 in
theorem cutMinus_no (s : ByteArray) (w : World) (h : ∀ h0 : 0 < s.size, s[0] ≠ 45) (hs : s.size ≤ maxLen) :
    Calls Try.prog 62 #[.string s, .string ⟨#[45]⟩] w fun e w' => e = .returned (.tuple #[.string s, .bool false]) ∧ w' = w := by
  unfold maxLen at hs
  by_cases h0 : 0 < s.size
  · have h1 : (1 : Int) ≤ (s.size : Int) := by omega
    have hp : ((s.extract 0 1).toList == [45]) = false := by
      rw [beq_eq_false_iff_ne, ByteArray.toList_eq, first_ext s h0]
      intro e
      injection e with e
      exact h h0 e
    clear h
    go_enter Try.func62, Try.ntmps62
    go_wp2
    go_ret2
    exact ⟨rfl, rfl⟩
  · have h1 : ¬ (1 : Int) ≤ (s.size : Int) := by omega
    clear h
    go_enter Try.func62, Try.ntmps62
    go_wp2
    go_ret2
    exact ⟨rfl, rfl⟩

theorem cons_of (s : ByteArray) (h0 : 0 < s.size) : s.data.toList = s[0] :: (s.extract 1 s.size).data.toList := by
  have := restL_cons s 0 h0
  simp [restL] at this
  rw [this]
  congr 1
  simp [ByteArray.data_extract, Array.toList_extract]
  rw [List.take_of_length_le]
  simp

/-- How signedOf answers. -/
def signedE (l : List UInt8) (e : Ending) : Prop :=
  match signedV l with
  | some z => e = .returned (.tuple #[.int .i64 z, .bool true])
  | none => ∃ z, e = .returned (.tuple #[.int .i64 z, .bool false])

set_option maxHeartbeats 800000 in
theorem signedOf_any (s : ByteArray) (w : World) (hs : s.size ≤ maxLen) :
    Calls Try.prog 60 #[.string s] w fun e w' => signedE s.data.toList e ∧ w' = w := by
  by_cases h0 : ∃ h0 : 0 < s.size, s[0] = 45
  · obtain ⟨h0, h1⟩ := h0
    have hl := cons_of s h0
    have CC : Hid (∀ W, Calls Try.prog 62 #[.string s, .string ⟨#[45]⟩] W fun e w' => e = .returned (.tuple #[.string (s.extract 1 s.size), .bool true]) ∧ w' = W) := fun W => cutMinus_yes s W h0 h1 hs
    obtain ⟨r, hr⟩ : ∃ r, r = s.extract 1 s.size := ⟨_, rfl⟩
    have hrs : r.size ≤ maxLen := by rw [hr]; simp; omega
    rw [← hr] at hl CC
    have HE : Hid (∀ e, signedE s.data.toList e ↔ (if isNum r.data.toList = true then (if numVal r.data.toList = 0 then ∃ z, e = .returned (.tuple #[.int .i64 z, .bool false]) else e = .returned (.tuple #[.int .i64 (-numVal r.data.toList), .bool true])) else ∃ z, e = .returned (.tuple #[.int .i64 z, .bool false]))) := by
      intro e
      have hS : signedV s.data.toList = (if isNum r.data.toList = true then (if numVal r.data.toList = 0 then none else some (-numVal r.data.toList)) else none) := by
        unfold signedV; rw [hl, h1]; rfl
      unfold signedE
      rw [hS]
      by_cases a : isNum r.data.toList = true
      · by_cases b : numVal r.data.toList = 0
        · rw [if_pos a, if_pos a, if_pos b, if_pos b]; first | done | exact Iff.rfl
        · rw [if_pos a, if_pos a, if_neg b, if_neg b]; first | done | exact Iff.rfl
      · rw [if_neg a, if_neg a]; first | done | exact Iff.rfl
    clear hl h1 hr h0
    cases hn : isNum r.data.toList
    · have CN : Hid (∀ W, Calls Try.prog 53 #[.string r] W fun e w' => e = .returned (.tuple #[.int .i64 0, .bool false]) ∧ w' = W) := fun W => number_no r W hrs hn
      go_enter Try.func60, Try.ntmps60
      go_wp2_with fail
      refine (CC.out _).mono ?_
      rintro e w1 ⟨rfl, rfl⟩
      go_wp2_with fail
      refine (CN.out _).mono ?_
      rintro e w1 ⟨rfl, rfl⟩
      go_wp2
      go_ret2
      exact ⟨by rw [HE.out, hn]; exact ⟨_, rfl⟩, rfl⟩
    · have hb := numOf_yes _ hn
      have hv : numOf r.data.toList = numVal r.data.toList := by unfold numOf; rw [if_pos hn]
      rw [hv] at hb
      have CN : Hid (∀ W, Calls Try.prog 53 #[.string r] W fun e w' => e = .returned (.tuple #[.int .i64 (numVal r.data.toList), .bool true]) ∧ w' = W) := fun W => by have := number_yes r W hn; rw [hv] at this; exact this
      obtain ⟨z, hz⟩ : ∃ z, z = numVal r.data.toList := ⟨_, rfl⟩
      rw [← hz] at hb CN HE
      have hw : IntKind.i64.wrap (-z) = -z := by rw [IntKind.wrap_i64]; omega
      clear hv hz
      by_cases h2 : z = 0
      · have hz0 : (z == 0) = true := by rw [beq_iff_eq]; exact h2
        have hz1 : (z != 0) = false := by rw [bne, hz0]; rfl
        have HE2 : Hid (∀ e, signedE s.data.toList e ↔ ∃ z, e = .returned (.tuple #[.int .i64 z, .bool false])) := fun e => by rw [HE.out, hn, if_pos rfl, if_pos h2]
        clear h2 HE hb hn
        go_enter Try.func60, Try.ntmps60
        go_wp2_with fail
        refine (CC.out _).mono ?_
        rintro e w1 ⟨rfl, rfl⟩
        go_wp2_with fail
        refine (CN.out _).mono ?_
        rintro e w1 ⟨rfl, rfl⟩
        go_wp2
        go_ret2
        exact ⟨(HE2.out _).2 ⟨-z, by first | rfl | (rw [hz1]; rfl)⟩, rfl⟩
      · have hz0 : (z == 0) = false := by rw [beq_eq_false_iff_ne]; exact h2
        have hz1 : (z != 0) = true := by rw [bne, hz0]; rfl
        have HE2 : Hid (∀ e, signedE s.data.toList e ↔ e = .returned (.tuple #[.int .i64 (-z), .bool true])) := fun e => by rw [HE.out, hn, if_pos rfl, if_neg h2]
        clear h2 HE hb hn
        go_enter Try.func60, Try.ntmps60
        go_wp2_with fail
        refine (CC.out _).mono ?_
        rintro e w1 ⟨rfl, rfl⟩
        go_wp2_with fail
        refine (CN.out _).mono ?_
        rintro e w1 ⟨rfl, rfl⟩
        go_wp2
        go_ret2
        exact ⟨(HE2.out _).2 (by first | rfl | (rw [hz1]; rfl)), rfl⟩
  · have hno : ∀ h1 : 0 < s.size, s[0] ≠ 45 := fun h1 h2 => h0 ⟨h1, h2⟩
    have CC : Hid (∀ W, Calls Try.prog 62 #[.string s, .string ⟨#[45]⟩] W fun e w' => e = .returned (.tuple #[.string s, .bool false]) ∧ w' = W) := fun W => cutMinus_no s W hno hs
    have HE : Hid (∀ e, signedE s.data.toList e ↔ (if isNum s.data.toList = true then e = .returned (.tuple #[.int .i64 (numVal s.data.toList), .bool true]) else ∃ z, e = .returned (.tuple #[.int .i64 z, .bool false]))) := by
      intro e
      by_cases h1 : 0 < s.size
      · have hS : signedV s.data.toList = if isNum s.data.toList = true then some (numVal s.data.toList) else none := by
          unfold signedV
          rw [cons_of s h1]
          exact if_neg (hno h1)
        unfold signedE
        rw [hS]
        by_cases a : isNum s.data.toList = true
        · rw [if_pos a, if_pos a]; first | done | exact Iff.rfl
        · rw [if_neg a, if_neg a]; first | done | exact Iff.rfl
      · have hle : s.data.toList.length = s.size := by simp
        have : s.data.toList = [] := List.eq_nil_of_length_eq_zero (by omega)
        unfold signedE signedV
        rw [this]
        rfl
    clear hno h0
    cases hn : isNum s.data.toList
    · have CN : Hid (∀ W, Calls Try.prog 53 #[.string s] W fun e w' => e = .returned (.tuple #[.int .i64 0, .bool false]) ∧ w' = W) := fun W => number_no s W hs hn
      go_enter Try.func60, Try.ntmps60
      go_wp2_with fail
      refine (CC.out _).mono ?_
      rintro e w1 ⟨rfl, rfl⟩
      go_wp2_with fail
      refine (CN.out _).mono ?_
      rintro e w1 ⟨rfl, rfl⟩
      go_wp2
      go_ret2
      exact ⟨by rw [HE.out, hn]; exact ⟨_, rfl⟩, rfl⟩
    · have hv : numOf s.data.toList = numVal s.data.toList := by unfold numOf; rw [if_pos hn]
      have CN : Hid (∀ W, Calls Try.prog 53 #[.string s] W fun e w' => e = .returned (.tuple #[.int .i64 (numVal s.data.toList), .bool true]) ∧ w' = W) := fun W => by have := number_yes s W hn; rw [hv] at this; exact this
      obtain ⟨z, hz⟩ : ∃ z, z = numVal s.data.toList := ⟨_, rfl⟩
      rw [← hz] at CN HE
      clear hz hv
      go_enter Try.func60, Try.ntmps60
      go_wp2_with fail
      refine (CC.out _).mono ?_
      rintro e w1 ⟨rfl, rfl⟩
      go_wp2_with fail
      refine (CN.out _).mono ?_
      rintro e w1 ⟨rfl, rfl⟩
      go_wp2
      go_ret2
      exact ⟨by rw [HE.out, hn, if_pos rfl]; rfl, rfl⟩

end Go.Proofs.Ytaabcbpbijkmnab
