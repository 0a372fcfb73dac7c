/- DERIVED. The model's l2Var and l2Value. -/
import Derived.Test.YtaabcbpbijkmnabParGood
import Derived.Test.YtaabcbpbijkmnabMathRun
namespace Go.Proofs.Ytaabcbpbijkmnab
open Go.RowKit

set_option maxRecDepth 100000 in
set_option maxHeartbeats 800000 in
theorem l2Var_any (ov : Value) (V : Vs) (n : ByteArray) (w : World) (h : VIn w ov V) :
    Calls Try.prog 23 #[ov, .string n] w fun e w' => e = .returned (.string (textV V n)) ∧ w' = w := by
  have HV := hid h
  obtain ⟨oa, cp, rfl, hl, _⟩ := h
  go_enter Try.func23, Try.ntmps23
  go_wp2
  go_loop [5] (fun i => ∃ k : Nat, k ≤ V.length ∧ i = .int .i64 (k : Int) ∧ ∀ j (hj : j < V.length), j < k → V[j].1 ≠ n) (fun i => V.length - (intOf i).toNat)
  case atStart => exact ⟨0, Nat.zero_le _, rfl, fun j _ h => absurd h (Nat.not_lt_zero _)⟩
  case round =>
    obtain ⟨k, hk, rfl, hno⟩ := hrel
    have HNO := hid hno
    clear hno
    by_cases hlt : k < V.length
    · obtain ⟨oa', cp', e', _, _, h3⟩ := HV.out
      injection e' with e1 e2 e3
      subst e1 e3
      obtain ⟨g, off, rfl, hg, c0, c1⟩ := h3 k hlt
      clear e2 h3
      have hk0 : (0 : Int) ≤ (k : Int) := by omega
      have hkI : (k : Int) < (V.length : Int) := by omega
      obtain ⟨x, hx⟩ : ∃ x, x = V[k].1 := ⟨_, rfl⟩
      obtain ⟨y, hy⟩ : ∃ y, y = V[k].2 := ⟨_, rfl⟩
      rw [← hx] at c0
      rw [← hy] at c1
      have HX := hid hx
      have HY := hid hy
      clear hx hy
      by_cases he : x = n
      · have he' : (x.toList == n.toList) = true := by rw [he]; simp
        have HT : Hid (textV V n = y) := by show _ = _; rw [textV_hit V n k hlt HNO.out (by rw [← HX.out]; exact he), HY.out]
        clear he
        go_wp2
        go_ret
        exact ⟨by rw [HT.out]; rfl, rfl⟩
      · have he' : (x.toList == n.toList) = false := by
          rw [beq_eq_false_iff_ne]; exact fun c => he (toList_inj2 c)
        have HE := hid he
        clear he
        go_wp2
        go_round
        case rel =>
          refine ⟨k + 1, by omega, by go_num, fun j hj hjk => ?_⟩
          by_cases e : j = k
          · subst e; rw [← HX.out]; exact HE.out
          · exact HNO.out j hj (by omega)
        case measure => simp [intOf]; omega
    · have HT : Hid (textV V n = ⟨#[]⟩) := textV_none V n (fun j hj => HNO.out j hj (by omega))
      go_wp2
      go_ret
      exact ⟨by rw [HT.out]; rfl, rfl⟩

/-- What a text comes to. -/
def valP (t : ByteArray) : Except Int Int := if t.size = 0 then .ok 0 else match signedV t.data.toList with
  | some z => .ok z
  | none => .error 4

theorem named_val (V : Vs) (n : ByteArray) : namedP true V n = valP (textV V n) := by
  unfold namedP valP
  by_cases h : (textV V n).size = 0
  · rw [if_pos (Or.inr h), if_pos h]
  · rw [if_neg (fun c => by rcases c with c | c; cases c; exact h c), if_neg h]; rfl

theorem valP_err (t : ByteArray) (e : Int) (h : valP t = .error e) : e = 4 := by
  unfold valP at h
  split at h
  · cases h
  · split at h
    · cases h
    · injection h with h; exact h.symm

set_option maxHeartbeats 1600000 in
theorem l2Value_any (t : ByteArray) (w : World) (hs : t.size ≤ maxLen) :
    Calls Try.prog 22 #[.string t] w fun e w' => (∀ z, valP t = .ok z → e = .returned (.tuple #[.int .i64 z, .bool true])) ∧ (∀ c, valP t = .error c → ∃ x, e = .returned (.tuple #[.int .i64 x, .bool false])) ∧ w' = w := by
  unfold valP
  by_cases h0 : t.size = 0
  · have e0 : t = ⟨#[]⟩ := by cases t with | mk d => simp at h0; rw [h0]; rfl
    rw [if_pos h0]
    subst e0
    clear h0 hs
    go_enter Try.func22, Try.ntmps22
    go_wp2
    go_ret2
    exact ⟨fun z h => (by injection h with h; subst h; rfl), fun c h => (by cases h), rfl⟩
  · have h0' : t.toList.isEmpty = false := by
      cases hx : t.toList with
      | nil => have := len_toList t; rw [hx] at this; simp at this; omega
      | cons c l => rfl
    have hp : 0 < t.size := by omega
    have hp1 : (1 : Int) ≤ (t.size : Int) := by omega
    rw [if_neg h0]
    by_cases h45 : t[0] = 45
    · have hb := byte_eq _ _ h45
      have hb' : ((t[0].toNat : Int) == 45) = true := hb
      obtain ⟨r, hr⟩ : ∃ r, r = t.extract 1 t.size := ⟨_, rfl⟩
      have hS : signedV t.data.toList = (if isNum r.data.toList = true then (if numVal r.data.toList = 0 then none else some (-numVal r.data.toList)) else none) := by
        unfold signedV; rw [cons_of t hp, h45, ← hr]; rfl
      have CN : Hid (∀ W, Calls Try.prog 27 #[.string r] W fun e w' => e = .returned (.int .i64 (numOf r.data.toList)) ∧ w' = W) := fun W => l1Num_any r W (by rw [hr]; simp; omega)
      have hr' : t.extract 1 t.size = r := hr.symm
      obtain ⟨m, hm⟩ : ∃ m, m = numOf r.data.toList := ⟨_, rfl⟩
      rw [← hm] at CN
      have hmb : -1 ≤ m ∧ m ≤ 999999 := by
        cases hn : isNum r.data.toList
        · rw [hm, numOf_no _ hn]; omega
        · have := numOf_yes _ hn; rw [← hm] at this; omega
      have hS2 : signedV t.data.toList = if 0 < m then some (-m) else none := by
        rw [hS]
        cases hn : isNum r.data.toList
        · rw [if_neg (by decide), if_neg (by rw [hm, numOf_no _ hn]; decide)]
        · have hy := numOf_yes _ hn
          have hv : numOf r.data.toList = numVal r.data.toList := by unfold numOf; rw [if_pos hn]
          rw [if_pos rfl, ← hv, ← hm]
          rw [← hm] at hy
          by_cases hz : m = 0
          · rw [if_pos hz, if_neg (by omega)]
          · rw [if_neg hz, if_pos (by omega)]
      rw [hS2]
      have hw : IntKind.i64.wrap (-m) = -m := by rw [IntKind.wrap_i64]; omega
      clear hb h45 hr hS hS2 hm h0
      by_cases hpos : 0 < m
      · rw [if_pos hpos]
        go_enter Try.func22, Try.ntmps22
        go_wp2_with fail
        refine (CN.out _).mono ?_
        rintro e w1 ⟨rfl, rfl⟩
        go_wp2
        go_ret2
        exact ⟨fun z h => (by injection h with h; subst h; simp), fun c h => (by cases h), rfl⟩
      · rw [if_neg hpos]
        go_enter Try.func22, Try.ntmps22
        go_wp2_with fail
        refine (CN.out _).mono ?_
        rintro e w1 ⟨rfl, rfl⟩
        go_wp2
        go_ret2
        exact ⟨fun z h => (by cases h), fun c h => ⟨-m, by simp; try omega⟩, rfl⟩
    · have hb := byte_ne _ _ h45
      have hb' : ((t[0].toNat : Int) == 45) = false := hb
      have CN : Hid (∀ W, Calls Try.prog 27 #[.string t] W fun e w' => e = .returned (.int .i64 (numOf t.data.toList)) ∧ w' = W) := fun W => l1Num_any t W hs
      obtain ⟨m, hm⟩ : ∃ m, m = numOf t.data.toList := ⟨_, rfl⟩
      rw [← hm] at CN
      have hS2 : signedV t.data.toList = if 0 ≤ m then some m else none := by
        have hS : signedV t.data.toList = if isNum t.data.toList = true then some (numVal t.data.toList) else none := by
          unfold signedV
          rw [cons_of t hp]
          exact if_neg h45
        rw [hS]
        cases hn : isNum t.data.toList
        · rw [if_neg (by decide), if_neg (by rw [hm, numOf_no _ hn]; decide)]
        · have hy := numOf_yes _ hn
          have hv : numOf t.data.toList = numVal t.data.toList := by unfold numOf; rw [if_pos hn]
          rw [if_pos rfl, ← hv, ← hm]
          rw [← hm] at hy
          rw [if_pos (by omega)]
      rw [hS2]
      clear hb h45 hS2 hm h0
      by_cases hpos : 0 ≤ m
      · rw [if_pos hpos]
        go_enter Try.func22, Try.ntmps22
        go_wp2_with fail
        refine (CN.out _).mono ?_
        rintro e w1 ⟨rfl, rfl⟩
        go_wp2
        go_ret2
        exact ⟨fun z h => (by injection h with h; subst h; simp), fun c h => (by cases h), rfl⟩
      · rw [if_neg hpos]
        go_enter Try.func22, Try.ntmps22
        go_wp2_with fail
        refine (CN.out _).mono ?_
        rintro e w1 ⟨rfl, rfl⟩
        go_wp2
        go_ret2
        exact ⟨fun z h => (by cases h), fun c h => ⟨m, by simp; try omega⟩, rfl⟩

theorem infoInt : (Try.prog.info? 3).map (fun i => (i.zero, i.size, i.bytes)) = some (some (.int .i64 0), 1, 8) := by kernel_rfl

theorem row_cells3 {W : World} {base : Nat} {e : TypeId} {size : Nat} {v : Value} {k : Nat} {xs : List Value} (h : W.ownsRow base e size v k xs) (hk : 1 ≤ k) :
    ∃ g cp, v = .slice (some ⟨g, 0, none⟩) k cp ∧ base ≤ g ∧ g < W.heap.size ∧ k ≤ cp ∧ cp ≤ maxLen ∧ ∀ (j : Nat) x, xs[j]? = some x → W.cell? ⟨g, j, none⟩ = some x := by
  rcases h.2 with ⟨_, h0⟩ | ⟨g, cap, cur, rfl, hbg, hgb, hkc, hcm, _, htk⟩
  · omega
  · refine ⟨g, cap, rfl, hbg, (Array.getElem?_eq_some_iff.1 hgb).1, hkc, hcm, fun j x hx => ?_⟩
    have := h.cells (g := g) rfl j x hx
    by_cases e : j = 0
    · subst e; simpa [Addr.add] using this
    · simpa [Addr.add, e] using this

end Go.Proofs.Ytaabcbpbijkmnab
