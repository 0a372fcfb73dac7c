/- DERIVED. The law's own marks at rows of numbers: markIntS, heldIntS; and what they are at no row. -/
import Derived.Test.YthabhclbmneekabVoteTo
namespace Go.Proofs.Ythabhclbmneekab
open Go.RowKit

/-- What marks are. -/
def markI (i : Nat) : Value := .int .i64 ((i + 1 : Nat) : Int)

def markedI (j : Nat) (xs : List Value) : List Value := (List.range j).map markI ++ xs.drop j

theorem markedI_set (j : Nat) (xs : List Value) (h : j < xs.length) : (markedI j xs).set j (markI j) = markedI (j + 1) xs := by
  unfold markedI
  have hl : ((List.range j).map markI).length = j := by simp
  rw [List.set_append_right _ _ (by omega), hl, Nat.sub_self, List.range_succ, List.map_append, List.append_assoc]
  congr 1
  rw [List.drop_eq_getElem_cons h]
  rfl

theorem markedI_all (xs : List Value) : markedI xs.length xs = (List.range xs.length).map markI := by
  unfold markedI
  simp

theorem own_cell {w : World} {base g cp n : Nat} {e : TypeId} {xs : List Value} (h : w.ownsRow base e 1 (.slice (some ⟨g, 0, none⟩) n cp) n xs) (j : Nat) (hj : j < n) : (∃ u, w.cell? ⟨g, j, none⟩ = some u) ∧ w.frozen? ⟨g, j, none⟩ = false := by
  rcases h.2 with ⟨e, _⟩ | ⟨g', cap, cur, e, _, hb, hkc, _, hcur, _⟩
  · cases e
  · injection e with e1 e2 e3
    injection e1 with e1
    injection e1 with e1
    subst e1
    have : j < cur.size := by rw [hcur]; omega
    exact ⟨⟨cur[j], by simp [World.cell?, hb, this]⟩, by simp [World.frozen?, hb]⟩

theorem grown_set (w : World) (g j : Nat) (u : Value) : w.grownBy (w.setCell ⟨g, j, none⟩ u) (some g) :=
  ⟨rfl, rfl, rfl, by simp [World.setCell], fun k _ hne => Below.heap_setCell _ _ _ _ (fun e => hne (by rw [e]))⟩

theorem grown_below {w w' : World} (h : Below w.heap.size w w') (row : Option Nat) : w.grownBy w' row := ⟨h.os, h.tape, h.output, h.size, fun k hk _ => h.block k hk⟩

theorem row_grown {w w' : World} {base b : Nat} {v : Value} {n : Nat} {xs : List Value} {g : Nat} (h : w.ownsRow base 3 1 v n xs) (hg : w.grownBy w' (some g)) (hne : ∀ k, v.ownBlock = some k → k < b) (hbg : b ≤ g) : w'.ownsRow base 3 1 v n xs := by
  refine h.kept hg ?_
  cases e : v.ownBlock with
  | none => exact Or.inl rfl
  | some k =>
    right
    intro c
    injection c with c
    have := hne k e
    omega

theorem markedAt {w : World} {base g n cap : Nat} (h : w.ownsRow base 3 1 (.slice (some ⟨g, 0, none⟩) n cap) n ((List.range n).map markI)) : ∀ i, i < n → w.cell? ⟨g, i, none⟩ = some (markI i) := by
  intro i hi
  obtain ⟨g', cp, e, _, _, _, _, hc⟩ := row_cells h (by omega)
  injection e with e1 e2 e3
  injection e1 with e1
  injection e1 with e1
  subst e1
  refine hc i _ ?_
  rw [List.getElem?_map, List.getElem?_range hi]
  rfl

set_option maxHeartbeats 400000 in
theorem markI_zero (oa : Option Addr) (cap : Nat) (z : Int) (w : World) :
    Calls Try.prog 18 #[.slice oa 0 cap, .int .i64 z] w fun e w' => e = .returned (.int .i64 z) ∧ w' = w := by
  go_enter Try.func18, Try.ntmps18
  go_wp2
  go_loop [1, 5] (fun k i => k = .int .i64 z ∧ i = .int .i64 0) (fun _ _ => 0)
  case atStart => exact ⟨rfl, rfl⟩
  case round =>
    obtain ⟨rfl, rfl⟩ := hrel
    go_wp2
    go_ret
    exact ⟨rfl, rfl⟩

set_option maxHeartbeats 400000 in
theorem heldI_zero (oa : Option Addr) (cap : Nat) (z : Int) (w : World) :
    Calls Try.prog 20 #[.slice oa 0 cap, .int .i64 z] w fun e w' => e = .returned (.int .i64 z) ∧ w' = w := by
  go_enter Try.func20, Try.ntmps20
  go_wp2
  go_loop [1, 5] (fun k i => k = .int .i64 z ∧ i = .int .i64 0) (fun _ _ => 0)
  case atStart => exact ⟨rfl, rfl⟩
  case round =>
    obtain ⟨rfl, rfl⟩ := hrel
    go_wp2
    go_ret
    exact ⟨rfl, rfl⟩

set_option maxHeartbeats 400000 in
theorem eqI_zero (oa ob : Option Addr) (ca cb : Nat) (w : World) :
    Calls Try.prog 16 #[.slice oa 0 ca, .slice ob 0 cb] w fun e w' => e = .returned (.bool true) ∧ w' = w := by
  go_enter Try.func16, Try.ntmps16
  go_wp2
  go_loop [5] (fun i => i = .int .i64 0) (fun _ => 0)
  case atStart => exact rfl
  case round =>
    obtain rfl := hrel
    go_wp2
    go_ret
    exact ⟨rfl, rfl⟩

set_option maxHeartbeats 400000 in
theorem eqE_zero (oa ob : Option Addr) (ca cb : Nat) (w : World) :
    Calls Try.prog 15 #[.slice oa 0 ca, .slice ob 0 cb] w fun e w' => e = .returned (.bool true) ∧ w' = w := by
  go_enter Try.func15, Try.ntmps15
  go_wp2
  go_loop [5] (fun i => i = .int .i64 0) (fun _ => 0)
  case atStart => exact rfl
  case round =>
    obtain rfl := hrel
    go_wp2
    go_ret
    exact ⟨rfl, rfl⟩

set_option maxHeartbeats 400000 in
theorem markE_zero (oa : Option Addr) (cap : Nat) (z : Int) (w : World) :
    Calls Try.prog 17 #[.slice oa 0 cap, .int .i64 z] w fun e w' => e = .returned (.int .i64 z) ∧ w' = w := by
  go_enter Try.func17, Try.ntmps17
  go_wp2
  go_loop [1, 5] (fun k i => k = .int .i64 z ∧ i = .int .i64 0) (fun _ _ => 0)
  case atStart => exact ⟨rfl, rfl⟩
  case round =>
    obtain ⟨rfl, rfl⟩ := hrel
    go_wp2
    go_ret
    exact ⟨rfl, rfl⟩

set_option maxHeartbeats 400000 in
theorem heldE_zero (oa : Option Addr) (cap : Nat) (z : Int) (w : World) :
    Calls Try.prog 19 #[.slice oa 0 cap, .int .i64 z] w fun e w' => e = .returned (.int .i64 z) ∧ w' = w := by
  go_enter Try.func19, Try.ntmps19
  go_wp2
  go_loop [1, 5] (fun k i => k = .int .i64 z ∧ i = .int .i64 0) (fun _ _ => 0)
  case atStart => exact ⟨rfl, rfl⟩
  case round =>
    obtain ⟨rfl, rfl⟩ := hrel
    go_wp2
    go_ret
    exact ⟨rfl, rfl⟩

set_option maxRecDepth 100000 in
set_option maxHeartbeats 800000 in
theorem markI_any (g n cap base : Nat) (xs : List Value) (w : World) (hn : n ≤ 10000) (hx : xs.length = n) (h0 : w.ownsRow base 3 1 (.slice (some ⟨g, 0, none⟩) n cap) n xs) :
    Calls Try.prog 18 #[.slice (some ⟨g, 0, none⟩) n cap, .int .i64 1] w fun e w' => e = .returned (.int .i64 ((n + 1 : Nat) : Int)) ∧ w'.ownsRow base 3 1 (.slice (some ⟨g, 0, none⟩) n cap) n ((List.range n).map markI) ∧ w.grownBy w' (some g) := by
  have H0 := hid h0
  have HX := hid hx
  clear h0 hx
  go_enter Try.func18, Try.ntmps18
  go_wp2
  go_loopw [1, 5] (fun k i wr => ∃ j : Nat, j ≤ n ∧ i = .int .i64 (j : Int) ∧ k = .int .i64 ((j + 1 : Nat) : Int) ∧ wr.ownsRow base 3 1 (.slice (some ⟨g, 0, none⟩) n cap) n (markedI j xs) ∧ w.grownBy wr (some g)) (fun _ i _ => n - (intOf i).toNat)
  case atStart => exact ⟨0, Nat.zero_le _, rfl, rfl, by simpa [markedI] using H0.out, grown_below (Below.refl _ _) _⟩
  case round =>
    obtain ⟨j, hj, rfl, rfl, hown, hgr⟩ := hrel
    have HOWN := hid hown
    have HGR := hid hgr
    clear hown hgr
    by_cases hlt : j < n
    · obtain ⟨k, hk⟩ : ∃ k, k = j + 1 := ⟨_, rfl⟩
      have HK := hid hk
      rw [← hk]
      have hk1 : 1 ≤ k := by omega
      have hk2 : k ≤ 20000 := by omega
      have hjn : (j : Int) < (n : Int) := by omega
      have hj0 : (0 : Int) ≤ (j : Int) := by omega
      obtain ⟨⟨u, hu⟩, hf⟩ := own_cell HOWN.out j hlt
      clear hk
      go_wp2
      go_roundw
      case rel =>
        have ek := HK.out
        refine ⟨j + 1, by omega, by go_num, ?_, ?_, HGR.out.trans (grown_set _ _ _ _)⟩
        · rw [ek]
          congr 1
        · have := row_store HOWN.out j (markI j)
          rw [markedI_set j xs (by rw [HX.out]; exact hlt)] at this
          have e : Value.int .i64 (k : Int) = markI j := by rw [ek]; rfl
          rw [e]
          exact this
      case measure => simp [intOf]; omega
    · have hj' : j = n := by omega
      subst hj'
      obtain ⟨k, hk⟩ : ∃ k, k = j + 1 := ⟨_, rfl⟩
      rw [← hk]
      have HK := hid hk
      clear hk
      have HF : Hid (wr.ownsRow base 3 1 (.slice (some ⟨g, 0, none⟩) j cap) j ((List.range j).map markI)) := by
        have := HOWN.out
        have e := markedI_all xs
        rw [HX.out] at e
        rw [e] at this
        exact this
      go_wp2
      go_ret
      exact ⟨by rw [← HK.out]; rfl, HF.out, HGR.out⟩

set_option maxRecDepth 100000 in
set_option maxHeartbeats 800000 in
theorem heldI_any (g n cap : Nat) (w : World) (hn : n ≤ 10000) (R : ∀ i, i < n → w.cell? ⟨g, i, none⟩ = some (markI i)) :
    Calls Try.prog 20 #[.slice (some ⟨g, 0, none⟩) n cap, .int .i64 1] w fun e w' => e = .returned (.int .i64 ((n + 1 : Nat) : Int)) ∧ ∃ nq, w' = w.drewN nq := by
  have HR := hid R
  clear R
  go_enter Try.func20, Try.ntmps20
  go_wp2
  go_loopw [1, 5] (fun k i wr => ∃ j nq : Nat, j ≤ n ∧ i = .int .i64 (j : Int) ∧ k = .int .i64 ((j + 1 : Nat) : Int) ∧ wr = w.drewN nq) (fun _ i _ => n - (intOf i).toNat)
  case atStart => exact ⟨0, 0, Nat.zero_le _, rfl, rfl, rfl⟩
  case round =>
    obtain ⟨j, nq, hj, rfl, rfl, rfl⟩ := hrel
    by_cases hlt : j < n
    · obtain ⟨k, hk⟩ : ∃ k, k = j + 1 := ⟨_, rfl⟩
      have HK := hid hk
      rw [← hk]
      have hk1 : 1 ≤ k := by omega
      have hk2 : k ≤ 20000 := by omega
      have hjn : (j : Int) < (n : Int) := by omega
      have hj0 : (0 : Int) ≤ (j : Int) := by omega
      have c0 : w.cell? ⟨g, j, none⟩ = some (.int .i64 (k : Int)) := by rw [HR.out j hlt, hk]; rfl
      clear hk
      go_wp2
      go_roundw
      case rel => exact ⟨j + 1, _, by omega, by go_num, by rw [HK.out]; congr 1, rfl⟩
      case measure => simp [intOf]; omega
    · have hj' : j = n := by omega
      subst hj'
      obtain ⟨k, hk⟩ : ∃ k, k = j + 1 := ⟨_, rfl⟩
      rw [← hk]
      have HK := hid hk
      clear hk
      go_wp2
      go_ret
      exact ⟨by rw [← HK.out]; rfl, _, rfl⟩

end Go.Proofs.Ythabhclbmneekab
