/- DERIVED. The law's own marks at rows of numbers: markIntS, heldIntS; and what they are at no row. The law's own marks at a message: markIntS, heldIntS from any number on; markEntryS, heldEntryS; markMsg, heldMsg. The law's own marks at entries and at a message: markEntryS, heldEntryS, markMsg, heldMsg. The law's own marks at a message: markMsg, heldMsg. -/
import Derived.Test.YtcielnlhopjijabDoorVoteToM
import Derived.Test.YtcielnlhopjijabDoorGetEntsOM
import Derived.Test.YtcielnlhopjijabDoorSpecList
import Derived.Test.YtcielnlhopjijabDoorSpecGet8
namespace Go.Proofs.YtcielnlhopjijabDoor
open Go.RowKit

/-- What marks are. -/
def markI (i : Nat) : Value := .int .i64 ((i + 1 : Nat) : Int)

def markedI (j : Nat) (xs : List Value) : List Value := (List.range j).map markI ++ xs.drop j

theorem markedI_set (j : Nat) (xs : List Value) (h : j < xs.length) : (markedI j xs).set j (markI j) = markedI (j + 1) xs := by
  unfold markedI
  have hl : ((List.range j).map markI).length = j := by simp
  rw [List.set_append_right _ _ (by omega), hl, Nat.sub_self, List.range_succ, List.map_append, List.append_assoc]
  congr 1
  rw [List.drop_eq_getElem_cons h]
  rfl

theorem markedI_all (xs : List Value) : markedI xs.length xs = (List.range xs.length).map markI := by
  unfold markedI
  simp

theorem own_cell {w : World} {base g cp n : Nat} {e : TypeId} {xs : List Value} (h : w.ownsRow base e 1 (.slice (some ⟨g, 0, none⟩) n cp) n xs) (j : Nat) (hj : j < n) : (∃ u, w.cell? ⟨g, j, none⟩ = some u) ∧ w.frozen? ⟨g, j, none⟩ = false := by
  rcases h.2 with ⟨e, _⟩ | ⟨g', cap, cur, e, _, hb, hkc, _, hcur, _⟩
  · cases e
  · injection e with e1 e2 e3
    injection e1 with e1
    injection e1 with e1
    subst e1
    have : j < cur.size := by rw [hcur]; omega
    exact ⟨⟨cur[j], by simp [World.cell?, hb, this]⟩, by simp [World.frozen?, hb]⟩

theorem grown_set (w : World) (g j : Nat) (u : Value) : w.grownBy (w.setCell ⟨g, j, none⟩ u) (some g) :=
  ⟨rfl, rfl, rfl, by simp [World.setCell], fun k _ hne => Below.heap_setCell _ _ _ _ (fun e => hne (by rw [e]))⟩

theorem grown_below {w w' : World} (h : Below w.heap.size w w') (row : Option Nat) : w.grownBy w' row := ⟨h.os, h.tape, h.output, h.size, fun k hk _ => h.block k hk⟩

theorem row_grown {w w' : World} {base b : Nat} {v : Value} {n : Nat} {xs : List Value} {g : Nat} (h : w.ownsRow base 3 1 v n xs) (hg : w.grownBy w' (some g)) (hne : ∀ k, v.ownBlock = some k → k < b) (hbg : b ≤ g) : w'.ownsRow base 3 1 v n xs := by
  refine h.kept hg ?_
  cases e : v.ownBlock with
  | none => exact Or.inl rfl
  | some k =>
    right
    intro c
    injection c with c
    have := hne k e
    omega

theorem markedAt {w : World} {base g n cap : Nat} (h : w.ownsRow base 3 1 (.slice (some ⟨g, 0, none⟩) n cap) n ((List.range n).map markI)) : ∀ i, i < n → w.cell? ⟨g, i, none⟩ = some (markI i) := by
  intro i hi
  obtain ⟨g', cp, e, _, _, _, _, hc⟩ := row_cells h (by omega)
  injection e with e1 e2 e3
  injection e1 with e1
  injection e1 with e1
  subst e1
  refine hc i _ ?_
  rw [List.getElem?_map, List.getElem?_range hi]
  rfl

set_option maxHeartbeats 400000 in
theorem markI_zero (oa : Option Addr) (cap : Nat) (z : Int) (w : World) :
    Calls Tryd.prog 16 #[.slice oa 0 cap, .int .i64 z] w fun e w' => e = .returned (.int .i64 z) ∧ w' = w := by
  go_enter Tryd.func16, Tryd.ntmps16
  go_wp2
  go_loop [1, 5] (fun k i => k = .int .i64 z ∧ i = .int .i64 0) (fun _ _ => 0)
  case atStart => exact ⟨rfl, rfl⟩
  case round =>
    obtain ⟨rfl, rfl⟩ := hrel
    go_wp2
    go_ret
    exact ⟨rfl, rfl⟩

set_option maxHeartbeats 400000 in
theorem heldI_zero (oa : Option Addr) (cap : Nat) (z : Int) (w : World) :
    Calls Tryd.prog 18 #[.slice oa 0 cap, .int .i64 z] w fun e w' => e = .returned (.int .i64 z) ∧ w' = w := by
  go_enter Tryd.func18, Tryd.ntmps18
  go_wp2
  go_loop [1, 5] (fun k i => k = .int .i64 z ∧ i = .int .i64 0) (fun _ _ => 0)
  case atStart => exact ⟨rfl, rfl⟩
  case round =>
    obtain ⟨rfl, rfl⟩ := hrel
    go_wp2
    go_ret
    exact ⟨rfl, rfl⟩

set_option maxHeartbeats 400000 in
theorem eqI_zero (oa ob : Option Addr) (ca cb : Nat) (w : World) :
    Calls Tryd.prog 14 #[.slice oa 0 ca, .slice ob 0 cb] w fun e w' => e = .returned (.bool true) ∧ w' = w := by
  go_enter Tryd.func14, Tryd.ntmps14
  go_wp2
  go_loop [5] (fun i => i = .int .i64 0) (fun _ => 0)
  case atStart => exact rfl
  case round =>
    obtain rfl := hrel
    go_wp2
    go_ret
    exact ⟨rfl, rfl⟩

set_option maxHeartbeats 400000 in
theorem eqE_zero (oa ob : Option Addr) (ca cb : Nat) (w : World) :
    Calls Tryd.prog 15 #[.slice oa 0 ca, .slice ob 0 cb] w fun e w' => e = .returned (.bool true) ∧ w' = w := by
  go_enter Tryd.func15, Tryd.ntmps15
  go_wp2
  go_loop [5] (fun i => i = .int .i64 0) (fun _ => 0)
  case atStart => exact rfl
  case round =>
    obtain rfl := hrel
    go_wp2
    go_ret
    exact ⟨rfl, rfl⟩

set_option maxHeartbeats 400000 in
theorem markE_zero (oa : Option Addr) (cap : Nat) (z : Int) (w : World) :
    Calls Tryd.prog 17 #[.slice oa 0 cap, .int .i64 z] w fun e w' => e = .returned (.int .i64 z) ∧ w' = w := by
  go_enter Tryd.func17, Tryd.ntmps17
  go_wp2
  go_loop [1, 5] (fun k i => k = .int .i64 z ∧ i = .int .i64 0) (fun _ _ => 0)
  case atStart => exact ⟨rfl, rfl⟩
  case round =>
    obtain ⟨rfl, rfl⟩ := hrel
    go_wp2
    go_ret
    exact ⟨rfl, rfl⟩

set_option maxHeartbeats 400000 in
theorem heldE_zero (oa : Option Addr) (cap : Nat) (z : Int) (w : World) :
    Calls Tryd.prog 19 #[.slice oa 0 cap, .int .i64 z] w fun e w' => e = .returned (.int .i64 z) ∧ w' = w := by
  go_enter Tryd.func19, Tryd.ntmps19
  go_wp2
  go_loop [1, 5] (fun k i => k = .int .i64 z ∧ i = .int .i64 0) (fun _ _ => 0)
  case atStart => exact ⟨rfl, rfl⟩
  case round =>
    obtain ⟨rfl, rfl⟩ := hrel
    go_wp2
    go_ret
    exact ⟨rfl, rfl⟩

set_option maxRecDepth 100000 in
set_option maxHeartbeats 800000 in
theorem markI_any (g n cap base : Nat) (xs : List Value) (w : World) (hn : n ≤ 10000) (hx : xs.length = n) (h0 : w.ownsRow base 3 1 (.slice (some ⟨g, 0, none⟩) n cap) n xs) :
    Calls Tryd.prog 16 #[.slice (some ⟨g, 0, none⟩) n cap, .int .i64 1] w fun e w' => e = .returned (.int .i64 ((n + 1 : Nat) : Int)) ∧ w'.ownsRow base 3 1 (.slice (some ⟨g, 0, none⟩) n cap) n ((List.range n).map markI) ∧ w.grownBy w' (some g) := by
  have H0 := hid h0
  have HX := hid hx
  clear h0 hx
  go_enter Tryd.func16, Tryd.ntmps16
  go_wp2
  go_loopw [1, 5] (fun k i wr => ∃ j : Nat, j ≤ n ∧ i = .int .i64 (j : Int) ∧ k = .int .i64 ((j + 1 : Nat) : Int) ∧ wr.ownsRow base 3 1 (.slice (some ⟨g, 0, none⟩) n cap) n (markedI j xs) ∧ w.grownBy wr (some g)) (fun _ i _ => n - (intOf i).toNat)
  case atStart => exact ⟨0, Nat.zero_le _, rfl, rfl, by simpa [markedI] using H0.out, grown_below (Below.refl _ _) _⟩
  case round =>
    obtain ⟨j, hj, rfl, rfl, hown, hgr⟩ := hrel
    have HOWN := hid hown
    have HGR := hid hgr
    clear hown hgr
    by_cases hlt : j < n
    · obtain ⟨k, hk⟩ : ∃ k, k = j + 1 := ⟨_, rfl⟩
      have HK := hid hk
      rw [← hk]
      have hk1 : 1 ≤ k := by omega
      have hk2 : k ≤ 20000 := by omega
      have hjn : (j : Int) < (n : Int) := by omega
      have hj0 : (0 : Int) ≤ (j : Int) := by omega
      obtain ⟨⟨u, hu⟩, hf⟩ := own_cell HOWN.out j hlt
      clear hk
      go_wp2
      go_roundw
      case rel =>
        have ek := HK.out
        refine ⟨j + 1, by omega, by go_num, ?_, ?_, HGR.out.trans (grown_set _ _ _ _)⟩
        · rw [ek]
          congr 1
        · have := row_store HOWN.out j (markI j)
          rw [markedI_set j xs (by rw [HX.out]; exact hlt)] at this
          have e : Value.int .i64 (k : Int) = markI j := by rw [ek]; rfl
          rw [e]
          exact this
      case measure => simp [intOf]; omega
    · have hj' : j = n := by omega
      subst hj'
      obtain ⟨k, hk⟩ : ∃ k, k = j + 1 := ⟨_, rfl⟩
      rw [← hk]
      have HK := hid hk
      clear hk
      have HF : Hid (wr.ownsRow base 3 1 (.slice (some ⟨g, 0, none⟩) j cap) j ((List.range j).map markI)) := by
        have := HOWN.out
        have e := markedI_all xs
        rw [HX.out] at e
        rw [e] at this
        exact this
      go_wp2
      go_ret
      exact ⟨by rw [← HK.out]; rfl, HF.out, HGR.out⟩

set_option maxRecDepth 100000 in
set_option maxHeartbeats 800000 in
theorem heldI_any (g n cap : Nat) (w : World) (hn : n ≤ 10000) (R : ∀ i, i < n → w.cell? ⟨g, i, none⟩ = some (markI i)) :
    Calls Tryd.prog 18 #[.slice (some ⟨g, 0, none⟩) n cap, .int .i64 1] w fun e w' => e = .returned (.int .i64 ((n + 1 : Nat) : Int)) ∧ ∃ nq, w' = w.drewN nq := by
  have HR := hid R
  clear R
  go_enter Tryd.func18, Tryd.ntmps18
  go_wp2
  go_loopw [1, 5] (fun k i wr => ∃ j nq : Nat, j ≤ n ∧ i = .int .i64 (j : Int) ∧ k = .int .i64 ((j + 1 : Nat) : Int) ∧ wr = w.drewN nq) (fun _ i _ => n - (intOf i).toNat)
  case atStart => exact ⟨0, 0, Nat.zero_le _, rfl, rfl, rfl⟩
  case round =>
    obtain ⟨j, nq, hj, rfl, rfl, rfl⟩ := hrel
    by_cases hlt : j < n
    · obtain ⟨k, hk⟩ : ∃ k, k = j + 1 := ⟨_, rfl⟩
      have HK := hid hk
      rw [← hk]
      have hk1 : 1 ≤ k := by omega
      have hk2 : k ≤ 20000 := by omega
      have hjn : (j : Int) < (n : Int) := by omega
      have hj0 : (0 : Int) ≤ (j : Int) := by omega
      have c0 : w.cell? ⟨g, j, none⟩ = some (.int .i64 (k : Int)) := by rw [HR.out j hlt, hk]; rfl
      clear hk
      go_wp2
      go_roundw
      case rel => exact ⟨j + 1, _, by omega, by go_num, by rw [HK.out]; congr 1, rfl⟩
      case measure => simp [intOf]; omega
    · have hj' : j = n := by omega
      subst hj'
      obtain ⟨k, hk⟩ : ∃ k, k = j + 1 := ⟨_, rfl⟩
      rw [← hk]
      have HK := hid hk
      clear hk
      go_wp2
      go_ret
      exact ⟨by rw [← HK.out]; rfl, _, rfl⟩

end Go.Proofs.YtcielnlhopjijabDoor

namespace Go.Proofs.YtcielnlhopjijabDoor
open Go.RowKit

def marksL (z n : Nat) : List Value := (List.range n).map fun i => Value.int .i64 ((z + i : Nat) : Int)

theorem marksL_len (z n : Nat) : (marksL z n).length = n := by simp [marksL]

theorem marksL_at (z n i : Nat) (h : i < n) : (marksL z n)[i]? = some (.int .i64 ((z + i : Nat) : Int)) := by
  unfold marksL
  rw [List.getElem?_map, List.getElem?_range h]
  rfl

def partL (z j : Nat) (xs : List Value) : List Value := marksL z j ++ xs.drop j

theorem partL_set (z j : Nat) (xs : List Value) (h : j < xs.length) : (partL z j xs).set j (.int .i64 ((z + j : Nat) : Int)) = partL z (j + 1) xs := by
  unfold partL
  rw [List.set_append_right _ _ (by rw [marksL_len]; exact Nat.le_refl _), marksL_len, Nat.sub_self]
  rw [show marksL z (j + 1) = marksL z j ++ [.int .i64 ((z + j : Nat) : Int)] by unfold marksL; rw [List.range_succ, List.map_append]; rfl, List.append_assoc]
  congr 1
  rw [List.drop_eq_getElem_cons h]
  rfl

theorem partL_all (z : Nat) (xs : List Value) : partL z xs.length xs = marksL z xs.length := by simp [partL]

set_option maxRecDepth 100000 in
set_option maxHeartbeats 800000 in
theorem markK_some (g n cap base z : Nat) (xs : List Value) (w : World) (hn : n ≤ 2000) (hz : z ≤ 100000) (hx : xs.length = n) (h0 : w.ownsRow base 3 1 (.slice (some ⟨g, 0, none⟩) n cap) n xs) :
    Calls Tryd.prog 16 #[.slice (some ⟨g, 0, none⟩) n cap, .int .i64 (z : Int)] w fun e w' => e = .returned (.int .i64 ((z + n : Nat) : Int)) ∧ w'.ownsRow base 3 1 (.slice (some ⟨g, 0, none⟩) n cap) n (marksL z n) ∧ w.grownBy w' (some g) := by
  have H0 := hid h0
  have HX := hid hx
  clear h0 hx
  go_enter Tryd.func16, Tryd.ntmps16
  go_wp2
  go_loopw [1, 5] (fun k i wr => ∃ j : Nat, j ≤ n ∧ i = .int .i64 (j : Int) ∧ k = .int .i64 ((z + j : Nat) : Int) ∧ wr.ownsRow base 3 1 (.slice (some ⟨g, 0, none⟩) n cap) n (partL z j xs) ∧ w.grownBy wr (some g)) (fun _ i _ => n - (intOf i).toNat)
  case atStart => exact ⟨0, Nat.zero_le _, rfl, rfl, by simpa [partL, marksL] using H0.out, grown_below (Below.refl _ _) _⟩
  case round =>
    obtain ⟨j, hj, rfl, rfl, hown, hgr⟩ := hrel
    have HOWN := hid hown
    have HGR := hid hgr
    clear hown hgr
    obtain ⟨k, hk⟩ : ∃ k, k = z + j := ⟨_, rfl⟩
    rw [← hk]
    have HK := hid hk
    by_cases hlt : j < n
    · have hk2 : k ≤ 200000 := by omega
      have hjn : (j : Int) < (n : Int) := by omega
      have hj0 : (0 : Int) ≤ (j : Int) := by omega
      obtain ⟨⟨u, hu⟩, hf⟩ := own_cell HOWN.out j hlt
      clear hk
      go_wp2
      go_roundw
      case rel =>
        have ek := HK.out
        refine ⟨j + 1, by omega, by go_num, ?_, ?_, HGR.out.trans (grown_set _ _ _ _)⟩
        · rw [ek]
          congr 1
        · have := row_store HOWN.out j (.int .i64 ((z + j : Nat) : Int))
          rw [partL_set z j xs (by rw [HX.out]; exact hlt)] at this
          rw [ek]
          exact this
      case measure => simp [intOf]; omega
    · have hj' : j = n := by omega
      subst hj'
      clear hk
      have HF : Hid (wr.ownsRow base 3 1 (.slice (some ⟨g, 0, none⟩) j cap) j (marksL z j)) := by
        have := HOWN.out
        have e := partL_all z xs
        rw [HX.out] at e
        rw [e] at this
        exact this
      go_wp2
      go_ret
      exact ⟨by rw [← HK.out]; rfl, HF.out, HGR.out⟩

set_option maxRecDepth 100000 in
set_option maxHeartbeats 800000 in
theorem heldK_some (g n cap z : Nat) (w : World) (hn : n ≤ 2000) (hz : z ≤ 100000) (R : ∀ i, i < n → w.cell? ⟨g, i, none⟩ = some (.int .i64 ((z + i : Nat) : Int))) :
    Calls Tryd.prog 18 #[.slice (some ⟨g, 0, none⟩) n cap, .int .i64 (z : Int)] w fun e w' => e = .returned (.int .i64 ((z + n : Nat) : Int)) ∧ ∃ nq, w' = w.drewN nq := by
  have HR := hid R
  clear R
  go_enter Tryd.func18, Tryd.ntmps18
  go_wp2
  go_loopw [1, 5] (fun k i wr => ∃ j nq : Nat, j ≤ n ∧ i = .int .i64 (j : Int) ∧ k = .int .i64 ((z + j : Nat) : Int) ∧ wr = w.drewN nq) (fun _ i _ => n - (intOf i).toNat)
  case atStart => exact ⟨0, 0, Nat.zero_le _, rfl, rfl, rfl⟩
  case round =>
    obtain ⟨j, nq, hj, rfl, rfl, rfl⟩ := hrel
    obtain ⟨k, hk⟩ : ∃ k, k = z + j := ⟨_, rfl⟩
    rw [← hk]
    have HK := hid hk
    by_cases hlt : j < n
    · have hk2 : k ≤ 200000 := by omega
      have hjn : (j : Int) < (n : Int) := by omega
      have hj0 : (0 : Int) ≤ (j : Int) := by omega
      have c0 : w.cell? ⟨g, j, none⟩ = some (.int .i64 (k : Int)) := by rw [HR.out j hlt, hk]
      clear hk
      go_wp2
      go_roundw
      case rel => exact ⟨j + 1, _, by omega, by go_num, by rw [HK.out]; congr 1, rfl⟩
      case measure => simp [intOf]; omega
    · have hj' : j = n := by omega
      subst hj'
      clear hk
      go_wp2
      go_ret
      exact ⟨by rw [← HK.out]; rfl, _, rfl⟩

theorem slice_cases {w : World} {base n : Nat} {e : TypeId} {size : Nat} {ov : Option Addr} {cv : Nat} {xs : List Value} (h : w.ownsRow base e size (.slice ov n cv) n xs) : (ov = none ∧ n = 0 ∧ cv = 0) ∨ ∃ g, ov = some ⟨g, 0, none⟩ := by
  rcases h.2 with ⟨e1, _⟩ | ⟨g, cap, cur, e1, _⟩
  · injection e1 with a b c
    exact Or.inl ⟨a, b, c⟩
  · injection e1 with a b c
    exact Or.inr ⟨g, a⟩

theorem markK_any (ov : Option Addr) (n cv base z : Nat) (xs : List Value) (w : World) (hn : n ≤ 2000) (hz : z ≤ 100000) (h0 : w.ownsRow base 3 1 (.slice ov n cv) n xs) :
    Calls Tryd.prog 16 #[.slice ov n cv, .int .i64 (z : Int)] w fun e w' => e = .returned (.int .i64 ((z + n : Nat) : Int)) ∧ w'.ownsRow base 3 1 (.slice ov n cv) n (marksL z n) ∧ w.grownBy w' (Value.slice ov n cv).ownBlock := by
  rcases slice_cases h0 with ⟨rfl, rfl, rfl⟩ | ⟨g, rfl⟩
  · refine (markI_zero none 0 z w).mono ?_
    rintro e w' ⟨rfl, rfl⟩
    exact ⟨rfl, rowNil _ _ _ _, grown_below (Below.refl _ _) _⟩
  · have hx : xs.length = n := by have := h0.1; omega
    exact markK_some g n cv base z xs w hn hz hx h0

theorem marks_cells {w : World} {base n z cv g : Nat} (h : w.ownsRow base 3 1 (.slice (some ⟨g, 0, none⟩) n cv) n (marksL z n)) : ∀ i, i < n → w.cell? ⟨g, i, none⟩ = some (.int .i64 ((z + i : Nat) : Int)) := by
  intro i hi
  have := h.cells (g := g) rfl i _ (marksL_at z n i hi)
  rw [Go.WideShapes.add_plain, Nat.zero_add] at this
  exact this

theorem heldK_any (ov : Option Addr) (n cv base z : Nat) (w : World) (hn : n ≤ 2000) (hz : z ≤ 100000) (h0 : w.ownsRow base 3 1 (.slice ov n cv) n (marksL z n)) :
    Calls Tryd.prog 18 #[.slice ov n cv, .int .i64 (z : Int)] w fun e w' => e = .returned (.int .i64 ((z + n : Nat) : Int)) ∧ ∃ nq, w' = w.drewN nq := by
  rcases slice_cases h0 with ⟨rfl, rfl, rfl⟩ | ⟨g, rfl⟩
  · refine (heldI_zero none 0 z w).mono ?_
    rintro e w' ⟨rfl, rfl⟩
    exact ⟨rfl, 0, rfl⟩
  · exact heldK_some g n cv z w hn hz (marks_cells h0)

/-- Entries of which the first j are marked. -/
def MCells (w : World) (m : Nat) (N lo K : Nat → Nat) (j : Nat) (ys : List Value) : Prop := ys.length = m * 3 ∧ ∀ i, i < m → ∃ (ov : Option Addr) (cv : Nat) (zs : List Value),
  ys[i * 3 + 2]? = some (.slice ov (N i) cv) ∧ w.ownsRow (lo i) 3 1 (.slice ov (N i) cv) (N i) zs ∧ (∀ g, (Value.slice ov (N i) cv).ownBlock = some g → g < lo (i + 1)) ∧
  (i < j → ys[i * 3]? = some (.int .i64 (K i : Int)) ∧ ys[i * 3 + 1]? = some (.int .i64 ((K i + 1 : Nat) : Int)) ∧ zs = marksL (K i + 2) (N i))

theorem MCells.below {w w' : World} {m : Nat} {N lo K : Nat → Nat} {j : Nat} {ys : List Value} (h : MCells w m N lo K j ys) (hb : Below w.heap.size w w') : MCells w' m N lo K j ys := by
  refine ⟨h.1, fun i hi => ?_⟩
  obtain ⟨ov, cv, zs, h1, h2, h3, h4⟩ := h.2 i hi
  exact ⟨ov, cv, zs, h1, row_below h2 hb, h3, h4⟩

/-- Two stores into an entry's own cells. -/
theorem MCells.put {w : World} {m : Nat} {N lo K : Nat → Nat} {j g : Nat} {ys : List Value} {cur : Array Value} {fz : Nat × Nat} (h : MCells w m N lo K j ys) (hg : w.heap[g]? = some (.cells cur 71 fz)) (p : Nat) (hp : p = j * 3 ∨ p = j * 3 + 1) (u : Value) : MCells (w.setCell ⟨g, p, none⟩ u) m N lo K j (ys.set p u) := by
  refine ⟨by rw [List.length_set]; exact h.1, fun i hi => ?_⟩
  obtain ⟨ov, cv, zs, h1, h2, h3, h4⟩ := h.2 i hi
  refine ⟨ov, cv, zs, ?_, rowT h2 hg neIntEnt' p u, h3, fun hij => ?_⟩
  · rw [List.getElem?_set_ne (by omega)]; exact h1
  · obtain ⟨a, b, c⟩ := h4 hij
    exact ⟨by rw [List.getElem?_set_ne (by omega)]; exact a, by rw [List.getElem?_set_ne (by omega)]; exact b, c⟩

/-- The next entry is marked. -/
theorem MCells.step {w w' : World} {m : Nat} {N lo K : Nat → Nat} {j : Nat} {ys : List Value} {ov : Option Addr} {cv : Nat} (h : MCells w m N lo K j ys) (hlo : ∀ i, i < m → lo i ≤ lo (i + 1)) (hj : j < m)
    (hs : ys[j * 3 + 2]? = some (.slice ov (N j) cv)) (hbd : ∀ g, (Value.slice ov (N j) cv).ownBlock = some g → g < lo (j + 1)) (hbl : ∀ g, (Value.slice ov (N j) cv).ownBlock = some g → lo j ≤ g) (h0 : ys[j * 3]? = some (.int .i64 (K j : Int))) (h1 : ys[j * 3 + 1]? = some (.int .i64 ((K j + 1 : Nat) : Int)))
    (hr : w'.ownsRow (lo j) 3 1 (.slice ov (N j) cv) (N j) (marksL (K j + 2) (N j))) (hg : w.grownBy w' (Value.slice ov (N j) cv).ownBlock) : MCells w' m N lo K (j + 1) ys := by
  refine ⟨h.1, fun i hi => ?_⟩
  by_cases e : i = j
  · subst e
    exact ⟨ov, cv, _, hs, hr, hbd, fun _ => ⟨h0, h1, rfl⟩⟩
  · obtain ⟨ov', cv', zs, a1, a2, a3, a4⟩ := h.2 i hi
    refine ⟨ov', cv', zs, a1, a2.kept hg ?_, a3, fun hij => a4 (by omega)⟩
    cases eq : (Value.slice ov' (N i) cv').ownBlock with
    | none => exact Or.inl rfl
    | some k =>
      right
      intro c
      have hk := own_lt a2 k eq
      have k1 := a3 k eq
      have k2 := hbd k c.symm
      have k3 := hbl k c.symm
      rcases Nat.lt_or_ge i j with hl | hl
      · have := lo_mono hlo j (by omega) (i + 1) (by omega)
        omega
      · have := lo_mono hlo i (by omega) (j + 1) (by omega)
        omega

end Go.Proofs.YtcielnlhopjijabDoor

namespace Go.Proofs.YtcielnlhopjijabDoor
open Go.RowKit

theorem row_store3 {w : World} {base size : Nat} {e : TypeId} {g n cap : Nat} {xs : List Value} (h : w.ownsRow base e size (.slice (some ⟨g, 0, none⟩) n cap) n xs) (j : Nat) (v : Value) : (w.setCell ⟨g, j, none⟩ v).ownsRow base e size (.slice (some ⟨g, 0, none⟩) n cap) n (xs.set j v) := by
  obtain ⟨h1, h2⟩ := h
  refine ⟨by rw [List.length_set]; exact h1, ?_⟩
  rcases h2 with ⟨h0, _⟩ | ⟨g', cap', cur, hv, hg, hh, hn, hcap, hsz, htake⟩
  · cases h0
  · injection hv with e1 e2 e3
    injection e1 with e1
    injection e1 with e1
    subst e1
    refine Or.inr ⟨g, cap', cur.setIfInBounds j v, by rw [e3], hg, heap_set_at w g j cur e v hh, hn, hcap, by simp [hsz], ?_⟩
    rw [Array.toList_setIfInBounds, List.take_set, htake]

theorem own_cells3 {w : World} {base size g cp n : Nat} {e : TypeId} {xs : List Value} (h : w.ownsRow base e size (.slice (some ⟨g, 0, none⟩) n cp) n xs) : (∃ cur, w.heap[g]? = some (.cells cur e (0, 0))) ∧ (∀ j x, xs[j]? = some x → w.cell? ⟨g, j, none⟩ = some x) ∧ ∀ j, w.frozen? ⟨g, j, none⟩ = false := by
  have hc := h.cells (g := g) rfl
  rcases h.2 with ⟨e, _⟩ | ⟨g', cap, cur, e, _, hb, hkc, _, hcur, _⟩
  · cases e
  · injection e with e1 e2 e3
    injection e1 with e1
    injection e1 with e1
    subst e1
    refine ⟨⟨cur, hb⟩, fun j x hx => ?_, fun j => by simp [World.frozen?, hb]⟩
    have := hc j x hx
    rw [Go.WideShapes.add_plain, Nat.zero_add] at this
    exact this

theorem addr_ne3 {B p q : Nat} (h : p ≠ q) : (⟨B, p, none⟩ : Addr) ≠ ⟨B, q, none⟩ := fun e => h (by injection e)

/-- What turns within a row of numbers leaves a row of entries. -/
theorem rg_other3 {w w' : World} {bs e' size n : Nat} {v : Value} {ys : List Value} {b2 e2 size2 n2 : Nat} {v2 : Value} {zs : List Value} (h : w.ownsRow bs e' size v n ys) (gr : w.grownBy w' v.ownBlock) (h2 : w.ownsRow b2 e2 size2 v2 n2 zs) (hne : e' ≠ e2) : w'.ownsRow b2 e2 size2 v2 n2 zs := rg_other h gr h2 hne

theorem below_own {w w' : World} {bs e size n B : Nat} {v : Value} {ys : List Value} (h : w.ownsRow bs e size v n ys) (hB : B ≤ bs) (gr : w.grownBy w' v.ownBlock) (hs : B ≤ w.heap.size) : Below B w w' := by
  refine ⟨gr.os, gr.tape, gr.output, gr.size, fun k hk => gr.block k (Nat.lt_of_lt_of_le hk hs) (fun e => ?_)⟩
  have := (own_lt h k e.symm).1
  omega

set_option maxRecDepth 100000 in
set_option maxHeartbeats 3200000 in
theorem markES_some (g m cap b2 : Nat) (N lo K : Nat → Nat) (ys : List Value) (w : World) (hm : m ≤ 100) (hN : ∀ i, i < m → N i ≤ 100) (hK : ∀ i, i < m → K (i + 1) = K i + 2 + N i) (hKb : ∀ i, i ≤ m → K i ≤ 90000) (hlo : ∀ i, i < m → lo i ≤ lo (i + 1)) (hb2 : b2 ≤ lo 0)
    (h0 : w.ownsRow b2 71 3 (.slice (some ⟨g, 0, none⟩) m cap) m ys) (hc : MCells w m N lo K 0 ys) :
    Calls Tryd.prog 17 #[.slice (some ⟨g, 0, none⟩) m cap, .int .i64 (K 0 : Int)] w fun e w' => e = .returned (.int .i64 (K m : Int)) ∧ (∃ ys', w'.ownsRow b2 71 3 (.slice (some ⟨g, 0, none⟩) m cap) m ys' ∧ MCells w' m N lo K m ys') ∧ Below b2 w w' ∧ (∀ (k : Nat) (cur : Array Value) (fz : Nat × Nat), w.heap[k]? = some (.cells cur 25 fz) → w'.heap[k]? = some (.cells cur 25 fz)) := by
  have H0 := hid h0
  have HC := hid hc
  have HN := hid hN
  have HK := hid hK
  have HKB := hid hKb
  have HLO := hid hlo
  have HG : Hid (b2 ≤ g) := (own_lt h0 g rfl).1
  clear h0 hc hN hK hKb hlo
  go_enter Tryd.func17, Tryd.ntmps17
  go_wp2
  go_loopw [1, 5] (fun k i wr => ∃ (j : Nat) (ys' : List Value), j ≤ m ∧ i = .int .i64 (j : Int) ∧ k = .int .i64 (K j : Int) ∧ wr.ownsRow b2 71 3 (.slice (some ⟨g, 0, none⟩) m cap) m ys' ∧ MCells wr m N lo K j ys' ∧ Below b2 w wr ∧ (∀ (k : Nat) (cur : Array Value) (fz : Nat × Nat), w.heap[k]? = some (.cells cur 25 fz) → wr.heap[k]? = some (.cells cur 25 fz))) (fun _ i _ => m - (intOf i).toNat)
  case atStart => exact ⟨0, ys, Nat.zero_le _, rfl, rfl, H0.out, HC.out, Below.refl _ _, fun _ _ _ h => h⟩
  case round =>
    obtain ⟨j, ys', hj, rfl, rfl, hown, hmc, hb, htk⟩ := hrel
    have HTK := hid htk
    clear htk
    have HOWN := hid hown
    have HMC := hid hmc
    have HB := hid hb
    clear hown hmc hb
    have hkb := HKB.out j hj
    have HSZ : Hid (b2 ≤ wr.heap.size) := by have := own_lt HOWN.out g rfl; show _ ≤ _; omega
    by_cases hlt : j < m
    · have hjn : (j : Int) < (m : Int) := by omega
      have hj0 : (0 : Int) ≤ (j : Int) := by omega
      have hkn := HK.out j hlt
      have hnb := HN.out j hlt
      obtain ⟨k, hk⟩ : ∃ k, k = K j := ⟨_, rfl⟩
      have HKJ := hid hk
      rw [← hk] at hkb hkn ⊢
      have hk1 : ((k + 1 : Nat) : Int) = (k : Int) + 1 := by omega
      have hk2 : ((k + 2 : Nat) : Int) = (k : Int) + 1 + 1 := by omega
      obtain ⟨ov, cv, zs, h2, hr, hbd, _⟩ := HMC.out.2 j hlt
      obtain ⟨⟨cur, hblk⟩, hcells, hfree⟩ := own_cells3 HOWN.out
      have hyl := HMC.out.1
      have c0 : wr.cell? ⟨g, j * 3, none⟩ = some ys'[j * 3] := hcells _ _ (List.getElem?_eq_getElem (by omega))
      have c1 : wr.cell? ⟨g, j * 3 + 1, none⟩ = some ys'[j * 3 + 1] := hcells _ _ (List.getElem?_eq_getElem (by omega))
      have f0 := hfree (j * 3)
      have f1 := hfree (j * 3 + 1)
      -- the world behind the two stores
      have hb1 := heap_set_at wr g (j * 3) cur 71 (.int .i64 (k : Int)) hblk
      have hb2' := heap_set_at _ g (j * 3 + 1) _ 71 (.int .i64 ((k : Int) + 1)) hb1
      have hc2 : ((wr.setCell ⟨g, j * 3, none⟩ (.int .i64 (k : Int))).setCell ⟨g, j * 3 + 1, none⟩ (.int .i64 ((k : Int) + 1))).cell? ⟨g, j * 3 + 2, none⟩ = some (.slice ov (N j) cv) := by
        rw [World.cell?_setCell_other (h := addr_ne3 (by omega)), World.cell?_setCell_other (h := addr_ne3 (by omega))]
        exact hcells _ _ h2
      have HM1 := HMC.out.put hblk (j * 3) (Or.inl rfl) (.int .i64 (k : Int))
      have HM2 := hid (HM1.put hb1 (j * 3 + 1) (Or.inr rfl) (.int .i64 ((k : Int) + 1)))
      have HO2 := hid (row_store3 (row_store3 HOWN.out (j * 3) (.int .i64 (k : Int))) (j * 3 + 1) (.int .i64 ((k : Int) + 1)))
      have HB2 := hid ((HB.out.setCell (p := ⟨g, j * 3, none⟩) HG.out (.int .i64 (k : Int))).setCell (p := ⟨g, j * 3 + 1, none⟩) HG.out (.int .i64 ((k : Int) + 1)))
      have HR2 := hid (rowT (rowT hr hblk neIntEnt' (j * 3) (.int .i64 (k : Int))) hb1 neIntEnt' (j * 3 + 1) (.int .i64 ((k : Int) + 1)))
      have HCK : Hid (∀ W : World, W.ownsRow (lo j) 3 1 (.slice ov (N j) cv) (N j) zs → Calls Tryd.prog 16 #[.slice ov (N j) cv, .int .i64 ((k : Int) + 1 + 1)] W fun e w' => e = .returned (.int .i64 ((k + 2 + N j : Nat) : Int)) ∧ w'.ownsRow (lo j) 3 1 (.slice ov (N j) cv) (N j) (marksL (k + 2) (N j)) ∧ W.grownBy w' (Value.slice ov (N j) cv).ownBlock) := fun W hW => by
        have := markK_any ov (N j) cv (lo j) (k + 2) zs W (by omega) (by omega) hW
        rw [hk2] at this
        exact this
      have HT2 : Hid (∀ (q : Nat) (c : Array Value) (z : Nat × Nat), w.heap[q]? = some (.cells c 25 z) → ((wr.setCell ⟨g, j * 3, none⟩ (.int .i64 (k : Int))).setCell ⟨g, j * 3 + 1, none⟩ (.int .i64 ((k : Int) + 1))).heap[q]? = some (.cells c 25 z)) := fun q c z hq => by
        have h1 := HTK.out q c z hq
        have hne : q ≠ g := by
          intro e
          rw [e, hblk] at h1
          injection h1 with h1
          injection h1 with _ h1 _
          exact absurd h1 (by decide)
        rw [Below.heap_setCell _ _ _ _ hne, Below.heap_setCell _ _ _ _ hne]
        exact h1
      have HBD := hid hbd
      have HBL : Hid (∀ q, (Value.slice ov (N j) cv).ownBlock = some q → lo j ≤ q) := fun q hq => (own_lt hr q hq).1
      have HS2 : Hid ((ys'.set (j * 3) (.int .i64 (k : Int))).set (j * 3 + 1) (.int .i64 ((k : Int) + 1)) = (ys'.set (j * 3) (.int .i64 (k : Int))).set (j * 3 + 1) (.int .i64 ((k : Int) + 1))) := rfl
      have HE0 : Hid (((ys'.set (j * 3) (.int .i64 (k : Int))).set (j * 3 + 1) (.int .i64 ((k : Int) + 1)))[j * 3]? = some (.int .i64 (K j : Int)) ∧ ((ys'.set (j * 3) (.int .i64 (k : Int))).set (j * 3 + 1) (.int .i64 ((k : Int) + 1)))[j * 3 + 1]? = some (.int .i64 ((K j + 1 : Nat) : Int)) ∧ ((ys'.set (j * 3) (.int .i64 (k : Int))).set (j * 3 + 1) (.int .i64 ((k : Int) + 1)))[j * 3 + 2]? = some (.slice ov (N j) cv)) := by
        rw [← hk, hk1]
        refine ⟨?_, ?_, ?_⟩
        · rw [List.getElem?_set_ne (by omega), List.getElem?_set_self (by omega)]
        · rw [List.getElem?_set_self (by rw [List.length_set]; omega)]
        · rw [List.getElem?_set_ne (by omega), List.getElem?_set_ne (by omega)]; exact h2
      clear hk1 hk2 hr hbd hcells hfree hblk hb1 hb2' HM1 h2 hk HS2
      go_wp2_with fail
      refine (HCK.out _ HR2.out).mono ?_
      rintro e w2 ⟨rfl, hrow, hgr⟩
      have HGR := hid hgr
      have HMS := hid (HM2.out.step HLO.out hlt HE0.out.2.2 HBD.out HBL.out HE0.out.1 HE0.out.2.1 (by rw [← HKJ.out]; exact hrow) hgr)
      have HOS := hid (rg_other3 HR2.out hgr HO2.out neIntEnt')
      have HBS : Hid (Below b2 w w2) := HB2.out.trans (below_own HR2.out (Nat.le_trans hb2 (lo_mono HLO.out j hj 0 (Nat.zero_le _))) hgr (by simp; exact HSZ.out))
      have HTS : Hid (∀ (q : Nat) (c : Array Value) (z : Nat × Nat), w.heap[q]? = some (.cells c 25 z) → w2.heap[q]? = some (.cells c 25 z)) := fun q c z hq => gr_other HR2.out hgr (HT2.out q c z hq) (by decide)
      clear hrow hgr c0 c1 f0 f1 hc2
      go_wp2
      go_roundw
      case rel => exact ⟨j + 1, _, by omega, by go_num, by rw [hkn]; exact congrArg _ (by omega), HOS.out, HMS.out, HBS.out, HTS.out⟩
      case measure => simp [intOf]; omega
    · have hj' : j = m := by omega
      subst hj'
      go_wp2
      go_ret
      exact ⟨rfl, ⟨ys', HOWN.out, HMC.out⟩, HB.out, HTK.out⟩

set_option maxRecDepth 100000 in
set_option maxHeartbeats 3200000 in
theorem heldES_some (g m cap b2 : Nat) (N lo K : Nat → Nat) (ys : List Value) (w : World) (hm : m ≤ 100) (hN : ∀ i, i < m → N i ≤ 100) (hK : ∀ i, i < m → K (i + 1) = K i + 2 + N i) (hKb : ∀ i, i ≤ m → K i ≤ 90000)
    (h0 : w.ownsRow b2 71 3 (.slice (some ⟨g, 0, none⟩) m cap) m ys) (hc : MCells w m N lo K m ys) :
    Calls Tryd.prog 19 #[.slice (some ⟨g, 0, none⟩) m cap, .int .i64 (K 0 : Int)] w fun e w' => e = .returned (.int .i64 (K m : Int)) ∧ Below w.heap.size w w' := by
  have H0 := hid h0
  have HC := hid hc
  have HN := hid hN
  have HK := hid hK
  have HKB := hid hKb
  clear h0 hc hN hK hKb
  go_enter Tryd.func19, Tryd.ntmps19
  go_wp2
  go_loopw [1, 5] (fun k i wr => ∃ j : Nat, j ≤ m ∧ i = .int .i64 (j : Int) ∧ k = .int .i64 (K j : Int) ∧ Below w.heap.size w wr) (fun _ i _ => m - (intOf i).toNat)
  case atStart => exact ⟨0, Nat.zero_le _, rfl, rfl, Below.refl _ _⟩
  case round =>
    obtain ⟨j, hj, rfl, rfl, hb⟩ := hrel
    have HB := hid hb
    clear hb
    have hkb := HKB.out j hj
    by_cases hlt : j < m
    · have hjn : (j : Int) < (m : Int) := by omega
      have hj0 : (0 : Int) ≤ (j : Int) := by omega
      have hkn := HK.out j hlt
      have hnb := HN.out j hlt
      obtain ⟨ov, cv, zs, h2, hr, hbd, hmk⟩ := HC.out.2 j hlt
      obtain ⟨e0, e1, rfl⟩ := hmk hlt
      obtain ⟨k, hk⟩ : ∃ k, k = K j := ⟨_, rfl⟩
      have HKJ := hid hk
      rw [← hk] at hkb hkn e0 e1 hr ⊢
      have hk1 : ((k + 1 : Nat) : Int) = (k : Int) + 1 := by omega
      have hk2 : ((k + 2 : Nat) : Int) = (k : Int) + 1 + 1 := by omega
      rw [hk1] at e1
      obtain ⟨_, hcells, _⟩ := own_cells3 (row_below H0.out HB.out)
      have c0 : wr.cell? ⟨g, j * 3, none⟩ = some (.int .i64 (k : Int)) := hcells _ _ e0
      have c1 : wr.cell? ⟨g, j * 3 + 1, none⟩ = some (.int .i64 ((k : Int) + 1)) := hcells _ _ e1
      have c2 : wr.cell? ⟨g, j * 3 + 2, none⟩ = some (.slice ov (N j) cv) := hcells _ _ h2
      have HCK := hid (heldK_any ov (N j) cv (lo j) (k + 2) wr (by omega) (by omega) (row_below hr HB.out))
      rw [hk2] at HCK
      clear hk1 hk2 hr hbd hcells h2 hk e0 e1 hmk
      go_wp2_with fail
      refine HCK.out.mono ?_
      rintro e w2 ⟨rfl, n2, rfl⟩
      have HB2 := hid (below_drewN HB.out n2)
      have hpos : ¬ ((k + 2 + N j : Nat) : Int) < 0 := by omega
      clear c0 c1 c2
      go_wp2
      go_roundw
      case rel => exact ⟨j + 1, by omega, by go_num, by rw [hkn]; exact congrArg _ (by omega), HB2.out⟩
      case measure => simp [intOf]; omega
    · have hj' : j = m := by omega
      subst hj'
      go_wp2
      go_ret
      exact ⟨rfl, HB.out⟩

end Go.Proofs.YtcielnlhopjijabDoor

namespace Go.Proofs.YtcielnlhopjijabDoor
open Go.RowKit

theorem markES_any (oa : Option Addr) (m cap b2 : Nat) (N lo K : Nat → Nat) (ys : List Value) (w : World) (hm : m ≤ 100) (hN : ∀ i, i < m → N i ≤ 100) (hK : ∀ i, i < m → K (i + 1) = K i + 2 + N i) (hKb : ∀ i, i ≤ m → K i ≤ 90000) (hlo : ∀ i, i < m → lo i ≤ lo (i + 1)) (hb2 : b2 ≤ lo 0)
    (h0 : w.ownsRow b2 71 3 (.slice oa m cap) m ys) (hc : MCells w m N lo K 0 ys) :
    Calls Tryd.prog 17 #[.slice oa m cap, .int .i64 (K 0 : Int)] w fun e w' => e = .returned (.int .i64 (K m : Int)) ∧ (∃ ys', w'.ownsRow b2 71 3 (.slice oa m cap) m ys' ∧ MCells w' m N lo K m ys') ∧ Below b2 w w' ∧ (∀ (k : Nat) (cur : Array Value) (fz : Nat × Nat), w.heap[k]? = some (.cells cur 25 fz) → w'.heap[k]? = some (.cells cur 25 fz)) := by
  rcases slice_cases h0 with ⟨rfl, rfl, rfl⟩ | ⟨g, rfl⟩
  · refine (markE_zero none 0 (K 0 : Int) w).mono ?_
    rintro e w' ⟨rfl, rfl⟩
    exact ⟨rfl, ⟨ys, h0, hc⟩, Below.refl _ _, fun _ _ _ h => h⟩
  · exact markES_some g m cap b2 N lo K ys w hm hN hK hKb hlo hb2 h0 hc

theorem heldES_any (oa : Option Addr) (m cap b2 : Nat) (N lo K : Nat → Nat) (ys : List Value) (w : World) (hm : m ≤ 100) (hN : ∀ i, i < m → N i ≤ 100) (hK : ∀ i, i < m → K (i + 1) = K i + 2 + N i) (hKb : ∀ i, i ≤ m → K i ≤ 90000)
    (h0 : w.ownsRow b2 71 3 (.slice oa m cap) m ys) (hc : MCells w m N lo K m ys) :
    Calls Tryd.prog 19 #[.slice oa m cap, .int .i64 (K 0 : Int)] w fun e w' => e = .returned (.int .i64 (K m : Int)) ∧ Below w.heap.size w w' := by
  rcases slice_cases h0 with ⟨rfl, rfl, rfl⟩ | ⟨g, rfl⟩
  · refine (heldE_zero none 0 (K 0 : Int) w).mono ?_
    rintro e w' ⟨rfl, rfl⟩
    exact ⟨rfl, Below.refl _ _⟩
  · exact heldES_some g m cap b2 N lo K ys w hm hN hK hKb h0 hc

/-- A message all rows of which are its own, and may be marked. -/
structure OwnMsg (w : World) (n m b1 b2 : Nat) (v l : Value) (N lo K : Nat → Nat) (j : Nat) (zs ys : List Value) : Prop where
  row1 : w.ownsRow b1 3 1 v n zs
  row2 : w.ownsRow b2 71 3 l m ys
  cells : MCells w m N lo K j ys

theorem OwnMsg.below {w w' : World} {n m b1 b2 : Nat} {v l : Value} {N lo K : Nat → Nat} {j : Nat} {zs ys : List Value} (h : OwnMsg w n m b1 b2 v l N lo K j zs ys) (hb : Below w.heap.size w w') : OwnMsg w' n m b1 b2 v l N lo K j zs ys :=
  ⟨row_below h.row1 hb, row_below h.row2 hb, h.cells.below hb⟩

set_option maxRecDepth 100000 in
set_option maxHeartbeats 3200000 in
theorem markMsg_any (a b c d e : Int) (o1 o2 : Option Addr) (n m c1 c2 b1 b2 B : Nat) (N lo K : Nat → Nat) (zs ys : List Value) (w : World) (hn : n ≤ 100) (hm : m ≤ 100) (hN : ∀ i, i < m → N i ≤ 100) (hK0 : K 0 = 1 + n) (hK : ∀ i, i < m → K (i + 1) = K i + 2 + N i) (hKb : ∀ i, i ≤ m → K i ≤ 90000) (hlo : ∀ i, i < m → lo i ≤ lo (i + 1)) (hb2 : b2 ≤ lo 0)
    (hv : ∀ g, (Value.slice o1 n c1).ownBlock = some g → g < b2) (hB1 : B ≤ b1) (hB2 : B ≤ b2) (hBw : B ≤ w.heap.size) (h0 : OwnMsg w n m b1 b2 (.slice o1 n c1) (.slice o2 m c2) N lo K 0 zs ys) :
    Calls Tryd.prog 7 #[.agg #[.int .i64 a, .int .i64 b, .int .i64 c, .int .i64 d, .int .i64 e, .slice o1 n c1, .slice o2 m c2], .int .i64 1] w fun e w' => e = .returned (.int .i64 (K m : Int)) ∧ (∃ ys', OwnMsg w' n m b1 b2 (.slice o1 n c1) (.slice o2 m c2) N lo K m (marksL 1 n) ys') ∧ Below B w w' ∧ (∀ (k : Nat) (cur : Array Value) (fz : Nat × Nat), w.heap[k]? = some (.cells cur 25 fz) → w'.heap[k]? = some (.cells cur 25 fz)) := by
  obtain ⟨w1, hw1⟩ : ∃ w1, w1 = w.alloc (.cells #[.int .i64 a, .int .i64 b, .int .i64 c, .int .i64 d, .int .i64 e, .slice o1 n c1, .slice o2 m c2] 25) := ⟨_, rfl⟩
  have hal : Below w.heap.size w w1 := by rw [hw1]; exact (Below.refl _ _).alloc (Nat.le_refl _) _
  have HM1 : Hid (w1.heap[w.heap.size]? = some (.cells #[.int .i64 a, .int .i64 b, .int .i64 c, .int .i64 d, .int .i64 e, .slice o1 n c1, .slice o2 m c2] 25 (0, 0))) := by rw [hw1]; exact alloc_new _ _
  have H1 := hid (h0.below hal)
  have HB1 : Hid (Below B w w1) := hal.mono hBw
  have HT1 : Hid (∀ (q : Nat) (c : Array Value) (z : Nat × Nat), w.heap[q]? = some (.cells c 25 z) → w1.heap[q]? = some (.cells c 25 z)) := fun q c z hq => blk_below hq hal
  have HS1 : Hid (∀ g, (Value.slice o1 n c1).ownBlock = some g → g < w.heap.size ∧ b1 ≤ g) := fun g hg => ⟨(own_lt h0.row1 g hg).2, (own_lt h0.row1 g hg).1⟩
  have CK := hid (markK_any o1 n c1 b1 1 zs w1 (by omega) (by omega) H1.out.row1)
  have HK := hid hK
  have HN := hid hN
  have HKB := hid hKb
  have HLO := hid hlo
  have HV := hid hv
  have HK0 : Hid (((1 + n : Nat) : Int) = (K 0 : Int)) := by rw [hK0]; rfl
  rw [HK0.out, show ((1 : Nat) : Int) = 1 from rfl] at CK
  clear hal h0 hK hN hKb hlo hv hK0
  go_enter Tryd.func7, Tryd.ntmps7
  go_wp2_with fail
  rw [← hw1]
  clear hw1
  refine CK.out.mono ?_
  rintro ee w2 ⟨rfl, hrow, hgr⟩
  have HR1 := hid hrow
  have HGR := hid hgr
  have HM2 : Hid (w2.heap[w.heap.size]? = some (.cells #[.int .i64 a, .int .i64 b, .int .i64 c, .int .i64 d, .int .i64 e, .slice o1 n c1, .slice o2 m c2] 25 (0, 0))) := by
    show _ = _
    rw [hgr.block _ (Array.getElem?_eq_some_iff.1 HM1.out).1 (fun q => by have := HS1.out _ q.symm; omega)]
    exact HM1.out
  have HR2 := hid (rg_other H1.out.row1 hgr H1.out.row2 neIntEnt')
  have HC2 : Hid (MCells w2 m N lo K 0 ys) := by
    refine ⟨H1.out.cells.1, fun i hi => ?_⟩
    obtain ⟨ov, cv, us, g1, g2, g3, g4⟩ := H1.out.cells.2 i hi
    refine ⟨ov, cv, us, g1, g2.kept hgr ?_, g3, g4⟩
    cases eq : (Value.slice ov (N i) cv).ownBlock with
    | none => exact Or.inl rfl
    | some k =>
      right
      intro q
      have k1 := own_lt g2 k eq
      have k2 := HV.out k q.symm
      have k3 := lo_mono HLO.out i (by omega) 0 (Nat.zero_le _)
      omega
  have HB2 : Hid (Below B w w2) := HB1.out.trans (below_own H1.out.row1 hB1 hgr (Nat.le_trans hBw HB1.out.size))
  have HT2 : Hid (∀ (q : Nat) (c : Array Value) (z : Nat × Nat), w.heap[q]? = some (.cells c 25 z) → w2.heap[q]? = some (.cells c 25 z)) := fun q c z hq => gr_other H1.out.row1 hgr (HT1.out q c z hq) (by decide)
  have m6 : w2.cell? ⟨w.heap.size, 6, none⟩ = some (.slice o2 m c2) := by rw [in_block HM2.out 6]; rfl
  have CE := hid (markES_any o2 m c2 b2 N lo K ys w2 hm HN.out HK.out HKB.out HLO.out hb2 HR2.out HC2.out)
  clear hrow hgr
  go_wp2_with fail
  refine CE.out.mono ?_
  rintro ee w3 ⟨rfl, ⟨ys', hr3, hc3⟩, hb3, ht3⟩
  have HT3 : Hid (∀ (q : Nat) (c : Array Value) (z : Nat × Nat), w.heap[q]? = some (.cells c 25 z) → w3.heap[q]? = some (.cells c 25 z)) := fun q c z hq => ht3 q c z (HT2.out q c z hq)
  have HR3 := hid hr3
  have HC3 := hid hc3
  have HB3 := hid (HB2.out.trans (hb3.mono hB2))
  have HV3 : Hid (w3.ownsRow b1 3 1 (.slice o1 n c1) n (marksL 1 n)) := by
    have h := HR1.out
    refine ⟨h.1, ?_⟩
    rcases h.2 with h0 | ⟨g, cap, cur, e1, e2, hg, e3⟩
    · exact Or.inl h0
    · refine Or.inr ⟨g, cap, cur, e1, e2, ?_, e3⟩
      rw [hb3.block g (HV.out g (by rw [e1]; rfl))]
      exact hg
  clear hr3 hc3 hb3 ht3 m6
  go_wp2
  go_ret
  exact ⟨rfl, ⟨ys', HV3.out, HR3.out, HC3.out⟩, HB3.out, HT3.out⟩

set_option maxRecDepth 100000 in
set_option maxHeartbeats 3200000 in
theorem heldMsg_any (a b c d e : Int) (o1 o2 : Option Addr) (n m c1 c2 b1 b2 : Nat) (N lo K : Nat → Nat) (ys : List Value) (w : World) (hn : n ≤ 100) (hm : m ≤ 100) (hN : ∀ i, i < m → N i ≤ 100) (hK0 : K 0 = 1 + n) (hK : ∀ i, i < m → K (i + 1) = K i + 2 + N i) (hKb : ∀ i, i ≤ m → K i ≤ 90000)
    (h0 : OwnMsg w n m b1 b2 (.slice o1 n c1) (.slice o2 m c2) N lo K m (marksL 1 n) ys) :
    Calls Tryd.prog 8 #[.agg #[.int .i64 a, .int .i64 b, .int .i64 c, .int .i64 d, .int .i64 e, .slice o1 n c1, .slice o2 m c2], .int .i64 1] w fun e w' => e = .returned (.int .i64 (K m : Int)) ∧ Below w.heap.size w w' := by
  obtain ⟨w1, hw1⟩ : ∃ w1, w1 = w.alloc (.cells #[.int .i64 a, .int .i64 b, .int .i64 c, .int .i64 d, .int .i64 e, .slice o1 n c1, .slice o2 m c2] 25) := ⟨_, rfl⟩
  have hal : Below w.heap.size w w1 := by rw [hw1]; exact (Below.refl _ _).alloc (Nat.le_refl _) _
  have HM1 : Hid (w1.heap[w.heap.size]? = some (.cells #[.int .i64 a, .int .i64 b, .int .i64 c, .int .i64 d, .int .i64 e, .slice o1 n c1, .slice o2 m c2] 25 (0, 0))) := by rw [hw1]; exact alloc_new _ _
  have H1 := hid (h0.below hal)
  have HB1 := hid hal
  have CK := hid (heldK_any o1 n c1 b1 1 w1 (by omega) (by omega) H1.out.row1)
  have HK := hid hK
  have HN := hid hN
  have HKB := hid hKb
  have HK0 : Hid (((1 + n : Nat) : Int) = (K 0 : Int)) := by rw [hK0]; rfl
  have hk0 : ¬ (K 0 : Int) < 0 := by omega
  have hkm : ¬ (K m : Int) < 0 := by omega
  rw [HK0.out, show ((1 : Nat) : Int) = 1 from rfl] at CK
  clear hal h0 hK hN hKb hK0
  go_enter Tryd.func8, Tryd.ntmps8
  go_wp2_with fail
  rw [← hw1]
  clear hw1
  refine CK.out.mono ?_
  rintro ee w2 ⟨rfl, nq, rfl⟩
  have HB2 := hid (below_drewN HB1.out nq)
  have hbn : Below w1.heap.size w1 (w1.drewN nq) := below_drewN (Below.refl _ _) nq
  have m6 : (w1.drewN nq).cell? ⟨w.heap.size, 6, none⟩ = some (.slice o2 m c2) := by rw [in_block (blk_below HM1.out hbn) 6]; rfl
  have CE := hid (heldES_any o2 m c2 b2 N lo K ys (w1.drewN nq) hm HN.out HK.out HKB.out (row_below H1.out.row2 hbn) (H1.out.cells.below hbn))
  clear hbn
  go_wp2_with fail
  refine CE.out.mono ?_
  rintro ee w3 ⟨rfl, hb3⟩
  have HB3 := hid (HB2.out.trans (hb3.mono HB2.out.size))
  clear hb3 m6
  go_wp2
  go_ret
  exact ⟨rfl, HB3.out⟩

end Go.Proofs.YtcielnlhopjijabDoor

