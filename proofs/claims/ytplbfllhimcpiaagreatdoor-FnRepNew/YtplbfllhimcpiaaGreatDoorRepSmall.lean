/- DERIVED. One who decides that knows nothing, at work: its small functions. -/
import Derived.Test.YtplbfllhimcpiaaGreatDoorRepNewAny
import Derived.Test.YtplbfllhimcpiaaGreatDoorEntImpl
import Derived.Test.YtplbfllhimcpiaaGreatDoorShelf
import Derived.BigQuiet
namespace Go.Proofs.YtplbfllhimcpiaaGreatDoor
open Go.RowKit

theorem in_blockR {w : World} {b : Nat} {cur : Array Value} {t : TypeId} (h : w.heap[b]? = some (.cells cur t (0, 0))) (i : Nat) : w.cell? ⟨b, i, none⟩ = cur[i]? := by
  simp [World.cell?, h]

theorem free_blockR {w : World} {b : Nat} {cur : Array Value} {t : TypeId} (h : w.heap[b]? = some (.cells cur t (0, 0))) (i : Nat) : w.frozen? ⟨b, i, none⟩ = false := by
  simp [World.frozen?, h]

theorem alloc_newR (w : World) (x : Obj) : (w.alloc x).heap[w.heap.size]? = some x := by
  show (w.heap.push x)[w.heap.size]? = _
  simp

theorem blk_belowR {w w' : World} {k : Nat} {x : Obj} (h : w.heap[k]? = some x) (hb : Below w.heap.size w w') : w'.heap[k]? = some x := by
  rw [hb.block k (Array.getElem?_eq_some_iff.1 h).1]
  exact h

set_option maxRecDepth 100000 in
set_option maxHeartbeats 800000 in
theorem cloneN (w : World) :
    Calls Tryz.prog 55 #[.slice none 0 0] w fun e w' => e = .returned (.slice none 0 0) ∧ w' = w := by
  exact Go.Proofs.Tryz.slices_Clone_int_nil 0 0 w

set_option maxRecDepth 100000 in
set_option maxHeartbeats 800000 in
theorem copiedN (w : World) :
    Calls Tryz.prog 56 #[.slice none 0 0] w fun e w' => e = .returned (.slice none 0 0) ∧ w' = w := by
  go_enter Tryz.func56, Tryz.ntmps56
  go_wp2
  go_loop [3, 8] (fun k i => k = .slice none 0 0 ∧ i = .int .i64 0) (fun _ _ => 0)
  case atStart => exact ⟨rfl, rfl⟩
  case round =>
    obtain ⟨rfl, rfl⟩ := hrel
    go_wp2
    go_ret
    exact ⟨rfl, rfl⟩

set_option maxRecDepth 100000 in
set_option maxHeartbeats 800000 in
theorem equalN (f : Value) (w : World) :
    Calls Tryz.prog 57 #[.slice none 0 0, .slice none 0 0, f] w fun e w' => e = .returned (.bool true) ∧ w' = w := by
  go_enter Tryz.func57, Tryz.ntmps57
  go_wp2
  go_loop [17] (fun i => i = .int .i64 0) (fun _ => 0)
  case atStart => rfl
  case round =>
    subst hrel
    go_wp2
    go_ret
    exact ⟨rfl, rfl⟩

set_option maxRecDepth 100000 in
set_option maxHeartbeats 800000 in
theorem repsN (w : World) :
    Calls Tryz.prog 59 #[.slice none 0 0] w fun e w' => e = .returned (.bool true) ∧ w' = w := by
  go_enter Tryz.func59, Tryz.ntmps59
  go_wp2
  go_loop [7] (fun i => i = .int .i64 0) (fun _ => 0)
  case atStart => rfl
  case round =>
    subst hrel
    go_wp2
    go_ret
    exact ⟨rfl, rfl⟩

set_option maxRecDepth 100000 in
set_option maxHeartbeats 800000 in
theorem entriesWholeN (n : Int) (w : World) :
    Calls Tryz.prog 62 #[.int .i64 n, .slice none 0 0] w fun e w' => e = .returned (.bool true) ∧ w' = w := by
  go_enter Tryz.func62, Tryz.ntmps62
  go_wp2
  go_loop [9] (fun i => i = .int .i64 0) (fun _ => 0)
  case atStart => rfl
  case round =>
    subst hrel
    go_wp2
    go_ret
    exact ⟨rfl, rfl⟩

set_option maxRecDepth 100000 in
set_option maxHeartbeats 800000 in
theorem wholeG (n : Nat) (oa : Option Addr) (cp : Nat) (w : World) (h3 : n ≤ 3) (hV : NumsAt w oa (noneL n)) :
    Calls Tryz.prog 60 #[.int .i64 (n : Int), .slice oa n cp] w fun e w' => e = .returned (.bool true) ∧ w' = w := by
  have hl : n = (noneL n).length := by simp [noneL]
  have C := hid (implVotesOk_any oa cp n (noneL n) w hl (by omega) hV)
  have hv : okV (noneL n) = true := by
    match n, h3 with
    | 0, _ => rfl
    | 1, _ => rfl
    | 2, _ => rfl
    | 3, _ => rfl
  rw [hv] at C
  clear hl hV hv
  go_enter Tryz.func60, Tryz.ntmps60
  go_wp2_with fail
  refine C.out.mono ?_
  rintro e w1 ⟨rfl, rfl⟩
  go_wp2
  go_ret
  exact ⟨rfl, rfl⟩

set_option maxRecDepth 100000 in
set_option maxHeartbeats 800000 in
theorem sameN (w : World) :
    Calls Tryz.prog 32 #[.agg #[.int .i64 0, .slice none 0 0, .slice none 0 0], .agg #[.int .i64 0, .slice none 0 0, .slice none 0 0]] w fun e w' => e = .returned (.bool true) ∧ Below w.heap.size w w' := by
  go_enter Tryz.func32, Tryz.ntmps32
  go_wp2_with fail
  refine (equalN _ _).mono ?_
  rintro e w1 ⟨rfl, rfl⟩
  go_wp2_with fail
  refine (equalN _ _).mono ?_
  rintro e w1 ⟨rfl, rfl⟩
  go_wp2
  go_ret
  exact ⟨rfl, ((Below.refl _ _).alloc (Nat.le_refl _) _).alloc (by simp) _⟩

set_option maxRecDepth 100000 in
set_option maxHeartbeats 800000 in
theorem nothingN (w : World) :
    Calls Tryz.prog 33 #[.agg #[.int .i64 0, .slice none 0 0, .int .i64 0, .int .i64 0, .int .i64 0, .slice none 0 0, .slice none 0 0, .slice none 0 0]] w fun e w' => e = .returned (.bool true) ∧ Below w.heap.size w w' := by
  go_enter Tryz.func33, Tryz.ntmps33
  go_wp2
  go_ret
  exact ⟨rfl, (Below.refl _ _).alloc (Nat.le_refl _) _⟩

set_option maxRecDepth 100000 in
set_option maxHeartbeats 800000 in
theorem keptN (w : World) :
    Calls Tryz.prog 27 #[.string ⟨#[]⟩, .string ⟨#[]⟩, .int .i64 0] w fun e w' => e = .returned (.string ⟨#[]⟩) ∧ w' = w := by
  go_enter Tryz.func27, Tryz.ntmps27
  go_wp2
  go_ret
  exact ⟨rfl, rfl⟩

set_option maxRecDepth 100000 in
set_option maxHeartbeats 800000 in
theorem placeN (g : Nat) (id : Int) (n wt : Nat) (got : Value) (w : World) (h : w.heap[g]? = some (.cells #[.int .i64 id, .int .i64 (n : Int), .string ⟨#[]⟩, .int .i64 0, .slice none 0 0, .slice none 0 0, .int .i64 0, .slice none 0 0, .int .i64 0, .int .i64 (wt : Int), .int .i64 0, got, .slice none 0 0, .slice none 0 0, .slice none 0 0] 55 (0, 0))) (h1 : 10 ≤ id) (h2 : id ≤ 12) :
    Calls Tryz.prog 63 #[.pointer (some ⟨g, 0, none⟩)] w fun e w' => e = .returned (.int .i64 (id - 10)) ∧ w' = w := by
  have c0 : w.cell? ⟨g, 0, none⟩ = some (.int .i64 id) := by rw [in_blockR h 0]; rfl
  have hw : IntKind.i64.wrap (id - 10) = id - 10 := by rw [IntKind.wrap_i64]; omega
  clear h
  go_enter Tryz.func63, Tryz.ntmps63
  go_wp2
  go_ret
  exact ⟨rfl, rfl⟩

set_option maxRecDepth 100000 in
set_option maxHeartbeats 800000 in
theorem patienceN (g : Nat) (id : Int) (n wt : Nat) (got : Value) (w : World) (h : w.heap[g]? = some (.cells #[.int .i64 id, .int .i64 (n : Int), .string ⟨#[]⟩, .int .i64 0, .slice none 0 0, .slice none 0 0, .int .i64 0, .slice none 0 0, .int .i64 0, .int .i64 (wt : Int), .int .i64 0, got, .slice none 0 0, .slice none 0 0, .slice none 0 0] 55 (0, 0))) (h1 : 10 ≤ id) (h2 : id ≤ 12) :
    Calls Tryz.prog 38 #[.pointer (some ⟨g, 0, none⟩)] w fun e w' => e = .returned (.int .i64 (2 + 2 * (id - 10))) ∧ w' = w := by
  have C := hid (placeN g id n wt got w h h1 h2)
  have hw1 : IntKind.i64.wrap (2 * (id - 10)) = 2 * (id - 10) := by rw [IntKind.wrap_i64]; omega
  have hw2 : IntKind.i64.wrap (2 + 2 * (id - 10)) = 2 + 2 * (id - 10) := by rw [IntKind.wrap_i64]; omega
  clear h
  go_enter Tryz.func38, Tryz.ntmps38
  go_wp2_with fail
  refine C.out.mono ?_
  rintro e w1 ⟨rfl, rfl⟩
  go_wp2
  go_ret
  exact ⟨rfl, rfl⟩

set_option maxRecDepth 100000 in
set_option maxHeartbeats 800000 in
theorem leadsN (g o : Nat) (w : World) (h : w.cell? ⟨g, o, none⟩ = some (.int .i64 0)) :
    Calls Tryz.prog 36 #[.pointer (some ⟨g, o, none⟩)] w fun e w' => e = .returned (.bool false) ∧ w' = w := by
  go_enter Tryz.func36, Tryz.ntmps36
  go_wp2
  go_ret
  exact ⟨rfl, rfl⟩

set_option maxRecDepth 100000 in
set_option maxHeartbeats 800000 in
theorem entriesN (w : World) :
    Calls Tryz.prog 61 #[.slice none 0 0] w fun e w' => e = .returned (.bool true) ∧ Below w.heap.size w w' := by
  exact entriesOk_any none 0 0 [] w rfl (by decide) (fun i hi => absurd hi (Nat.not_lt_zero _))

set_option maxRecDepth 100000 in
set_option maxHeartbeats 800000 in
theorem mindOk (n : Nat) (oa : Option Addr) (cp : Nat) (w : World) (h3 : n ≤ 3) (hV : NumsAt w oa (noneL n)) :
    Calls Tryz.prog 34 #[.agg #[.int .i64 0, .slice none 0 0, .int .i64 0, .int .i64 0, .int .i64 0, .slice oa n cp, .slice none 0 0, .slice none 0 0], .int .i64 (n : Int)] w fun e w' => e = .returned (.bool true) ∧ Below w.heap.size w w' := by
  obtain ⟨w1, hw1⟩ : ∃ w1, w1 = w.alloc (.cells #[.int .i64 0, .slice none 0 0, .int .i64 0, .int .i64 0, .int .i64 0, .slice oa n cp, .slice none 0 0, .slice none 0 0] 52) := ⟨_, rfl⟩
  have HB1 : Hid (Below w.heap.size w w1) := by rw [hw1]; exact (Below.refl _ _).alloc (Nat.le_refl _) _
  have HM1 : Hid (w1.heap[w.heap.size]? = some (.cells #[.int .i64 0, .slice none 0 0, .int .i64 0, .int .i64 0, .int .i64 0, .slice oa n cp, .slice none 0 0, .slice none 0 0] 52 (0, 0))) := by rw [hw1]; exact alloc_newR _ _
  have CW := hid (wholeG n oa cp w1 h3 (hV.below HB1.out))
  clear hV
  go_enter Tryz.func34, Tryz.ntmps34
  go_wp2_with fail
  rw [← hw1]
  clear hw1
  refine (repsN _).mono ?_
  rintro e w2 ⟨rfl, rfl⟩
  have m0 : w2.cell? ⟨w.heap.size, 0, none⟩ = some (.int .i64 0) := by rw [in_blockR HM1.out 0]; rfl
  have m1 : w2.cell? ⟨w.heap.size, 1, none⟩ = some (.slice none 0 0) := by rw [in_blockR HM1.out 1]; rfl
  have m2 : w2.cell? ⟨w.heap.size, 2, none⟩ = some (.int .i64 0) := by rw [in_blockR HM1.out 2]; rfl
  have m3 : w2.cell? ⟨w.heap.size, 3, none⟩ = some (.int .i64 0) := by rw [in_blockR HM1.out 3]; rfl
  have m4 : w2.cell? ⟨w.heap.size, 4, none⟩ = some (.int .i64 0) := by rw [in_blockR HM1.out 4]; rfl
  have m5 : w2.cell? ⟨w.heap.size, 5, none⟩ = some (.slice oa n cp) := by rw [in_blockR HM1.out 5]; rfl
  have m6 : w2.cell? ⟨w.heap.size, 6, none⟩ = some (.slice none 0 0) := by rw [in_blockR HM1.out 6]; rfl
  have m7 : w2.cell? ⟨w.heap.size, 7, none⟩ = some (.slice none 0 0) := by rw [in_blockR HM1.out 7]; rfl
  go_wp2_with fail
  refine (repsN _).mono ?_
  rintro e w3 ⟨rfl, rfl⟩
  go_wp2_with fail
  refine CW.out.mono ?_
  rintro e w4 ⟨rfl, rfl⟩
  go_wp2_with fail
  refine (entriesN _).mono ?_
  rintro e w5 ⟨rfl, hb⟩
  have HB5 := hid (HB1.out.trans (hb.mono HB1.out.size))
  have HM5 := hid (blk_belowR HM1.out hb)
  clear hb m0 m1 m2 m3 m4 m5 m6 m7
  have m6 : w5.cell? ⟨w.heap.size, 6, none⟩ = some (.slice none 0 0) := by rw [in_blockR HM5.out 6]; rfl
  go_wp2_with fail
  refine (entriesWholeN _ _).mono ?_
  rintro e w6 ⟨rfl, rfl⟩
  go_wp2
  go_ret
  exact ⟨rfl, HB5.out⟩

end Go.Proofs.YtplbfllhimcpiaaGreatDoor
