/- DERIVED. The program's iterator over runs of hosts: its contract. -/
import Derived.RangeFuncNested
import Derived.RangeFuncBound
import Derived.RangeFuncCalls
import Derived.RangeFuncLeaves
import Derived.Shelf.Abstract
import Derived.Shelf.RegionOpen
import Derived.WalkKit
import Derived.OwnWalkIn
import Derived.TacticsInMore
import Derived.LoopNIn
import Derived.LoopIn
import Derived.Test.YtahhjhhnjpbocaaDoorHsList
import Derived.Test.YtahhjhhnjpbocaaDoorFoldPlain
namespace Go.Proofs.YtahhjhhnjpbocaaDoor
open Go.RowKit Go.Shelf

attribute [local go_sem] Oper.semAt_some

theorem sameName_any (s t : ByteArray) (n m : Int) (w : World) :
    Calls Tryd.prog 15 #[.agg #[.string s, .int .i64 n], .agg #[.string t, .int .i64 m]] w fun e w' => e = .returned (.bool (s.toList == t.toList)) ∧ Below w.heap.size w w' := by
  go_enter Tryd.func15, Tryd.ntmps15
  go_wp2
  go_ret
  exact ⟨rfl, ((Below.refl _ _).alloc (Nat.le_refl _) _).alloc (by simp) _⟩

theorem justAhead_any (s t : ByteArray) (n m : Int) (w : World) (h0 : 0 ≤ n) (h9 : n ≤ 999) :
    Calls Tryd.prog 29 #[.agg #[.string s, .int .i64 n], .agg #[.string t, .int .i64 m]] w fun e w' => e = .returned (.bool (n + 1 == m)) ∧ Below w.heap.size w w' := by
  have hw : IntKind.i64.wrap (n + 1) = n + 1 := by rw [IntKind.wrap_i64]; omega
  go_enter Tryd.func29, Tryd.ntmps29
  go_wp2
  go_ret
  exact ⟨rfl, ((Below.refl _ _).alloc (Nat.le_refl _) _).alloc (by simp) _⟩

theorem runs_any (a : Option Addr) (len cap fb : Nat) (w : World) :
    Calls Tryd.prog 14 #[.slice a len cap, .func (.func fb) #[] #[]] w fun e w' => e = .returned (.func (.func 28) #[] #[.pointer (some ⟨w.heap.size, 0, none⟩), .pointer (some ⟨w.heap.size + 1, 0, none⟩)]) ∧ w' = (w.alloc (.cells #[.slice a len cap] 23)).alloc (.cells #[.func (.func fb) #[] #[]] 41) := by
  go_enter Tryd.func14, Tryd.ntmps14
  go_wp2
  go_ret
  exact ⟨rfl, rfl⟩

/-- Where the runs begin. -/
def startsL (p : Nat → Bool) (i n : Nat) : List Nat :=
  stepsF n (fun i => stretch p i n) [] (fun i r => i :: r) (n - i) i

theorem startsL_eqn (p : Nat → Bool) (i n : Nat) : startsL p i n = if _h : i < n then i :: startsL p (i + stretch p i n) n else [] :=
  stepsF_eqn n _ _ _ (fun i => stretch_pos p i n) i

theorem startsL_step (p : Nat → Bool) (i n : Nat) (h : i < n) : startsL p i n = i :: startsL p (i + stretch p i n) n := by
  rw [startsL_eqn, dif_pos h]

theorem startsL_end (p : Nat → Bool) (i n : Nat) (h : ¬ i < n) : startsL p i n = [] := by
  rw [startsL_eqn, dif_neg h]

/-- A place in the list. -/
abbrev At (len : Nat) := { i : Nat // i < len }

/-- What the iterator hands on. -/
def handed (b off len cap : Nat) (p : Nat → Bool) (i : At len) : Array Value := #[.slice (some ⟨b, off + i.1 * 2, none⟩) (stretch p i.1 len) (cap - i.1)]

/-- What a round keeps: all below n₀, and the iterator's two boxes. -/
def KeepsRow (n₀ B1 B2 : Nat) (W W' : World) : Prop := Below n₀ W W' ∧ W'.cell? ⟨B1, 0, none⟩ = W.cell? ⟨B1, 0, none⟩ ∧ W'.cell? ⟨B2, 0, none⟩ = W.cell? ⟨B2, 0, none⟩

theorem KeepsRow.refl (n₀ B1 B2 : Nat) (W : World) : KeepsRow n₀ B1 B2 W W := ⟨Below.refl _ _, rfl, rfl⟩

theorem KeepsRow.trans {n₀ B1 B2 : Nat} {A B C : World} (h : KeepsRow n₀ B1 B2 A B) (k : KeepsRow n₀ B1 B2 B C) : KeepsRow n₀ B1 B2 A C :=
  ⟨h.1.trans k.1, k.2.1.trans h.2.1, k.2.2.trans h.2.2⟩

theorem RowAt.kept {w w' : World} {n₀ b off len : Nat} {S : Nat → ByteArray} {M : Nat → Int} (h : RowAt w b off len S M) (hb : b < n₀) (k : Below n₀ w w') : RowAt w' b off len S M where
  old := Nat.lt_of_lt_of_le h.old k.size
  name := fun i hi => by rw [k.cell hb]; exact h.name i hi
  num := fun i hi => by rw [k.cell hb]; exact h.num i hi
  small := h.small

theorem abide {α : Type} {J : List α → World → Prop} {B : Nat} (hJ : AbidesFrom B J) {pre : List α} {W W' : World} (h : J pre W) (hb : Below W.heap.size W W') : J pre W' :=
  hJ pre W W' none h ⟨hb.os, hb.tape, hb.output, hb.size, fun i hi _ => hb.block i hi⟩ (fun r e => by cases e)

set_option maxRecDepth 100000 in
set_option maxHeartbeats 2000000 in
theorem runsSame (n : Nat) (hn : 1 ≤ n) (l B1 B2 n₀ b off len cap : Nat) (p : Nat → Bool) (S : Nat → ByteArray) (M : Nat → Int) (hc : len ≤ cap) (hm : cap ≤ maxLen) (hb : b < n₀)
    (hbel : ∀ j w, 0 < j → j < len → Calls Tryd.prog 15 #[.agg #[.string (S (j - 1)), .int .i64 (M (j - 1))], .agg #[.string (S j), .int .i64 (M j)]] w fun e w' => e = .returned (.bool (p j)) ∧ Below w.heap.size w w')
    (J Jx : List (At len) → World → Prop) (B : Nat) (hJ : AbidesFrom B J) (W : World) (hB1 : B1 < W.heap.size) (hB2 : B2 < W.heap.size) (hn₀ : n₀ ≤ W.heap.size)
    (hY : ∀ pre x W1, J pre W1 → pre.length < len → YieldAt Fence.wide (n - 1) Tryd.prog l (handed b off len cap p x) W1 fun e W' =>
      (e = .returned (.bool true) ∧ J (pre ++ [x]) W' ∧ KeepsRow n₀ B1 B2 W1 W') ∨ (e = .returned (.bool false) ∧ Jx (pre ++ [x]) W'))
    (c1 : W.cell? ⟨B1, 0, none⟩ = some (.slice (some ⟨b, off, none⟩) len cap)) (c2 : W.cell? ⟨B2, 0, none⟩ = some (.func (.func 15) #[] #[])) (R : RowAt W b off len S M) (h0 : J [] W) :
    CallsIn Fence.wide n Tryd.prog 28 #[.func (.yield l) #[] #[], .pointer (some ⟨B1, 0, none⟩), .pointer (some ⟨B2, 0, none⟩)] W fun e W' => (∃ v, e = .returned v) ∧
      ((∃ ys, ys.map (·.1) = startsL p 0 len ∧ J ys W') ∨ (∃ pre : List (At len), True ∧ Jx pre W')) := by
  have hm' : cap ≤ 2 ^ 63 - 1 := hm
  have HJ := hid hJ
  have HY := hid hY
  have HBEL := hid hbel
  clear hJ hY hbel
  refine callsIn_of_wp Tryd.func28 rfl trivial ?_ rfl
  simp only [Tryd.ntmps28, List.size_toArray, List.length_cons, List.length_nil, Nat.reduceAdd, Nat.reduceSub, Array.replicate_succ, Array.replicate_zero, List.push_toArray, List.append_toArray, List.nil_append, List.cons_append]
  gi_wp2
  gi_loopw [4] (fun i wr => ∃ (k : Nat) (pre : List (At len)), k ≤ len ∧ i = .int .i64 k ∧ pre.length ≤ k ∧ pre.map (·.1) ++ startsL p k len = startsL p 0 len ∧ J pre wr ∧ KeepsRow n₀ B1 B2 W wr) (fun i _ => len - (intOf i).toNat)
  case atStart => exact ⟨0, [], Nat.zero_le _, rfl, Nat.le_refl _, rfl, h0, KeepsRow.refl _ _ _ _⟩
  case round =>
    obtain ⟨k, pre, hk, rfl, hpl, hst, hj, hkr⟩ := hrel
    have HJP := hid hj
    have HST := hid hst
    have HK := hid hkr
    clear hj hst hkr
    have HR : Hid (RowAt wr b off len S M) := R.kept hb HK.out.1
    have d1 := HK.out.2.1.trans c1
    have d2 := HK.out.2.2.trans c2
    have e1 : B1 < wr.heap.size := Nat.lt_of_lt_of_le hB1 HK.out.1.size
    have e2 : B2 < wr.heap.size := Nat.lt_of_lt_of_le hB2 HK.out.1.size
    have e3 : n₀ ≤ wr.heap.size := Nat.le_trans hn₀ HK.out.1.size
    by_cases hlt : k < len
    · have hg : (k : Int) < (len : Int) := by omega
      rename World => wo
      gi_wp2
      gi_loopw [5] (fun t w2 => ∃ j : Nat, k < j ∧ j ≤ len ∧ t = .int .i64 j ∧ (∀ x, k < x → x < j → p x = true) ∧ Below wo.heap.size wo w2) (fun t _ => len - (intOf t).toNat)
      case atStart => exact ⟨k + 1, by omega, hlt, by go_num, fun j a b => by omega, Below.refl _ _⟩
      case round =>
        obtain ⟨j, hkj, hjl, rfl, hall, hbw⟩ := hrel
        have HA := hid hall
        have HBW := hid hbw
        clear hall hbw
        have HRI : Hid (RowAt wr b off len S M) := HR.out.kept (by omega) HBW.out
        have f1 : wr.cell? ⟨B1, 0, none⟩ = some (.slice (some ⟨b, off, none⟩) len cap) := (HBW.out.cell (p := ⟨B1, 0, none⟩) e1).trans d1
        have f2 : wr.cell? ⟨B2, 0, none⟩ = some (.func (.func 15) #[] #[]) := (HBW.out.cell (p := ⟨B2, 0, none⟩) e2).trans d2
        by_cases hlj : j < len
        · obtain ⟨q, hq⟩ : ∃ q, q = j - 1 := ⟨_, rfl⟩
          have HQ := hid hq
          have hsub : (j : Int) - 1 = (q : Int) := by omega
          have hwq : IntKind.i64.wrap (q : Int) = (q : Int) := by rw [IntKind.wrap_i64]; omega
          have hql : q < len := by omega
          clear hq
          have g1 := HRI.out.name q hql
          have g2 := HRI.out.num q hql
          have g3 := HRI.out.name j hlj
          have g4 := HRI.out.num j hlj
          have hgj : (j : Int) < (len : Int) := by omega
          cases hp : p j
          · have CB : Hid (∀ w, Calls Tryd.prog 15 #[.agg #[.string (S q), .int .i64 (M q)], .agg #[.string (S j), .int .i64 (M j)]] w fun e w' => e = .returned (.bool false) ∧ Below w.heap.size w w') := fun w => by rw [HQ.out, ← hp]; exact HBEL.out j w (by omega) hlj
            have HF : Hid (stretch p k len = j - k) := stretch_eq p k len (j - k) (by omega) (fun x a b => HA.out x a (by omega)) (by omega) (Or.inr (by rw [show k + (j - k) = j by omega]; exact hp))
            gi_wp2_with fail
            refine wpIn_wide.2 ?_
            refine wp_region_held_drew (S := fun w' => w'.cell? ⟨B1, 0, none⟩ = some (.slice (some ⟨b, off, none⟩) len cap) ∧ w'.cell? ⟨B2, 0, none⟩ = some (.func (.func 15) #[] #[]) ∧ w'.cell? ⟨b, off + q * 2, none⟩ = some (.string (S q)) ∧ w'.cell? ⟨b, off + q * 2 + 1, none⟩ = some (.int .i64 (M q)) ∧ w'.cell? ⟨b, off + j * 2, none⟩ = some (.string (S j)) ∧ w'.cell? ⟨b, off + j * 2 + 1, none⟩ = some (.int .i64 (M j))) (by kernel_rfl) ?_ (fun hS => ?_)
            · exact ⟨f1, f2, g1, g2, g3, g4⟩
            refine takeH_on 0 (v := ?_) rfl rfl (by kernel_rfl) (by kernel_rfl) (by kernel_rfl) (fun _ _ _ h => h) (by rfl) hS (fun w hSw => ?_) ?_
            rotate_left
            · ((try dsimp only at hSw); go_simp; try with_reducible rfl)
            simp only [List.setIfInBounds_toArray, List.set_cons_zero, List.set_cons_succ]
            refine takeH_on 1 (v := ?_) rfl rfl (by kernel_rfl) (by kernel_rfl) (by kernel_rfl) (fun _ _ _ h => h) (by rfl) hS (fun w hSw => ?_) ?_
            rotate_left
            · ((try dsimp only at hSw); go_simp; try with_reducible rfl)
            simp only [List.setIfInBounds_toArray, List.set_cons_zero, List.set_cons_succ]
            refine takeH_on 2 (v := ?_) rfl rfl (by kernel_rfl) (by kernel_rfl) (by kernel_rfl) (fun _ _ _ h => h) (by rfl) hS (fun w hSw => ?_) ?_
            rotate_left
            · ((try dsimp only at hSw); go_simp; try with_reducible rfl)
            simp only [List.setIfInBounds_toArray, List.set_cons_zero, List.set_cons_succ]
            refine takeH_on 3 (v := .bool true) rfl rfl (by kernel_rfl) (by kernel_rfl) (by kernel_rfl) (fun _ _ _ h => h) (by rfl) hS (fun w hSw => ?_) ?_
            · ((try dsimp only at hSw); go_simp; try with_reducible rfl)
            simp only [List.setIfInBounds_toArray, List.set_cons_zero, List.set_cons_succ]
            refine takeH_on 4 (v := ?_) rfl rfl (by kernel_rfl) (by kernel_rfl) (by kernel_rfl) (fun _ _ _ h => h) (by rfl) hS (fun w hSw => ?_) ?_
            rotate_left
            · ((try dsimp only at hSw); go_simp; try with_reducible rfl)
            simp only [List.setIfInBounds_toArray, List.set_cons_zero, List.set_cons_succ]
            refine takeH_on 5 (v := ?_) rfl rfl (by kernel_rfl) (by kernel_rfl) (by kernel_rfl) (fun _ _ _ h => h) (by rfl) hS (fun w hSw => ?_) ?_
            rotate_left
            · ((try dsimp only at hSw); go_simp; try with_reducible rfl)
            simp only [List.setIfInBounds_toArray, List.set_cons_zero, List.set_cons_succ]
            refine takeH_on 6 (v := ?_) rfl rfl (by kernel_rfl) (by kernel_rfl) (by kernel_rfl) (fun _ _ _ h => h) (by rfl) hS (fun w hSw => ?_) ?_
            rotate_left
            · ((try dsimp only at hSw); go_simp; try with_reducible rfl)
            simp only [List.setIfInBounds_toArray, List.set_cons_zero, List.set_cons_succ]
            refine takeH_on 7 (v := ?_) rfl rfl (by kernel_rfl) (by kernel_rfl) (by kernel_rfl) (fun _ _ _ h => h) (by rfl) hS (fun w hSw => ?_) ?_
            rotate_left
            · ((try dsimp only at hSw); go_simp; try with_reducible rfl)
            simp only [List.setIfInBounds_toArray, List.set_cons_zero, List.set_cons_succ]
            refine takeH_on 8 (v := .int .i64 (q : Int)) rfl rfl (by kernel_rfl) (by kernel_rfl) (by kernel_rfl) (fun _ _ _ h => h) (by rfl) hS (fun w hSw => ?_) ?_
            · ((try dsimp only at hSw); go_simp; try with_reducible rfl)
            simp only [List.setIfInBounds_toArray, List.set_cons_zero, List.set_cons_succ]
            refine takeH_on 9 (v := .pointer (some ⟨b, off + q * 2, none⟩)) rfl rfl (by kernel_rfl) (by kernel_rfl) (by kernel_rfl) (fun _ _ _ h => h) (by rfl) hS (fun w hSw => ?_) ?_
            · ((try dsimp only at hSw); go_simp; try with_reducible rfl)
            simp only [List.setIfInBounds_toArray, List.set_cons_zero, List.set_cons_succ]
            refine takeH_on 10 (v := .agg #[.string (S q), .int .i64 (M q)]) rfl rfl (by kernel_rfl) (by kernel_rfl) (by kernel_rfl) (fun _ _ _ h => h) (by rfl) hS (fun w hSw => ?_) ?_
            · ((try dsimp only at hSw); go_simp; try with_reducible rfl)
            simp only [List.setIfInBounds_toArray, List.set_cons_zero, List.set_cons_succ]
            refine takeH_on 11 (v := ?_) rfl rfl (by kernel_rfl) (by kernel_rfl) (by kernel_rfl) (fun _ _ _ h => h) (by rfl) hS (fun w hSw => ?_) ?_
            rotate_left
            · ((try dsimp only at hSw); go_simp; try with_reducible rfl)
            simp only [List.setIfInBounds_toArray, List.set_cons_zero, List.set_cons_succ]
            refine takeH_on 12 (v := ?_) rfl rfl (by kernel_rfl) (by kernel_rfl) (by kernel_rfl) (fun _ _ _ h => h) (by rfl) hS (fun w hSw => ?_) ?_
            rotate_left
            · ((try dsimp only at hSw); go_simp; try with_reducible rfl)
            simp only [List.setIfInBounds_toArray, List.set_cons_zero, List.set_cons_succ]
            refine takeH_on 13 (v := .pointer (some ⟨b, off + j * 2, none⟩)) rfl rfl (by kernel_rfl) (by kernel_rfl) (by kernel_rfl) (fun _ _ _ h => h) (by rfl) hS (fun w hSw => ?_) ?_
            · ((try dsimp only at hSw); go_simp; try with_reducible rfl)
            simp only [List.setIfInBounds_toArray, List.set_cons_zero, List.set_cons_succ]
            refine takeH_on 14 (v := .agg #[.string (S j), .int .i64 (M j)]) rfl rfl (by kernel_rfl) (by kernel_rfl) (by kernel_rfl) (fun _ _ _ h => h) (by rfl) hS (fun w hSw => ?_) ?_
            · ((try dsimp only at hSw); go_simp; try with_reducible rfl)
            simp only [List.setIfInBounds_toArray, List.set_cons_zero, List.set_cons_succ]
            refine wpAnyH_ready (rs := [15]) (by kernel_rfl) (by simp) (AllReadyH.cons rfl (fun K hK => ?_) AllReadyH.nil)
            clear hS
            go_simp
            go_wp2_with fail
            refine (CB.out _).mono ?_
            rintro e w2 ⟨rfl, hb2⟩
            have HB2 : Hid (Below wo.heap.size wo w2) := HBW.out.drew.trans (hb2.mono HBW.out.size)
            have i1 := HBW.out.size
            have k1 : w2.cell? ⟨B1, 0, none⟩ = _ := (hb2.cell (p := ⟨B1, 0, none⟩) (by simp; omega)).trans f1
            have k2 : w2.cell? ⟨B2, 0, none⟩ = _ := (hb2.cell (p := ⟨B2, 0, none⟩) (by simp; omega)).trans f2
            have k3 := (hb2.cell (p := ⟨b, off + q * 2, none⟩) (by simp; omega)).trans g1
            have k4 := (hb2.cell (p := ⟨b, off + q * 2 + 1, none⟩) (by simp; omega)).trans g2
            have k5 := (hb2.cell (p := ⟨b, off + j * 2, none⟩) (by simp; omega)).trans g3
            have k6 := (hb2.cell (p := ⟨b, off + j * 2 + 1, none⟩) (by simp; omega)).trans g4
            clear hb2 i1 CB
            refine Shut.out hK _ _ ⟨k1, k2, k3, k4, k5, k6⟩ (fun hS => ?_)
            clear hK K
            refine takeH_on 16 (v := ?_) rfl rfl (by kernel_rfl) (by kernel_rfl) (by kernel_rfl) (fun _ _ _ h => h) (by rfl) hS (fun w hSw => ?_) ?_
            rotate_left
            · ((try dsimp only at hSw); go_simp; try with_reducible rfl)
            simp only [List.setIfInBounds_toArray, List.set_cons_zero, List.set_cons_succ]
            refine wpAnyH_done (by kernel_rfl) ?_ _
            obtain ⟨g, hgj⟩ : ∃ g, g = j - k := ⟨_, rfl⟩
            have hjk : j - k = g := hgj.symm
            obtain ⟨cc, hcc⟩ : ∃ cc, cc = cap - k := ⟨_, rfl⟩
            have hck : cap - k = cc := hcc.symm
            have hcc0 : g ≤ cc := by omega
            have hg0 : 0 < g := by omega
            have hcc1 : ¬ cc = 0 := by omega
            have hkc : ¬ cap = k := by omega
            have hkj2 : (k : Int) ≤ (j : Int) := by omega
            have hjc : (j : Int) ≤ (cap : Int) := by omega
            clear hgj hcc
            obtain ⟨fn, tmps, assign, body, hy, hR⟩ := HY.out pre ⟨k, hlt⟩ w2 (abide HJ.out HJP.out HB2.out) (by omega)
            rw [handed, HF.out] at hy
            dsimp only at hy
            rw [hjk, hck] at hy
            have HKW : Hid (KeepsRow n₀ B1 B2 W w2) := HK.out.trans ⟨HB2.out.mono e3, HB2.out.cell (p := ⟨B1, 0, none⟩) e1, HB2.out.cell (p := ⟨B2, 0, none⟩) e2⟩
            have HSS : Hid ((pre ++ [(⟨k, hlt⟩ : At len)]).map (·.1) ++ startsL p j len = startsL p 0 len) := by
              show _ = _
              rw [← HST.out, startsL_step p k len hlt, HF.out, show k + (j - k) = j by omega]
              simp
            have HRR := hid hR
            clear hR
            gi_wp2
            refine HRR.out.mono ?_
            rintro e W3 (⟨rfl, hJ3, hk3⟩ | ⟨rfl, hJx3⟩)
            · gi_wp2
              go_roundw
              case rel => exact ⟨j, pre ++ [⟨k, hlt⟩], hjl, rfl, by simp; omega, HSS.out, hJ3, HKW.out.trans hk3⟩
              case measure => simp [intOf]; omega
            · gi_wp2
              refine bodyPost_ret (results_none rfl _ _ _) rfl ?_
              exact ⟨⟨_, rfl⟩, .inr ⟨_, trivial, hJx3⟩⟩
          · have CB : Hid (∀ w, Calls Tryd.prog 15 #[.agg #[.string (S q), .int .i64 (M q)], .agg #[.string (S j), .int .i64 (M j)]] w fun e w' => e = .returned (.bool true) ∧ Below w.heap.size w w') := fun w => by rw [HQ.out, ← hp]; exact HBEL.out j w (by omega) hlj
            have HN : Hid (∀ x, k < x → x < j + 1 → p x = true) := fun x a b => by
              by_cases e : x = j
              · rw [e]; exact hp
              · exact HA.out x a (by omega)
            gi_wp2_with fail
            refine wpIn_wide.2 ?_
            refine wp_region_held_drew (S := fun w' => w'.cell? ⟨B1, 0, none⟩ = some (.slice (some ⟨b, off, none⟩) len cap) ∧ w'.cell? ⟨B2, 0, none⟩ = some (.func (.func 15) #[] #[]) ∧ w'.cell? ⟨b, off + q * 2, none⟩ = some (.string (S q)) ∧ w'.cell? ⟨b, off + q * 2 + 1, none⟩ = some (.int .i64 (M q)) ∧ w'.cell? ⟨b, off + j * 2, none⟩ = some (.string (S j)) ∧ w'.cell? ⟨b, off + j * 2 + 1, none⟩ = some (.int .i64 (M j))) (by kernel_rfl) ?_ (fun hS => ?_)
            · exact ⟨f1, f2, g1, g2, g3, g4⟩
            refine takeH_on 0 (v := ?_) rfl rfl (by kernel_rfl) (by kernel_rfl) (by kernel_rfl) (fun _ _ _ h => h) (by rfl) hS (fun w hSw => ?_) ?_
            rotate_left
            · ((try dsimp only at hSw); go_simp; try with_reducible rfl)
            simp only [List.setIfInBounds_toArray, List.set_cons_zero, List.set_cons_succ]
            refine takeH_on 1 (v := ?_) rfl rfl (by kernel_rfl) (by kernel_rfl) (by kernel_rfl) (fun _ _ _ h => h) (by rfl) hS (fun w hSw => ?_) ?_
            rotate_left
            · ((try dsimp only at hSw); go_simp; try with_reducible rfl)
            simp only [List.setIfInBounds_toArray, List.set_cons_zero, List.set_cons_succ]
            refine takeH_on 2 (v := ?_) rfl rfl (by kernel_rfl) (by kernel_rfl) (by kernel_rfl) (fun _ _ _ h => h) (by rfl) hS (fun w hSw => ?_) ?_
            rotate_left
            · ((try dsimp only at hSw); go_simp; try with_reducible rfl)
            simp only [List.setIfInBounds_toArray, List.set_cons_zero, List.set_cons_succ]
            refine takeH_on 3 (v := .bool true) rfl rfl (by kernel_rfl) (by kernel_rfl) (by kernel_rfl) (fun _ _ _ h => h) (by rfl) hS (fun w hSw => ?_) ?_
            · ((try dsimp only at hSw); go_simp; try with_reducible rfl)
            simp only [List.setIfInBounds_toArray, List.set_cons_zero, List.set_cons_succ]
            refine takeH_on 4 (v := ?_) rfl rfl (by kernel_rfl) (by kernel_rfl) (by kernel_rfl) (fun _ _ _ h => h) (by rfl) hS (fun w hSw => ?_) ?_
            rotate_left
            · ((try dsimp only at hSw); go_simp; try with_reducible rfl)
            simp only [List.setIfInBounds_toArray, List.set_cons_zero, List.set_cons_succ]
            refine takeH_on 5 (v := ?_) rfl rfl (by kernel_rfl) (by kernel_rfl) (by kernel_rfl) (fun _ _ _ h => h) (by rfl) hS (fun w hSw => ?_) ?_
            rotate_left
            · ((try dsimp only at hSw); go_simp; try with_reducible rfl)
            simp only [List.setIfInBounds_toArray, List.set_cons_zero, List.set_cons_succ]
            refine takeH_on 6 (v := ?_) rfl rfl (by kernel_rfl) (by kernel_rfl) (by kernel_rfl) (fun _ _ _ h => h) (by rfl) hS (fun w hSw => ?_) ?_
            rotate_left
            · ((try dsimp only at hSw); go_simp; try with_reducible rfl)
            simp only [List.setIfInBounds_toArray, List.set_cons_zero, List.set_cons_succ]
            refine takeH_on 7 (v := ?_) rfl rfl (by kernel_rfl) (by kernel_rfl) (by kernel_rfl) (fun _ _ _ h => h) (by rfl) hS (fun w hSw => ?_) ?_
            rotate_left
            · ((try dsimp only at hSw); go_simp; try with_reducible rfl)
            simp only [List.setIfInBounds_toArray, List.set_cons_zero, List.set_cons_succ]
            refine takeH_on 8 (v := .int .i64 (q : Int)) rfl rfl (by kernel_rfl) (by kernel_rfl) (by kernel_rfl) (fun _ _ _ h => h) (by rfl) hS (fun w hSw => ?_) ?_
            · ((try dsimp only at hSw); go_simp; try with_reducible rfl)
            simp only [List.setIfInBounds_toArray, List.set_cons_zero, List.set_cons_succ]
            refine takeH_on 9 (v := .pointer (some ⟨b, off + q * 2, none⟩)) rfl rfl (by kernel_rfl) (by kernel_rfl) (by kernel_rfl) (fun _ _ _ h => h) (by rfl) hS (fun w hSw => ?_) ?_
            · ((try dsimp only at hSw); go_simp; try with_reducible rfl)
            simp only [List.setIfInBounds_toArray, List.set_cons_zero, List.set_cons_succ]
            refine takeH_on 10 (v := .agg #[.string (S q), .int .i64 (M q)]) rfl rfl (by kernel_rfl) (by kernel_rfl) (by kernel_rfl) (fun _ _ _ h => h) (by rfl) hS (fun w hSw => ?_) ?_
            · ((try dsimp only at hSw); go_simp; try with_reducible rfl)
            simp only [List.setIfInBounds_toArray, List.set_cons_zero, List.set_cons_succ]
            refine takeH_on 11 (v := ?_) rfl rfl (by kernel_rfl) (by kernel_rfl) (by kernel_rfl) (fun _ _ _ h => h) (by rfl) hS (fun w hSw => ?_) ?_
            rotate_left
            · ((try dsimp only at hSw); go_simp; try with_reducible rfl)
            simp only [List.setIfInBounds_toArray, List.set_cons_zero, List.set_cons_succ]
            refine takeH_on 12 (v := ?_) rfl rfl (by kernel_rfl) (by kernel_rfl) (by kernel_rfl) (fun _ _ _ h => h) (by rfl) hS (fun w hSw => ?_) ?_
            rotate_left
            · ((try dsimp only at hSw); go_simp; try with_reducible rfl)
            simp only [List.setIfInBounds_toArray, List.set_cons_zero, List.set_cons_succ]
            refine takeH_on 13 (v := .pointer (some ⟨b, off + j * 2, none⟩)) rfl rfl (by kernel_rfl) (by kernel_rfl) (by kernel_rfl) (fun _ _ _ h => h) (by rfl) hS (fun w hSw => ?_) ?_
            · ((try dsimp only at hSw); go_simp; try with_reducible rfl)
            simp only [List.setIfInBounds_toArray, List.set_cons_zero, List.set_cons_succ]
            refine takeH_on 14 (v := .agg #[.string (S j), .int .i64 (M j)]) rfl rfl (by kernel_rfl) (by kernel_rfl) (by kernel_rfl) (fun _ _ _ h => h) (by rfl) hS (fun w hSw => ?_) ?_
            · ((try dsimp only at hSw); go_simp; try with_reducible rfl)
            simp only [List.setIfInBounds_toArray, List.set_cons_zero, List.set_cons_succ]
            refine wpAnyH_ready (rs := [15]) (by kernel_rfl) (by simp) (AllReadyH.cons rfl (fun K hK => ?_) AllReadyH.nil)
            clear hS
            go_simp
            go_wp2_with fail
            refine (CB.out _).mono ?_
            rintro e w2 ⟨rfl, hb2⟩
            have HB2 : Hid (Below wo.heap.size wo w2) := HBW.out.drew.trans (hb2.mono HBW.out.size)
            have i1 := HBW.out.size
            have k1 : w2.cell? ⟨B1, 0, none⟩ = _ := (hb2.cell (p := ⟨B1, 0, none⟩) (by simp; omega)).trans f1
            have k2 : w2.cell? ⟨B2, 0, none⟩ = _ := (hb2.cell (p := ⟨B2, 0, none⟩) (by simp; omega)).trans f2
            have k3 := (hb2.cell (p := ⟨b, off + q * 2, none⟩) (by simp; omega)).trans g1
            have k4 := (hb2.cell (p := ⟨b, off + q * 2 + 1, none⟩) (by simp; omega)).trans g2
            have k5 := (hb2.cell (p := ⟨b, off + j * 2, none⟩) (by simp; omega)).trans g3
            have k6 := (hb2.cell (p := ⟨b, off + j * 2 + 1, none⟩) (by simp; omega)).trans g4
            clear hb2 i1 CB
            refine Shut.out hK _ _ ⟨k1, k2, k3, k4, k5, k6⟩ (fun hS => ?_)
            clear hK K
            refine takeH_on 16 (v := ?_) rfl rfl (by kernel_rfl) (by kernel_rfl) (by kernel_rfl) (fun _ _ _ h => h) (by rfl) hS (fun w hSw => ?_) ?_
            rotate_left
            · ((try dsimp only at hSw); go_simp; try with_reducible rfl)
            simp only [List.setIfInBounds_toArray, List.set_cons_zero, List.set_cons_succ]
            refine wpAnyH_done (by kernel_rfl) ?_ _
            gi_wp2
            go_roundw
            case rel => exact ⟨j + 1, by omega, by omega, by go_num, HN.out, HB2.out⟩
            case measure => simp [intOf]; omega
        · have HF : Hid (stretch p k len = j - k) := stretch_eq p k len (j - k) (by omega) (fun x a b => HA.out x a (by omega)) (by omega) (Or.inl (by omega))
          have hgj : ¬ (j : Int) < (len : Int) := by omega
          gi_wp2_with fail
          refine wpIn_wide.2 ?_
          refine wp_region_held_drew (S := fun w' => w'.cell? ⟨B1, 0, none⟩ = some (.slice (some ⟨b, off, none⟩) len cap)) (by kernel_rfl) ?_ (fun hS => ?_)
          · exact f1
          refine takeH_on 0 (v := ?_) rfl rfl (by kernel_rfl) (by kernel_rfl) (by kernel_rfl) (fun _ _ _ h => h) (by rfl) hS (fun w hSw => ?_) ?_
          rotate_left
          · ((try dsimp only at hSw); go_simp; try with_reducible rfl)
          simp only [List.setIfInBounds_toArray, List.set_cons_zero, List.set_cons_succ]
          refine takeH_on 1 (v := ?_) rfl rfl (by kernel_rfl) (by kernel_rfl) (by kernel_rfl) (fun _ _ _ h => h) (by rfl) hS (fun w hSw => ?_) ?_
          rotate_left
          · ((try dsimp only at hSw); go_simp; try with_reducible rfl)
          simp only [List.setIfInBounds_toArray, List.set_cons_zero, List.set_cons_succ]
          refine takeH_on 2 (v := ?_) rfl rfl (by kernel_rfl) (by kernel_rfl) (by kernel_rfl) (fun _ _ _ h => h) (by rfl) hS (fun w hSw => ?_) ?_
          rotate_left
          · ((try dsimp only at hSw); go_simp; try with_reducible rfl)
          simp only [List.setIfInBounds_toArray, List.set_cons_zero, List.set_cons_succ]
          refine takeH_on 3 (v := .bool false) rfl rfl (by kernel_rfl) (by kernel_rfl) (by kernel_rfl) (fun _ _ _ h => h) (by rfl) hS (fun w hSw => ?_) ?_
          · ((try dsimp only at hSw); go_simp; try with_reducible rfl)
          simp only [List.setIfInBounds_toArray, List.set_cons_zero, List.set_cons_succ]
          refine takeH_on 4 (v := ?_) rfl rfl (by kernel_rfl) (by kernel_rfl) (by kernel_rfl) (fun _ _ _ h => h) (by rfl) hS (fun w hSw => ?_) ?_
          rotate_left
          · ((try dsimp only at hSw); go_simp; try with_reducible rfl)
          simp only [List.setIfInBounds_toArray, List.set_cons_zero, List.set_cons_succ]
          refine takeH_off 5 rfl rfl (by kernel_rfl) (by kernel_rfl) (by kernel_rfl) (fun _ _ _ h => h) (by rfl) hS ?_
          simp only [List.setIfInBounds_toArray, List.set_cons_zero, List.set_cons_succ]
          refine takeH_off 6 rfl rfl (by kernel_rfl) (by kernel_rfl) (by kernel_rfl) (fun _ _ _ h => h) (by rfl) hS ?_
          simp only [List.setIfInBounds_toArray, List.set_cons_zero, List.set_cons_succ]
          refine takeH_off 7 rfl rfl (by kernel_rfl) (by kernel_rfl) (by kernel_rfl) (fun _ _ _ h => h) (by rfl) hS ?_
          simp only [List.setIfInBounds_toArray, List.set_cons_zero, List.set_cons_succ]
          refine takeH_off 8 rfl rfl (by kernel_rfl) (by kernel_rfl) (by kernel_rfl) (fun _ _ _ h => h) (by rfl) hS ?_
          simp only [List.setIfInBounds_toArray, List.set_cons_zero, List.set_cons_succ]
          refine takeH_off 9 rfl rfl (by kernel_rfl) (by kernel_rfl) (by kernel_rfl) (fun _ _ _ h => h) (by rfl) hS ?_
          simp only [List.setIfInBounds_toArray, List.set_cons_zero, List.set_cons_succ]
          refine takeH_off 10 rfl rfl (by kernel_rfl) (by kernel_rfl) (by kernel_rfl) (fun _ _ _ h => h) (by rfl) hS ?_
          simp only [List.setIfInBounds_toArray, List.set_cons_zero, List.set_cons_succ]
          refine takeH_off 11 rfl rfl (by kernel_rfl) (by kernel_rfl) (by kernel_rfl) (fun _ _ _ h => h) (by rfl) hS ?_
          simp only [List.setIfInBounds_toArray, List.set_cons_zero, List.set_cons_succ]
          refine takeH_off 12 rfl rfl (by kernel_rfl) (by kernel_rfl) (by kernel_rfl) (fun _ _ _ h => h) (by rfl) hS ?_
          simp only [List.setIfInBounds_toArray, List.set_cons_zero, List.set_cons_succ]
          refine takeH_off 13 rfl rfl (by kernel_rfl) (by kernel_rfl) (by kernel_rfl) (fun _ _ _ h => h) (by rfl) hS ?_
          simp only [List.setIfInBounds_toArray, List.set_cons_zero, List.set_cons_succ]
          refine takeH_off 14 rfl rfl (by kernel_rfl) (by kernel_rfl) (by kernel_rfl) (fun _ _ _ h => h) (by rfl) hS ?_
          simp only [List.setIfInBounds_toArray, List.set_cons_zero, List.set_cons_succ]
          refine takeH_off 15 rfl rfl (by kernel_rfl) (by kernel_rfl) (by kernel_rfl) (fun _ _ _ h => h) (by rfl) hS ?_
          simp only [List.setIfInBounds_toArray, List.set_cons_zero, List.set_cons_succ]
          refine takeH_on 16 (v := ?_) rfl rfl (by kernel_rfl) (by kernel_rfl) (by kernel_rfl) (fun _ _ _ h => h) (by rfl) hS (fun w hSw => ?_) ?_
          rotate_left
          · ((try dsimp only at hSw); go_simp; try with_reducible rfl)
          simp only [List.setIfInBounds_toArray, List.set_cons_zero, List.set_cons_succ]
          refine wpAnyH_done (by kernel_rfl) ?_ _
          have HB2 : Hid (Below wo.heap.size wo wr.drew) := HBW.out.drew
          have k1 : wr.drew.cell? ⟨B1, 0, none⟩ = _ := f1
          obtain ⟨g, hgj⟩ : ∃ g, g = j - k := ⟨_, rfl⟩
          have hjk : j - k = g := hgj.symm
          obtain ⟨cc, hcc⟩ : ∃ cc, cc = cap - k := ⟨_, rfl⟩
          have hck : cap - k = cc := hcc.symm
          have hcc0 : g ≤ cc := by omega
          have hg0 : 0 < g := by omega
          have hcc1 : ¬ cc = 0 := by omega
          have hkc : ¬ cap = k := by omega
          have hkj2 : (k : Int) ≤ (j : Int) := by omega
          have hjc : (j : Int) ≤ (cap : Int) := by omega
          clear hgj hcc
          obtain ⟨fn, tmps, assign, body, hy, hR⟩ := HY.out pre ⟨k, hlt⟩ wr.drew (abide HJ.out HJP.out HB2.out) (by omega)
          rw [handed, HF.out] at hy
          dsimp only at hy
          rw [hjk, hck] at hy
          have HKW : Hid (KeepsRow n₀ B1 B2 W wr.drew) := HK.out.trans ⟨HB2.out.mono e3, HB2.out.cell (p := ⟨B1, 0, none⟩) e1, HB2.out.cell (p := ⟨B2, 0, none⟩) e2⟩
          have HSS : Hid ((pre ++ [(⟨k, hlt⟩ : At len)]).map (·.1) ++ startsL p j len = startsL p 0 len) := by
            show _ = _
            rw [← HST.out, startsL_step p k len hlt, HF.out, show k + (j - k) = j by omega]
            simp
          have HRR := hid hR
          clear hR
          gi_wp2
          refine HRR.out.mono ?_
          rintro e W3 (⟨rfl, hJ3, hk3⟩ | ⟨rfl, hJx3⟩)
          · gi_wp2
            go_roundw
            case rel => exact ⟨j, pre ++ [⟨k, hlt⟩], hjl, rfl, by simp; omega, HSS.out, hJ3, HKW.out.trans hk3⟩
            case measure => simp [intOf]; omega
          · gi_wp2
            refine bodyPost_ret (results_none rfl _ _ _) rfl ?_
            exact ⟨⟨_, rfl⟩, .inr ⟨_, trivial, hJx3⟩⟩
    · have hg : ¬ (k : Int) < (len : Int) := by omega
      have HE : Hid (pre.map (·.1) = startsL p 0 len) := by
        have := HST.out
        rw [startsL_end p k len hlt] at this
        show _ = _
        rw [← this]; simp
      gi_wp2
      go_end0
      exact ⟨⟨_, rfl⟩, .inl ⟨pre, HE.out, HJP.out⟩⟩

set_option maxRecDepth 100000 in
set_option maxHeartbeats 2000000 in
theorem runsAhead (n : Nat) (hn : 1 ≤ n) (l B1 B2 n₀ b off len cap : Nat) (p : Nat → Bool) (S : Nat → ByteArray) (M : Nat → Int) (hc : len ≤ cap) (hm : cap ≤ maxLen) (hb : b < n₀)
    (hbel : ∀ j w, 0 < j → j < len → Calls Tryd.prog 29 #[.agg #[.string (S (j - 1)), .int .i64 (M (j - 1))], .agg #[.string (S j), .int .i64 (M j)]] w fun e w' => e = .returned (.bool (p j)) ∧ Below w.heap.size w w')
    (J Jx : List (At len) → World → Prop) (B : Nat) (hJ : AbidesFrom B J) (W : World) (hB1 : B1 < W.heap.size) (hB2 : B2 < W.heap.size) (hn₀ : n₀ ≤ W.heap.size)
    (hY : ∀ pre x W1, J pre W1 → pre.length < len → YieldAt Fence.wide (n - 1) Tryd.prog l (handed b off len cap p x) W1 fun e W' =>
      (e = .returned (.bool true) ∧ J (pre ++ [x]) W' ∧ KeepsRow n₀ B1 B2 W1 W') ∨ (e = .returned (.bool false) ∧ Jx (pre ++ [x]) W'))
    (c1 : W.cell? ⟨B1, 0, none⟩ = some (.slice (some ⟨b, off, none⟩) len cap)) (c2 : W.cell? ⟨B2, 0, none⟩ = some (.func (.func 29) #[] #[])) (R : RowAt W b off len S M) (h0 : J [] W) :
    CallsIn Fence.wide n Tryd.prog 28 #[.func (.yield l) #[] #[], .pointer (some ⟨B1, 0, none⟩), .pointer (some ⟨B2, 0, none⟩)] W fun e W' => (∃ v, e = .returned v) ∧
      ((∃ ys, ys.map (·.1) = startsL p 0 len ∧ J ys W') ∨ (∃ pre : List (At len), True ∧ Jx pre W')) := by
  have hm' : cap ≤ 2 ^ 63 - 1 := hm
  have HJ := hid hJ
  have HY := hid hY
  have HBEL := hid hbel
  clear hJ hY hbel
  refine callsIn_of_wp Tryd.func28 rfl trivial ?_ rfl
  simp only [Tryd.ntmps28, List.size_toArray, List.length_cons, List.length_nil, Nat.reduceAdd, Nat.reduceSub, Array.replicate_succ, Array.replicate_zero, List.push_toArray, List.append_toArray, List.nil_append, List.cons_append]
  gi_wp2
  gi_loopw [4] (fun i wr => ∃ (k : Nat) (pre : List (At len)), k ≤ len ∧ i = .int .i64 k ∧ pre.length ≤ k ∧ pre.map (·.1) ++ startsL p k len = startsL p 0 len ∧ J pre wr ∧ KeepsRow n₀ B1 B2 W wr) (fun i _ => len - (intOf i).toNat)
  case atStart => exact ⟨0, [], Nat.zero_le _, rfl, Nat.le_refl _, rfl, h0, KeepsRow.refl _ _ _ _⟩
  case round =>
    obtain ⟨k, pre, hk, rfl, hpl, hst, hj, hkr⟩ := hrel
    have HJP := hid hj
    have HST := hid hst
    have HK := hid hkr
    clear hj hst hkr
    have HR : Hid (RowAt wr b off len S M) := R.kept hb HK.out.1
    have d1 := HK.out.2.1.trans c1
    have d2 := HK.out.2.2.trans c2
    have e1 : B1 < wr.heap.size := Nat.lt_of_lt_of_le hB1 HK.out.1.size
    have e2 : B2 < wr.heap.size := Nat.lt_of_lt_of_le hB2 HK.out.1.size
    have e3 : n₀ ≤ wr.heap.size := Nat.le_trans hn₀ HK.out.1.size
    by_cases hlt : k < len
    · have hg : (k : Int) < (len : Int) := by omega
      rename World => wo
      gi_wp2
      gi_loopw [5] (fun t w2 => ∃ j : Nat, k < j ∧ j ≤ len ∧ t = .int .i64 j ∧ (∀ x, k < x → x < j → p x = true) ∧ Below wo.heap.size wo w2) (fun t _ => len - (intOf t).toNat)
      case atStart => exact ⟨k + 1, by omega, hlt, by go_num, fun j a b => by omega, Below.refl _ _⟩
      case round =>
        obtain ⟨j, hkj, hjl, rfl, hall, hbw⟩ := hrel
        have HA := hid hall
        have HBW := hid hbw
        clear hall hbw
        have HRI : Hid (RowAt wr b off len S M) := HR.out.kept (by omega) HBW.out
        have f1 : wr.cell? ⟨B1, 0, none⟩ = some (.slice (some ⟨b, off, none⟩) len cap) := (HBW.out.cell (p := ⟨B1, 0, none⟩) e1).trans d1
        have f2 : wr.cell? ⟨B2, 0, none⟩ = some (.func (.func 29) #[] #[]) := (HBW.out.cell (p := ⟨B2, 0, none⟩) e2).trans d2
        by_cases hlj : j < len
        · obtain ⟨q, hq⟩ : ∃ q, q = j - 1 := ⟨_, rfl⟩
          have HQ := hid hq
          have hsub : (j : Int) - 1 = (q : Int) := by omega
          have hwq : IntKind.i64.wrap (q : Int) = (q : Int) := by rw [IntKind.wrap_i64]; omega
          have hql : q < len := by omega
          clear hq
          have g1 := HRI.out.name q hql
          have g2 := HRI.out.num q hql
          have g3 := HRI.out.name j hlj
          have g4 := HRI.out.num j hlj
          have hgj : (j : Int) < (len : Int) := by omega
          cases hp : p j
          · have CB : Hid (∀ w, Calls Tryd.prog 29 #[.agg #[.string (S q), .int .i64 (M q)], .agg #[.string (S j), .int .i64 (M j)]] w fun e w' => e = .returned (.bool false) ∧ Below w.heap.size w w') := fun w => by rw [HQ.out, ← hp]; exact HBEL.out j w (by omega) hlj
            have HF : Hid (stretch p k len = j - k) := stretch_eq p k len (j - k) (by omega) (fun x a b => HA.out x a (by omega)) (by omega) (Or.inr (by rw [show k + (j - k) = j by omega]; exact hp))
            gi_wp2_with fail
            refine wpIn_wide.2 ?_
            refine wp_region_held_drew (S := fun w' => w'.cell? ⟨B1, 0, none⟩ = some (.slice (some ⟨b, off, none⟩) len cap) ∧ w'.cell? ⟨B2, 0, none⟩ = some (.func (.func 29) #[] #[]) ∧ w'.cell? ⟨b, off + q * 2, none⟩ = some (.string (S q)) ∧ w'.cell? ⟨b, off + q * 2 + 1, none⟩ = some (.int .i64 (M q)) ∧ w'.cell? ⟨b, off + j * 2, none⟩ = some (.string (S j)) ∧ w'.cell? ⟨b, off + j * 2 + 1, none⟩ = some (.int .i64 (M j))) (by kernel_rfl) ?_ (fun hS => ?_)
            · exact ⟨f1, f2, g1, g2, g3, g4⟩
            refine takeH_on 0 (v := ?_) rfl rfl (by kernel_rfl) (by kernel_rfl) (by kernel_rfl) (fun _ _ _ h => h) (by rfl) hS (fun w hSw => ?_) ?_
            rotate_left
            · ((try dsimp only at hSw); go_simp; try with_reducible rfl)
            simp only [List.setIfInBounds_toArray, List.set_cons_zero, List.set_cons_succ]
            refine takeH_on 1 (v := ?_) rfl rfl (by kernel_rfl) (by kernel_rfl) (by kernel_rfl) (fun _ _ _ h => h) (by rfl) hS (fun w hSw => ?_) ?_
            rotate_left
            · ((try dsimp only at hSw); go_simp; try with_reducible rfl)
            simp only [List.setIfInBounds_toArray, List.set_cons_zero, List.set_cons_succ]
            refine takeH_on 2 (v := ?_) rfl rfl (by kernel_rfl) (by kernel_rfl) (by kernel_rfl) (fun _ _ _ h => h) (by rfl) hS (fun w hSw => ?_) ?_
            rotate_left
            · ((try dsimp only at hSw); go_simp; try with_reducible rfl)
            simp only [List.setIfInBounds_toArray, List.set_cons_zero, List.set_cons_succ]
            refine takeH_on 3 (v := .bool true) rfl rfl (by kernel_rfl) (by kernel_rfl) (by kernel_rfl) (fun _ _ _ h => h) (by rfl) hS (fun w hSw => ?_) ?_
            · ((try dsimp only at hSw); go_simp; try with_reducible rfl)
            simp only [List.setIfInBounds_toArray, List.set_cons_zero, List.set_cons_succ]
            refine takeH_on 4 (v := ?_) rfl rfl (by kernel_rfl) (by kernel_rfl) (by kernel_rfl) (fun _ _ _ h => h) (by rfl) hS (fun w hSw => ?_) ?_
            rotate_left
            · ((try dsimp only at hSw); go_simp; try with_reducible rfl)
            simp only [List.setIfInBounds_toArray, List.set_cons_zero, List.set_cons_succ]
            refine takeH_on 5 (v := ?_) rfl rfl (by kernel_rfl) (by kernel_rfl) (by kernel_rfl) (fun _ _ _ h => h) (by rfl) hS (fun w hSw => ?_) ?_
            rotate_left
            · ((try dsimp only at hSw); go_simp; try with_reducible rfl)
            simp only [List.setIfInBounds_toArray, List.set_cons_zero, List.set_cons_succ]
            refine takeH_on 6 (v := ?_) rfl rfl (by kernel_rfl) (by kernel_rfl) (by kernel_rfl) (fun _ _ _ h => h) (by rfl) hS (fun w hSw => ?_) ?_
            rotate_left
            · ((try dsimp only at hSw); go_simp; try with_reducible rfl)
            simp only [List.setIfInBounds_toArray, List.set_cons_zero, List.set_cons_succ]
            refine takeH_on 7 (v := ?_) rfl rfl (by kernel_rfl) (by kernel_rfl) (by kernel_rfl) (fun _ _ _ h => h) (by rfl) hS (fun w hSw => ?_) ?_
            rotate_left
            · ((try dsimp only at hSw); go_simp; try with_reducible rfl)
            simp only [List.setIfInBounds_toArray, List.set_cons_zero, List.set_cons_succ]
            refine takeH_on 8 (v := .int .i64 (q : Int)) rfl rfl (by kernel_rfl) (by kernel_rfl) (by kernel_rfl) (fun _ _ _ h => h) (by rfl) hS (fun w hSw => ?_) ?_
            · ((try dsimp only at hSw); go_simp; try with_reducible rfl)
            simp only [List.setIfInBounds_toArray, List.set_cons_zero, List.set_cons_succ]
            refine takeH_on 9 (v := .pointer (some ⟨b, off + q * 2, none⟩)) rfl rfl (by kernel_rfl) (by kernel_rfl) (by kernel_rfl) (fun _ _ _ h => h) (by rfl) hS (fun w hSw => ?_) ?_
            · ((try dsimp only at hSw); go_simp; try with_reducible rfl)
            simp only [List.setIfInBounds_toArray, List.set_cons_zero, List.set_cons_succ]
            refine takeH_on 10 (v := .agg #[.string (S q), .int .i64 (M q)]) rfl rfl (by kernel_rfl) (by kernel_rfl) (by kernel_rfl) (fun _ _ _ h => h) (by rfl) hS (fun w hSw => ?_) ?_
            · ((try dsimp only at hSw); go_simp; try with_reducible rfl)
            simp only [List.setIfInBounds_toArray, List.set_cons_zero, List.set_cons_succ]
            refine takeH_on 11 (v := ?_) rfl rfl (by kernel_rfl) (by kernel_rfl) (by kernel_rfl) (fun _ _ _ h => h) (by rfl) hS (fun w hSw => ?_) ?_
            rotate_left
            · ((try dsimp only at hSw); go_simp; try with_reducible rfl)
            simp only [List.setIfInBounds_toArray, List.set_cons_zero, List.set_cons_succ]
            refine takeH_on 12 (v := ?_) rfl rfl (by kernel_rfl) (by kernel_rfl) (by kernel_rfl) (fun _ _ _ h => h) (by rfl) hS (fun w hSw => ?_) ?_
            rotate_left
            · ((try dsimp only at hSw); go_simp; try with_reducible rfl)
            simp only [List.setIfInBounds_toArray, List.set_cons_zero, List.set_cons_succ]
            refine takeH_on 13 (v := .pointer (some ⟨b, off + j * 2, none⟩)) rfl rfl (by kernel_rfl) (by kernel_rfl) (by kernel_rfl) (fun _ _ _ h => h) (by rfl) hS (fun w hSw => ?_) ?_
            · ((try dsimp only at hSw); go_simp; try with_reducible rfl)
            simp only [List.setIfInBounds_toArray, List.set_cons_zero, List.set_cons_succ]
            refine takeH_on 14 (v := .agg #[.string (S j), .int .i64 (M j)]) rfl rfl (by kernel_rfl) (by kernel_rfl) (by kernel_rfl) (fun _ _ _ h => h) (by rfl) hS (fun w hSw => ?_) ?_
            · ((try dsimp only at hSw); go_simp; try with_reducible rfl)
            simp only [List.setIfInBounds_toArray, List.set_cons_zero, List.set_cons_succ]
            refine wpAnyH_ready (rs := [15]) (by kernel_rfl) (by simp) (AllReadyH.cons rfl (fun K hK => ?_) AllReadyH.nil)
            clear hS
            go_simp
            go_wp2_with fail
            refine (CB.out _).mono ?_
            rintro e w2 ⟨rfl, hb2⟩
            have HB2 : Hid (Below wo.heap.size wo w2) := HBW.out.drew.trans (hb2.mono HBW.out.size)
            have i1 := HBW.out.size
            have k1 : w2.cell? ⟨B1, 0, none⟩ = _ := (hb2.cell (p := ⟨B1, 0, none⟩) (by simp; omega)).trans f1
            have k2 : w2.cell? ⟨B2, 0, none⟩ = _ := (hb2.cell (p := ⟨B2, 0, none⟩) (by simp; omega)).trans f2
            have k3 := (hb2.cell (p := ⟨b, off + q * 2, none⟩) (by simp; omega)).trans g1
            have k4 := (hb2.cell (p := ⟨b, off + q * 2 + 1, none⟩) (by simp; omega)).trans g2
            have k5 := (hb2.cell (p := ⟨b, off + j * 2, none⟩) (by simp; omega)).trans g3
            have k6 := (hb2.cell (p := ⟨b, off + j * 2 + 1, none⟩) (by simp; omega)).trans g4
            clear hb2 i1 CB
            refine Shut.out hK _ _ ⟨k1, k2, k3, k4, k5, k6⟩ (fun hS => ?_)
            clear hK K
            refine takeH_on 16 (v := ?_) rfl rfl (by kernel_rfl) (by kernel_rfl) (by kernel_rfl) (fun _ _ _ h => h) (by rfl) hS (fun w hSw => ?_) ?_
            rotate_left
            · ((try dsimp only at hSw); go_simp; try with_reducible rfl)
            simp only [List.setIfInBounds_toArray, List.set_cons_zero, List.set_cons_succ]
            refine wpAnyH_done (by kernel_rfl) ?_ _
            obtain ⟨g, hgj⟩ : ∃ g, g = j - k := ⟨_, rfl⟩
            have hjk : j - k = g := hgj.symm
            obtain ⟨cc, hcc⟩ : ∃ cc, cc = cap - k := ⟨_, rfl⟩
            have hck : cap - k = cc := hcc.symm
            have hcc0 : g ≤ cc := by omega
            have hg0 : 0 < g := by omega
            have hcc1 : ¬ cc = 0 := by omega
            have hkc : ¬ cap = k := by omega
            have hkj2 : (k : Int) ≤ (j : Int) := by omega
            have hjc : (j : Int) ≤ (cap : Int) := by omega
            clear hgj hcc
            obtain ⟨fn, tmps, assign, body, hy, hR⟩ := HY.out pre ⟨k, hlt⟩ w2 (abide HJ.out HJP.out HB2.out) (by omega)
            rw [handed, HF.out] at hy
            dsimp only at hy
            rw [hjk, hck] at hy
            have HKW : Hid (KeepsRow n₀ B1 B2 W w2) := HK.out.trans ⟨HB2.out.mono e3, HB2.out.cell (p := ⟨B1, 0, none⟩) e1, HB2.out.cell (p := ⟨B2, 0, none⟩) e2⟩
            have HSS : Hid ((pre ++ [(⟨k, hlt⟩ : At len)]).map (·.1) ++ startsL p j len = startsL p 0 len) := by
              show _ = _
              rw [← HST.out, startsL_step p k len hlt, HF.out, show k + (j - k) = j by omega]
              simp
            have HRR := hid hR
            clear hR
            gi_wp2
            refine HRR.out.mono ?_
            rintro e W3 (⟨rfl, hJ3, hk3⟩ | ⟨rfl, hJx3⟩)
            · gi_wp2
              go_roundw
              case rel => exact ⟨j, pre ++ [⟨k, hlt⟩], hjl, rfl, by simp; omega, HSS.out, hJ3, HKW.out.trans hk3⟩
              case measure => simp [intOf]; omega
            · gi_wp2
              refine bodyPost_ret (results_none rfl _ _ _) rfl ?_
              exact ⟨⟨_, rfl⟩, .inr ⟨_, trivial, hJx3⟩⟩
          · have CB : Hid (∀ w, Calls Tryd.prog 29 #[.agg #[.string (S q), .int .i64 (M q)], .agg #[.string (S j), .int .i64 (M j)]] w fun e w' => e = .returned (.bool true) ∧ Below w.heap.size w w') := fun w => by rw [HQ.out, ← hp]; exact HBEL.out j w (by omega) hlj
            have HN : Hid (∀ x, k < x → x < j + 1 → p x = true) := fun x a b => by
              by_cases e : x = j
              · rw [e]; exact hp
              · exact HA.out x a (by omega)
            gi_wp2_with fail
            refine wpIn_wide.2 ?_
            refine wp_region_held_drew (S := fun w' => w'.cell? ⟨B1, 0, none⟩ = some (.slice (some ⟨b, off, none⟩) len cap) ∧ w'.cell? ⟨B2, 0, none⟩ = some (.func (.func 29) #[] #[]) ∧ w'.cell? ⟨b, off + q * 2, none⟩ = some (.string (S q)) ∧ w'.cell? ⟨b, off + q * 2 + 1, none⟩ = some (.int .i64 (M q)) ∧ w'.cell? ⟨b, off + j * 2, none⟩ = some (.string (S j)) ∧ w'.cell? ⟨b, off + j * 2 + 1, none⟩ = some (.int .i64 (M j))) (by kernel_rfl) ?_ (fun hS => ?_)
            · exact ⟨f1, f2, g1, g2, g3, g4⟩
            refine takeH_on 0 (v := ?_) rfl rfl (by kernel_rfl) (by kernel_rfl) (by kernel_rfl) (fun _ _ _ h => h) (by rfl) hS (fun w hSw => ?_) ?_
            rotate_left
            · ((try dsimp only at hSw); go_simp; try with_reducible rfl)
            simp only [List.setIfInBounds_toArray, List.set_cons_zero, List.set_cons_succ]
            refine takeH_on 1 (v := ?_) rfl rfl (by kernel_rfl) (by kernel_rfl) (by kernel_rfl) (fun _ _ _ h => h) (by rfl) hS (fun w hSw => ?_) ?_
            rotate_left
            · ((try dsimp only at hSw); go_simp; try with_reducible rfl)
            simp only [List.setIfInBounds_toArray, List.set_cons_zero, List.set_cons_succ]
            refine takeH_on 2 (v := ?_) rfl rfl (by kernel_rfl) (by kernel_rfl) (by kernel_rfl) (fun _ _ _ h => h) (by rfl) hS (fun w hSw => ?_) ?_
            rotate_left
            · ((try dsimp only at hSw); go_simp; try with_reducible rfl)
            simp only [List.setIfInBounds_toArray, List.set_cons_zero, List.set_cons_succ]
            refine takeH_on 3 (v := .bool true) rfl rfl (by kernel_rfl) (by kernel_rfl) (by kernel_rfl) (fun _ _ _ h => h) (by rfl) hS (fun w hSw => ?_) ?_
            · ((try dsimp only at hSw); go_simp; try with_reducible rfl)
            simp only [List.setIfInBounds_toArray, List.set_cons_zero, List.set_cons_succ]
            refine takeH_on 4 (v := ?_) rfl rfl (by kernel_rfl) (by kernel_rfl) (by kernel_rfl) (fun _ _ _ h => h) (by rfl) hS (fun w hSw => ?_) ?_
            rotate_left
            · ((try dsimp only at hSw); go_simp; try with_reducible rfl)
            simp only [List.setIfInBounds_toArray, List.set_cons_zero, List.set_cons_succ]
            refine takeH_on 5 (v := ?_) rfl rfl (by kernel_rfl) (by kernel_rfl) (by kernel_rfl) (fun _ _ _ h => h) (by rfl) hS (fun w hSw => ?_) ?_
            rotate_left
            · ((try dsimp only at hSw); go_simp; try with_reducible rfl)
            simp only [List.setIfInBounds_toArray, List.set_cons_zero, List.set_cons_succ]
            refine takeH_on 6 (v := ?_) rfl rfl (by kernel_rfl) (by kernel_rfl) (by kernel_rfl) (fun _ _ _ h => h) (by rfl) hS (fun w hSw => ?_) ?_
            rotate_left
            · ((try dsimp only at hSw); go_simp; try with_reducible rfl)
            simp only [List.setIfInBounds_toArray, List.set_cons_zero, List.set_cons_succ]
            refine takeH_on 7 (v := ?_) rfl rfl (by kernel_rfl) (by kernel_rfl) (by kernel_rfl) (fun _ _ _ h => h) (by rfl) hS (fun w hSw => ?_) ?_
            rotate_left
            · ((try dsimp only at hSw); go_simp; try with_reducible rfl)
            simp only [List.setIfInBounds_toArray, List.set_cons_zero, List.set_cons_succ]
            refine takeH_on 8 (v := .int .i64 (q : Int)) rfl rfl (by kernel_rfl) (by kernel_rfl) (by kernel_rfl) (fun _ _ _ h => h) (by rfl) hS (fun w hSw => ?_) ?_
            · ((try dsimp only at hSw); go_simp; try with_reducible rfl)
            simp only [List.setIfInBounds_toArray, List.set_cons_zero, List.set_cons_succ]
            refine takeH_on 9 (v := .pointer (some ⟨b, off + q * 2, none⟩)) rfl rfl (by kernel_rfl) (by kernel_rfl) (by kernel_rfl) (fun _ _ _ h => h) (by rfl) hS (fun w hSw => ?_) ?_
            · ((try dsimp only at hSw); go_simp; try with_reducible rfl)
            simp only [List.setIfInBounds_toArray, List.set_cons_zero, List.set_cons_succ]
            refine takeH_on 10 (v := .agg #[.string (S q), .int .i64 (M q)]) rfl rfl (by kernel_rfl) (by kernel_rfl) (by kernel_rfl) (fun _ _ _ h => h) (by rfl) hS (fun w hSw => ?_) ?_
            · ((try dsimp only at hSw); go_simp; try with_reducible rfl)
            simp only [List.setIfInBounds_toArray, List.set_cons_zero, List.set_cons_succ]
            refine takeH_on 11 (v := ?_) rfl rfl (by kernel_rfl) (by kernel_rfl) (by kernel_rfl) (fun _ _ _ h => h) (by rfl) hS (fun w hSw => ?_) ?_
            rotate_left
            · ((try dsimp only at hSw); go_simp; try with_reducible rfl)
            simp only [List.setIfInBounds_toArray, List.set_cons_zero, List.set_cons_succ]
            refine takeH_on 12 (v := ?_) rfl rfl (by kernel_rfl) (by kernel_rfl) (by kernel_rfl) (fun _ _ _ h => h) (by rfl) hS (fun w hSw => ?_) ?_
            rotate_left
            · ((try dsimp only at hSw); go_simp; try with_reducible rfl)
            simp only [List.setIfInBounds_toArray, List.set_cons_zero, List.set_cons_succ]
            refine takeH_on 13 (v := .pointer (some ⟨b, off + j * 2, none⟩)) rfl rfl (by kernel_rfl) (by kernel_rfl) (by kernel_rfl) (fun _ _ _ h => h) (by rfl) hS (fun w hSw => ?_) ?_
            · ((try dsimp only at hSw); go_simp; try with_reducible rfl)
            simp only [List.setIfInBounds_toArray, List.set_cons_zero, List.set_cons_succ]
            refine takeH_on 14 (v := .agg #[.string (S j), .int .i64 (M j)]) rfl rfl (by kernel_rfl) (by kernel_rfl) (by kernel_rfl) (fun _ _ _ h => h) (by rfl) hS (fun w hSw => ?_) ?_
            · ((try dsimp only at hSw); go_simp; try with_reducible rfl)
            simp only [List.setIfInBounds_toArray, List.set_cons_zero, List.set_cons_succ]
            refine wpAnyH_ready (rs := [15]) (by kernel_rfl) (by simp) (AllReadyH.cons rfl (fun K hK => ?_) AllReadyH.nil)
            clear hS
            go_simp
            go_wp2_with fail
            refine (CB.out _).mono ?_
            rintro e w2 ⟨rfl, hb2⟩
            have HB2 : Hid (Below wo.heap.size wo w2) := HBW.out.drew.trans (hb2.mono HBW.out.size)
            have i1 := HBW.out.size
            have k1 : w2.cell? ⟨B1, 0, none⟩ = _ := (hb2.cell (p := ⟨B1, 0, none⟩) (by simp; omega)).trans f1
            have k2 : w2.cell? ⟨B2, 0, none⟩ = _ := (hb2.cell (p := ⟨B2, 0, none⟩) (by simp; omega)).trans f2
            have k3 := (hb2.cell (p := ⟨b, off + q * 2, none⟩) (by simp; omega)).trans g1
            have k4 := (hb2.cell (p := ⟨b, off + q * 2 + 1, none⟩) (by simp; omega)).trans g2
            have k5 := (hb2.cell (p := ⟨b, off + j * 2, none⟩) (by simp; omega)).trans g3
            have k6 := (hb2.cell (p := ⟨b, off + j * 2 + 1, none⟩) (by simp; omega)).trans g4
            clear hb2 i1 CB
            refine Shut.out hK _ _ ⟨k1, k2, k3, k4, k5, k6⟩ (fun hS => ?_)
            clear hK K
            refine takeH_on 16 (v := ?_) rfl rfl (by kernel_rfl) (by kernel_rfl) (by kernel_rfl) (fun _ _ _ h => h) (by rfl) hS (fun w hSw => ?_) ?_
            rotate_left
            · ((try dsimp only at hSw); go_simp; try with_reducible rfl)
            simp only [List.setIfInBounds_toArray, List.set_cons_zero, List.set_cons_succ]
            refine wpAnyH_done (by kernel_rfl) ?_ _
            gi_wp2
            go_roundw
            case rel => exact ⟨j + 1, by omega, by omega, by go_num, HN.out, HB2.out⟩
            case measure => simp [intOf]; omega
        · have HF : Hid (stretch p k len = j - k) := stretch_eq p k len (j - k) (by omega) (fun x a b => HA.out x a (by omega)) (by omega) (Or.inl (by omega))
          have hgj : ¬ (j : Int) < (len : Int) := by omega
          gi_wp2_with fail
          refine wpIn_wide.2 ?_
          refine wp_region_held_drew (S := fun w' => w'.cell? ⟨B1, 0, none⟩ = some (.slice (some ⟨b, off, none⟩) len cap)) (by kernel_rfl) ?_ (fun hS => ?_)
          · exact f1
          refine takeH_on 0 (v := ?_) rfl rfl (by kernel_rfl) (by kernel_rfl) (by kernel_rfl) (fun _ _ _ h => h) (by rfl) hS (fun w hSw => ?_) ?_
          rotate_left
          · ((try dsimp only at hSw); go_simp; try with_reducible rfl)
          simp only [List.setIfInBounds_toArray, List.set_cons_zero, List.set_cons_succ]
          refine takeH_on 1 (v := ?_) rfl rfl (by kernel_rfl) (by kernel_rfl) (by kernel_rfl) (fun _ _ _ h => h) (by rfl) hS (fun w hSw => ?_) ?_
          rotate_left
          · ((try dsimp only at hSw); go_simp; try with_reducible rfl)
          simp only [List.setIfInBounds_toArray, List.set_cons_zero, List.set_cons_succ]
          refine takeH_on 2 (v := ?_) rfl rfl (by kernel_rfl) (by kernel_rfl) (by kernel_rfl) (fun _ _ _ h => h) (by rfl) hS (fun w hSw => ?_) ?_
          rotate_left
          · ((try dsimp only at hSw); go_simp; try with_reducible rfl)
          simp only [List.setIfInBounds_toArray, List.set_cons_zero, List.set_cons_succ]
          refine takeH_on 3 (v := .bool false) rfl rfl (by kernel_rfl) (by kernel_rfl) (by kernel_rfl) (fun _ _ _ h => h) (by rfl) hS (fun w hSw => ?_) ?_
          · ((try dsimp only at hSw); go_simp; try with_reducible rfl)
          simp only [List.setIfInBounds_toArray, List.set_cons_zero, List.set_cons_succ]
          refine takeH_on 4 (v := ?_) rfl rfl (by kernel_rfl) (by kernel_rfl) (by kernel_rfl) (fun _ _ _ h => h) (by rfl) hS (fun w hSw => ?_) ?_
          rotate_left
          · ((try dsimp only at hSw); go_simp; try with_reducible rfl)
          simp only [List.setIfInBounds_toArray, List.set_cons_zero, List.set_cons_succ]
          refine takeH_off 5 rfl rfl (by kernel_rfl) (by kernel_rfl) (by kernel_rfl) (fun _ _ _ h => h) (by rfl) hS ?_
          simp only [List.setIfInBounds_toArray, List.set_cons_zero, List.set_cons_succ]
          refine takeH_off 6 rfl rfl (by kernel_rfl) (by kernel_rfl) (by kernel_rfl) (fun _ _ _ h => h) (by rfl) hS ?_
          simp only [List.setIfInBounds_toArray, List.set_cons_zero, List.set_cons_succ]
          refine takeH_off 7 rfl rfl (by kernel_rfl) (by kernel_rfl) (by kernel_rfl) (fun _ _ _ h => h) (by rfl) hS ?_
          simp only [List.setIfInBounds_toArray, List.set_cons_zero, List.set_cons_succ]
          refine takeH_off 8 rfl rfl (by kernel_rfl) (by kernel_rfl) (by kernel_rfl) (fun _ _ _ h => h) (by rfl) hS ?_
          simp only [List.setIfInBounds_toArray, List.set_cons_zero, List.set_cons_succ]
          refine takeH_off 9 rfl rfl (by kernel_rfl) (by kernel_rfl) (by kernel_rfl) (fun _ _ _ h => h) (by rfl) hS ?_
          simp only [List.setIfInBounds_toArray, List.set_cons_zero, List.set_cons_succ]
          refine takeH_off 10 rfl rfl (by kernel_rfl) (by kernel_rfl) (by kernel_rfl) (fun _ _ _ h => h) (by rfl) hS ?_
          simp only [List.setIfInBounds_toArray, List.set_cons_zero, List.set_cons_succ]
          refine takeH_off 11 rfl rfl (by kernel_rfl) (by kernel_rfl) (by kernel_rfl) (fun _ _ _ h => h) (by rfl) hS ?_
          simp only [List.setIfInBounds_toArray, List.set_cons_zero, List.set_cons_succ]
          refine takeH_off 12 rfl rfl (by kernel_rfl) (by kernel_rfl) (by kernel_rfl) (fun _ _ _ h => h) (by rfl) hS ?_
          simp only [List.setIfInBounds_toArray, List.set_cons_zero, List.set_cons_succ]
          refine takeH_off 13 rfl rfl (by kernel_rfl) (by kernel_rfl) (by kernel_rfl) (fun _ _ _ h => h) (by rfl) hS ?_
          simp only [List.setIfInBounds_toArray, List.set_cons_zero, List.set_cons_succ]
          refine takeH_off 14 rfl rfl (by kernel_rfl) (by kernel_rfl) (by kernel_rfl) (fun _ _ _ h => h) (by rfl) hS ?_
          simp only [List.setIfInBounds_toArray, List.set_cons_zero, List.set_cons_succ]
          refine takeH_off 15 rfl rfl (by kernel_rfl) (by kernel_rfl) (by kernel_rfl) (fun _ _ _ h => h) (by rfl) hS ?_
          simp only [List.setIfInBounds_toArray, List.set_cons_zero, List.set_cons_succ]
          refine takeH_on 16 (v := ?_) rfl rfl (by kernel_rfl) (by kernel_rfl) (by kernel_rfl) (fun _ _ _ h => h) (by rfl) hS (fun w hSw => ?_) ?_
          rotate_left
          · ((try dsimp only at hSw); go_simp; try with_reducible rfl)
          simp only [List.setIfInBounds_toArray, List.set_cons_zero, List.set_cons_succ]
          refine wpAnyH_done (by kernel_rfl) ?_ _
          have HB2 : Hid (Below wo.heap.size wo wr.drew) := HBW.out.drew
          have k1 : wr.drew.cell? ⟨B1, 0, none⟩ = _ := f1
          obtain ⟨g, hgj⟩ : ∃ g, g = j - k := ⟨_, rfl⟩
          have hjk : j - k = g := hgj.symm
          obtain ⟨cc, hcc⟩ : ∃ cc, cc = cap - k := ⟨_, rfl⟩
          have hck : cap - k = cc := hcc.symm
          have hcc0 : g ≤ cc := by omega
          have hg0 : 0 < g := by omega
          have hcc1 : ¬ cc = 0 := by omega
          have hkc : ¬ cap = k := by omega
          have hkj2 : (k : Int) ≤ (j : Int) := by omega
          have hjc : (j : Int) ≤ (cap : Int) := by omega
          clear hgj hcc
          obtain ⟨fn, tmps, assign, body, hy, hR⟩ := HY.out pre ⟨k, hlt⟩ wr.drew (abide HJ.out HJP.out HB2.out) (by omega)
          rw [handed, HF.out] at hy
          dsimp only at hy
          rw [hjk, hck] at hy
          have HKW : Hid (KeepsRow n₀ B1 B2 W wr.drew) := HK.out.trans ⟨HB2.out.mono e3, HB2.out.cell (p := ⟨B1, 0, none⟩) e1, HB2.out.cell (p := ⟨B2, 0, none⟩) e2⟩
          have HSS : Hid ((pre ++ [(⟨k, hlt⟩ : At len)]).map (·.1) ++ startsL p j len = startsL p 0 len) := by
            show _ = _
            rw [← HST.out, startsL_step p k len hlt, HF.out, show k + (j - k) = j by omega]
            simp
          have HRR := hid hR
          clear hR
          gi_wp2
          refine HRR.out.mono ?_
          rintro e W3 (⟨rfl, hJ3, hk3⟩ | ⟨rfl, hJx3⟩)
          · gi_wp2
            go_roundw
            case rel => exact ⟨j, pre ++ [⟨k, hlt⟩], hjl, rfl, by simp; omega, HSS.out, hJ3, HKW.out.trans hk3⟩
            case measure => simp [intOf]; omega
          · gi_wp2
            refine bodyPost_ret (results_none rfl _ _ _) rfl ?_
            exact ⟨⟨_, rfl⟩, .inr ⟨_, trivial, hJx3⟩⟩
    · have hg : ¬ (k : Int) < (len : Int) := by omega
      have HE : Hid (pre.map (·.1) = startsL p 0 len) := by
        have := HST.out
        rw [startsL_end p k len hlt] at this
        show _ = _
        rw [← this]; simp
      gi_wp2
      go_end0
      exact ⟨⟨_, rfl⟩, .inl ⟨pre, HE.out, HJP.out⟩⟩

end Go.Proofs.YtahhjhhnjpbocaaDoor
