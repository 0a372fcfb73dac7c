/- DERIVED. The program's iterator over the records of a log: its contract. -/
import Derived.RangeFuncNested
import Derived.RangeFuncBound
import Derived.RangeFuncCalls
import Derived.RangeFuncLeaves
import Derived.Shelf.Abstract
import Derived.Shelf.RegionOpen
import Derived.WalkKit
import Derived.OwnWalkIn
import Derived.TacticsInMore
import Derived.LoopNIn
import Derived.LoopIn
import Derived.Deep.LoopGhost
import Derived.Test.YtplbfllhimcpiaaGreatDoorLogAhead
namespace Go.Proofs.YtplbfllhimcpiaaGreatDoor
open Go.RowKit Go.Shelf

attribute [local go_sem] Oper.semAt_some

theorem records_any (s : ByteArray) (w : World) :
    Calls Tryz.prog 87 #[.string s] w fun e w' => e = .returned (.func (.func 106) #[] #[.pointer (some ⟨w.heap.size, 0, none⟩)]) ∧ w' = w.alloc (.cells #[.string s] 9) := by
  go_enter Tryz.func87, Tryz.ntmps87
  go_wp2
  go_ret
  exact ⟨rfl, rfl⟩

/-- A record that is one. -/
abbrev Rec := { r : ByteArray // recOk r = true }

/-- What the iterator hands on. -/
def handedR (x : Rec) : Array Value := #[.string x.1]

def strLen : Value → Nat
  | .string s => s.size
  | _ => 0

theorem abide {α : Type} {J : List α → World → Prop} {B : Nat} (hJ : AbidesFrom B J) {pre : List α} {W W' : World} (h : J pre W) (hb : Below W.heap.size W W') : J pre W' :=
  hJ pre W W' none h ⟨hb.os, hb.tape, hb.output, hb.size, fun i hi _ => hb.block i hi⟩ (fun r e => by cases e)

theorem read_next {s rest x : ByteArray} {pre : List Rec} (hp : pre.map (·.1) ++ readS rest = readS s) (h : oneR rest = some x) (hx : recOk x = true) :
    (pre ++ [(⟨x, hx⟩ : Rec)]).map (·.1) ++ readS (rest.extract (putR x).size rest.size) = readS s ∧ pre.length < s.size := by
  constructor
  · rw [← hp, readS_some h]
    simp
  · have h1 := congrArg List.length hp
    have h2 := (readS_size s).2
    rw [readS_some h] at h1
    simp at h1
    omega

set_option maxRecDepth 100000 in
set_option maxHeartbeats 2000000 in
theorem recordsIter (n : Nat) (hn : 1 ≤ n) (l B1 n₀ : Nat) (s : ByteArray) (hs : s.size ≤ 6000)
    (J Jx : List Rec → World → Prop) (B : Nat) (hJ : AbidesFrom B J) (W : World) (hn₀ : n₀ ≤ W.heap.size) (hT : ∀ W', Below n₀ W W' → Tab W')
    (hY : ∀ pre x W1, J pre W1 → pre.length < s.size → YieldAt Fence.wide (n - 1) Tryz.prog l (handedR x) W1 fun e W' =>
      (e = .returned (.bool true) ∧ J (pre ++ [x]) W' ∧ Below n₀ W1 W') ∨ (e = .returned (.bool false) ∧ Jx (pre ++ [x]) W'))
    (c1 : W.cell? ⟨B1, 0, none⟩ = some (.string s)) (h0 : J [] W) :
    CallsIn Fence.wide n Tryz.prog 106 #[.func (.yield l) #[] #[], .pointer (some ⟨B1, 0, none⟩)] W fun e W' => (∃ v, e = .returned v) ∧
      ((∃ ys : List Rec, ys.map (·.1) = readS s ∧ J ys W') ∨ (∃ pre : List Rec, True ∧ Jx pre W')) := by
  have HJ := hid hJ
  have HY := hid hY
  have HT := hid hT
  have CA : Hid (∀ (t : ByteArray) (w : World), t.size ≤ 6000 → Tab w → Calls Tryz.prog 107 #[.string t] w fun e w' => (∃ x b, e = .returned (.tuple #[.string x, .bool b]) ∧ Hid (AheadOut t x b)) ∧ Below w.heap.size w w') := fun t w h ht => recordAhead_any t w h ht
  have CP : Hid (∀ (x : ByteArray) (w : World), x.size ≤ 60 → Tab w → Calls Tryz.prog 88 #[.string x] w fun e w' => e = .returned (.string (putR x)) ∧ Below w.heap.size w w') := fun x w h ht => recordPut_any x w (by omega) ht
  clear hJ hY hT
  refine callsIn_of_wp Tryz.func106 rfl trivial ?_ rfl
  simp only [Tryz.ntmps106, List.size_toArray, List.length_cons, List.length_nil, Nat.reduceAdd, Nat.reduceSub, Array.replicate_succ, Array.replicate_zero, List.push_toArray, List.append_toArray, List.nil_append, List.cons_append]
  gi_wp2
  gi_loopw [3] (fun v wr => ∃ (rest : ByteArray) (pre : List Rec), v = .string rest ∧ rest.size ≤ 6000 ∧ Aside (pre.map (·.1) ++ readS rest = readS s) ∧ J pre wr ∧ Below n₀ W wr) (fun v _ => strLen v)
  case atStart => exact ⟨s, [], rfl, hs, by show _ = _; simp, h0, Below.refl _ _⟩
  case round =>
    obtain ⟨rest, pre, rfl, hrs, HP, hj, hb⟩ := hrel
    have HJP := hid hj
    have HB := hid hb
    have hsz : n₀ ≤ wr.heap.size := Nat.le_trans hn₀ hb.size
    clear hj hb c1
    gi_wp2_with fail
    refine ⟨trivial, ?_⟩
    refine (callsIn_wide.2 (CA.out rest _ hrs (HT.out _ HB.out))).mono ?_
    rintro e w2 ⟨⟨x, b, rfl, HO⟩, hb2⟩
    have HJ2 := hid (abide HJ.out HJP.out hb2)
    have HB2 : Hid (Below n₀ W w2) := HB.out.trans (hb2.mono hsz)
    clear hb2 HJP
    cases b
    · have HN : Hid (oneR rest = none) := by
        rcases HO.out with ⟨_, h⟩ | ⟨h, _⟩
        · exact h
        · cases h
      have HE : Hid (pre.map (·.1) = readS s) := by
        have := HP.out
        rw [readS_none HN.out, List.append_nil] at this
        exact this
      gi_wp2
      refine ⟨fun _ h => (by cases h), ?_⟩
      gi_wp2
      refine bodyPost_ret (results_none rfl _ _ _) rfl ?_
      exact ⟨⟨_, rfl⟩, .inl ⟨pre, HE.out, HJ2.out⟩⟩
    · have HN : Hid (oneR rest = some x) := by
        rcases HO.out with ⟨h, _⟩ | ⟨_, h⟩
        · cases h
        · exact h
      have hok : recOk x = true := (one_some HN.out).1
      obtain ⟨hq1, hq2⟩ := read_next HP.out HN.out hok
      have HQ : Aside ((pre ++ [(⟨x, hok⟩ : Rec)]).map (·.1) ++ readS (rest.extract (putR x).size rest.size) = readS s) := hq1
      have hz1 := one_size HN.out
      have hz2 := putR_pos x
      have hx60 := (recOk_size hok).2
      obtain ⟨fn, tmps, assign, body, hy, hR⟩ := HY.out pre ⟨x, hok⟩ w2 HJ2.out hq2
      unfold handedR at hy
      dsimp only at hy
      have HRR := hid hR
      obtain ⟨y, hy1⟩ : ∃ y : Rec, y = ⟨x, hok⟩ := ⟨_, rfl⟩
      rw [← hy1] at HQ HRR
      clear hR hq1 HO hok hy1 HJ2
      gi_wp2
      refine HRR.out.mono ?_
      rintro e W3 (⟨rfl, hJ3, hk3⟩ | ⟨rfl, hJx3⟩)
      · have HB3 : Hid (Below n₀ W W3) := HB2.out.trans hk3
        have HJ3 := hid hJ3
        have hsz3 : n₀ ≤ W3.heap.size := Nat.le_trans hn₀ HB3.out.size
        clear hk3 hJ3 HRR
        have CPX : Hid (∀ w : World, Tab w → Calls Tryz.prog 88 #[.string x] w fun e w' => e = .returned (.string (putR x)) ∧ Below w.heap.size w w') := fun w ht => CP.out x w hx60 ht
        obtain ⟨p, hp⟩ : ∃ p, p = putR x := ⟨_, rfl⟩
        rw [← hp] at CPX HQ hz1 hz2
        clear hp
        gi_wp2_with fail
        refine ⟨trivial, ?_⟩
        refine (callsIn_wide.2 (CPX.out _ (HT.out _ HB3.out))).mono ?_
        rintro e w4 ⟨rfl, hb4⟩
        have HJ4 := hid (abide HJ.out HJ3.out hb4)
        have HB4 : Hid (Below n₀ W w4) := HB3.out.trans (hb4.mono hsz3)
        clear hb4
        gi_wp2
        go_roundw
        case rel => exact ⟨rest.extract p.size rest.size, pre ++ [y], rfl, by rw [ByteArray.size_extract]; omega, HQ, HJ4.out, HB4.out⟩
        case measure => simp [strLen]; omega
      · gi_wp2
        refine bodyPost_ret (results_none rfl _ _ _) rfl ?_
        exact ⟨⟨_, rfl⟩, .inr ⟨_, trivial, hJx3⟩⟩

theorem records_stops (n : Nat) (hn : 1 ≤ n) (B1 n₀ : Nat) (s : ByteArray) (hs : s.size ≤ 6000) (w : World) (hB1 : B1 < w.heap.size) (hn₀ : n₀ ≤ w.heap.size) (hT : ∀ W', Below n₀ w W' → Tab W')
    (c1 : w.cell? ⟨B1, 0, none⟩ = some (.string s)) :
    SeqStopsK Fence.wide n Tryz.prog 106 #[.pointer (some ⟨B1, 0, none⟩)] handedR (Below n₀) (fun ys => ys.map (·.1) = readS s) (fun _ => True) s.size w :=
  fun l J Jx W hW hJ _ hY h0 => recordsIter n hn l B1 n₀ s hs J Jx W.heap.size hJ W (Nat.le_trans hn₀ hW.size) (fun W' h => hT W' ((hW.mono hn₀).trans h)) hY
    ((hW.cell (p := ⟨B1, 0, none⟩) hB1).trans c1) h0

end Go.Proofs.YtplbfllhimcpiaaGreatDoor
