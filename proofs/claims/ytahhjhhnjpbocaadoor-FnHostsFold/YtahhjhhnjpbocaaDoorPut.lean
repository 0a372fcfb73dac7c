/- DERIVED. The walks of HostPut: the program's and the model's. -/
import Derived.Test.YtahhjhhnjpbocaaDoorDec
import Derived.Test.YtahhjhhnjpbocaaDoorShelf
import Derived.Deep.RegionHeld3
import Derived.Lib.AppendIntMem
namespace Go.Proofs.YtahhjhhnjpbocaaDoor
open Go.RowKit

/-- The table of powers of ten that strconv reads. -/
def Tab (w : World) : Prop := Lib.TabIs Tryd.prog w "internal/strconv.uint64pow10" .u64 Lib.pow10Tab

theorem Tab.below {w w' : World} (h : Tab w) (hb : Below w.heap.size w w') : Tab w' := Lib.tabBelow_of_tabIs h w' hb

theorem below_grow (w : World) (k : Nat) (os : Array Obj) : Below w.heap.size w (Sort.grow (w.drewN k) os) :=
  ⟨rfl, rfl, rfl, by simp [Sort.grow], fun b hb => by simp [Sort.grow, Array.getElem?_append_left hb]⟩

theorem itoa_any (n : Nat) (w : World) (hn : n ≤ 999999) (ht : Tab w) :
    Calls Tryd.prog 23 #[.int .i64 (n : Int)] w fun e w' => e = .returned (.string (decS n)) ∧ Below w.heap.size w w' := by
  refine (Go.Proofs.Tryd.strconv_Itoa (n : Int) (by omega) (by omega) w ht).mono ?_
  rintro e w' ⟨rfl, k, os, rfl⟩
  refine ⟨?_, below_grow w k os⟩
  have : Lib.itoa (n : Int) = Lib.decDigits n := by
    unfold Lib.itoa; rw [if_neg (by omega)]; simp
  rw [this]; rfl

theorem okB_num {s : ByteArray} {n : Int} (h : okB s n = true) : s.size ≤ 6 ∧ 0 ≤ n ∧ n ≤ 999 := by
  simp [okB, inB] at h
  omega

/-- What HostPut writes. -/
def putS (s : ByteArray) (n : Int) : ByteArray := if okB s n = true then s ++ decS n.toNat else ByteArray.empty

set_option maxHeartbeats 600000 in
theorem l1Put_any (s : ByteArray) (n : Nat) (w : World) (hs : s.size ≤ 6) (hn : n ≤ 999999) :
    Calls Tryd.prog 36 #[.agg #[.string s, .int .i64 (n : Int)]] w fun e w' => e = .returned (.string (s ++ decS n)) ∧ Below w.heap.size w w' := by
  have hd := decS_size n
  obtain ⟨r, hr⟩ : ∃ r, r = decS n := ⟨_, rfl⟩
  rw [← hr] at hd ⊢
  have hadd := fun W => run_string_add_sum (P := Tryd.prog) (w := W) s r (by omega)
  have CD : Hid (∀ w, Calls Tryd.prog 54 #[.int .i64 (n : Int)] w fun e w' => e = .returned (.string r) ∧ Below w.heap.size w w') := fun w => by rw [hr]; exact dec_any n w hn
  clear hr hd
  go_enter Tryd.func36, Tryd.ntmps36
  go_wp2
  go_region_held3 (fun w' => w'.cell? ⟨w.heap.size, 0, none⟩ = some (.string s) ∧ w'.cell? ⟨w.heap.size, 1, none⟩ = some (.int .i64 (n : Int))) (go_keep)
    (first
      | (go_at_call 54; refine (CD.out _).mono ?_; rintro e w1 ⟨rfl, hb1⟩; have g0 : w1.cell? ⟨w.heap.size, 0, none⟩ = some (.string s) := (by rw [hb1.cell (by simp)]; simp); have g1 : w1.cell? ⟨w.heap.size, 1, none⟩ = some (.int .i64 (n : Int)) := (by rw [hb1.cell (by simp)]; simp); have HB1 := hid hb1; clear hb1))
  all_goals
    go_wp2
    go_ret
    exact ⟨rfl, (((Below.refl _ _).alloc (Nat.le_refl _) _).drew).trans (HB1.out.mono (by simp))⟩


set_option maxHeartbeats 600000 in
theorem implPut_any (s : ByteArray) (n : Int) (w : World) (hs : s.size ≤ maxLen) (ht : Tab w) :
    Calls Tryd.prog 10 #[.agg #[.string s, .int .i64 n]] w fun e w' => e = .returned (.string (putS s n)) ∧ Below w.heap.size w w' := by
  cases hok : okB s n
  · have HP : Hid (putS s n = ByteArray.empty) := if_neg (by rw [hok]; decide)
    go_enter Tryd.func10, Tryd.ntmps10
    go_wp2_with fail
    refine (ok_below _ _ _ hs).mono ?_
    rintro e w1 ⟨rfl, hb1⟩
    have HB1 := hid hb1
    clear hb1
    go_wp2
    go_ret
    exact ⟨by rw [HP.out]; rfl, ((Below.refl _ _).alloc (Nat.le_refl _) _).trans (HB1.out.mono (by simp))⟩
  · obtain ⟨h6, h0, h9⟩ := okB_num hok
    have HP : Hid (putS s n = s ++ decS n.toNat) := if_pos hok
    obtain ⟨m, hm⟩ : ∃ m : Nat, n = (m : Int) := ⟨n.toNat, by omega⟩
    subst hm
    have HT := hid ht
    clear ht
    have hd := decS_size m
    obtain ⟨r, hr⟩ : ∃ r, r = decS m := ⟨_, rfl⟩
    have HP2 : Hid (putS s (m : Int) = s ++ r) := by have := HP.out; rw [hr]; exact hid (by simpa using this)
    rw [← hr] at hd
    have hadd := fun W => run_string_add_sum (P := Tryd.prog) (w := W) s r (by omega)
    have CD : Hid (∀ w, Tab w → Calls Tryd.prog 23 #[.int .i64 (m : Int)] w fun e w' => e = .returned (.string r) ∧ Below w.heap.size w w') := fun w ht => by rw [hr]; exact itoa_any m w (by omega) ht
    clear HP hr hd
    go_enter Tryd.func10, Tryd.ntmps10
    go_wp2_with fail
    refine (ok_below _ _ _ hs).mono ?_
    rintro e w1 ⟨rfl, hb1⟩
    have g0 : w1.cell? ⟨w.heap.size, 0, none⟩ = some (.string s) := by rw [hb1.cell (by simp)]; simp
    have g1 : w1.cell? ⟨w.heap.size, 1, none⟩ = some (.int .i64 (m : Int)) := by rw [hb1.cell (by simp)]; simp
    have hz : w.heap.size < w1.heap.size := by have := hb1.size; simp at this; omega
    have HB1 : Hid (Below w.heap.size w w1) := ((Below.refl _ _).alloc (Nat.le_refl _) _).trans (hb1.mono (by simp))
    have HT1 : Hid (Tab w1.drew) := (HT.out.below HB1.out).below ((Below.refl _ _).drew)
    clear hb1
    go_wp2_with fail
    go_region_held3 (fun w' => w'.cell? ⟨w.heap.size, 0, none⟩ = some (.string s) ∧ w'.cell? ⟨w.heap.size, 1, none⟩ = some (.int .i64 (m : Int))) (go_keep)
      (first
        | (go_at_call 23; refine (CD.out _ HT1.out).mono ?_; rintro e w2 ⟨rfl, hb2⟩; have g2 : w2.cell? ⟨w.heap.size, 0, none⟩ = some (.string s) := (by rw [hb2.cell (p := ⟨w.heap.size, 0, none⟩) hz]; exact g0); have g3 : w2.cell? ⟨w.heap.size, 1, none⟩ = some (.int .i64 (m : Int)) := (by rw [hb2.cell (p := ⟨w.heap.size, 1, none⟩) hz]; exact g1); have HB2 := hid hb2; clear hb2))
    all_goals
      go_wp2
      go_ret
      exact ⟨by rw [HP2.out]; rfl, HB1.out.drew.trans (HB2.out.mono HB1.out.size)⟩

end Go.Proofs.YtahhjhhnjpbocaaDoor
