/- DERIVED. The walks of what draws logs. -/
import Derived.Test.YtmafkelegjjnfafDoorDrawHost2
import Derived.Test.YtmafkelegjjnfafDoorLogAdd
import Derived.Deep.LoopGhost
import Derived.Test.YtmafkelegjjnfafDoorBent
namespace Go.Proofs.YtmafkelegjjnfafDoor
open Go.RowKit

theorem Drawn.trans2' {R : Nat} {oa : Option Addr} {len cap q q' : Nat} {w w1 w2 : World} (h : Drawn R oa len cap q w w1) (k : Drawn R oa len cap q' w1 w2) : Drawn R oa len cap q' w w2 := ⟨k.1, h.2.trans k.2⟩


theorem putR_short {r : ByteArray} {K : Nat} (h : r.size ≤ K) : (putR r).size ≤ 2 * K + 3 := by
  have := decS_size r.size
  rw [putR_size]; omega

theorem addS_size {log r : ByteArray} {K : Nat} (h : r.size ≤ K) : (addS log r).size ≤ log.size + 2 * K + 3 := by
  have := putR_short h
  unfold addS
  split
  · rw [ByteArray.size_append]; omega
  · omega

set_option maxRecDepth 100000 in
set_option maxHeartbeats 1600000 in
theorem log_any (R : Nat) (oa : Option Addr) (len cap p : Nat) (w : World) (h : RdAt w R oa len cap p) (hp : p ≤ 900000) :
    Calls Tryd.prog 13 #[.pointer (some ⟨R, 0, none⟩)] w fun e w' => (∃ s : ByteArray, e = .returned (.string s) ∧ s.size ≤ 200) ∧ (∃ q, q ≤ p + 6 ∧ Drawn R oa len cap q w w') := by
  have HR := hid h
  have hRo := h.old
  clear h
  go_enter Tryd.func13, Tryd.ntmps13
  go_wp2_with fail
  refine (pick_any R oa len cap p 6 _ HR.out (by omega) (by decide)).mono ?_
  rintro e w1 ⟨⟨x, rfl, hx0, hx1⟩, hd⟩
  obtain ⟨n, rfl⟩ : ∃ n : Nat, x = (n : Int) := ⟨x.toNat, by omega⟩
  have HD1 := hid hd
  clear hd
  go_wp2
  go_loopg [3, 4] n (fun gh v3 v4 wr => ∃ (s : ByteArray) (q : Nat), v4 = .int .i64 (gh : Int) ∧ v3 = .string s ∧ gh ≤ n ∧ s.size + 23 * gh ≤ 120 ∧ q + gh ≤ p + 6 ∧ Drawn R oa len cap q w wr)
  case atStart => exact ⟨⟨#[]⟩, p + 1, rfl, rfl, Nat.le_refl _, by simp [ByteArray.size]; omega, by omega, HD1.out⟩
  case round =>
    obtain ⟨s, q, rfl, rfl, hg, hs, hq, hd⟩ := hrel
    have HD := hid hd
    have hRw := hd.1.old
    clear hd HD1
    cases gk with
    | zero =>
      go_wp2
      go_ret
      exact ⟨⟨s, rfl, by omega⟩, q, by omega, HD.out⟩
    | succ g =>
      have hpos : ((g : Int) + 1) > 0 := by omega
      go_wp2_with fail
      refine (of_any R _ 9 9 oa len cap q _ (HD.out.1.keep ((Below.refl _ _).alloc (Nat.le_refl _) _)) (by omega) (by decide) (by decide) ?_ ?_ ?_).mono ?_
      · simp
      · omega
      · exact strs_new _ _ _ 9 _ 9 (by simp) (by rfl) (by kernel_rfl)
      rintro e w2 ⟨⟨r, rfl, hr⟩, hd⟩
      have HD2 : Hid (Drawn R oa len cap (q + 1) w w2) := ⟨hd.1, HD.out.2.trans ((Keeps.of_below ((Below.refl _ _).alloc (Nat.le_refl _) _) hRw).trans hd.2)⟩
      have hRw2 := hd.1.old
      have HA := hid (addS_size (log := s) hr)
      clear hd HD
      go_wp2_with fail
      refine (specAdd_any s r _ (by omega) (by omega)).mono ?_
      rintro e w3 ⟨rfl, hb⟩
      have HD3 : Hid (Drawn R oa len cap (q + 1) w w3) := ⟨HD2.out.1.keep hb, HD2.out.2.trans (Keeps.of_below hb hRw2)⟩
      obtain ⟨u, hu⟩ : ∃ u, u = addS s r := ⟨_, rfl⟩
      have hus : u.size ≤ s.size + 21 := by have := HA.out; rw [hu]; omega
      obtain ⟨b, hb2⟩ : ∃ b, b = addOk s r := ⟨_, rfl⟩
      rw [← hu, ← hb2]
      clear hb hu hb2 HD2
      go_wp2
      go_roundg g
      case measure => omega
      case rel => exact ⟨u, q + 1, by go_num, rfl, by omega, by omega, by omega, HD3.out⟩



set_option maxRecDepth 100000 in
set_option maxHeartbeats 1600000 in
theorem drawLogRead_any (oa : Option Addr) (len cap : Nat) (w : World) (h : CodeAt w oa len) (hc : len ≤ cap) (hm : cap ≤ maxLen) :
    Calls Tryd.prog 4 #[.slice oa len cap] w fun e w' => (∃ s : ByteArray, e = .returned (.string s) ∧ s.size ≤ 200010) ∧ Below w.heap.size w w' := by
  have HC := hid h
  clear h
  go_enter Tryd.func4, Tryd.ntmps4
  go_wp2_with fail
  refine (open_any oa len cap _ HC.out hc hm).mono ?_
  rintro e w1 ⟨rfl, ⟨l, c, hr⟩, hb⟩
  have HR := hid hr
  have HB := hid hb
  have hRo := hr.old
  clear hr hb
  go_wp2_with fail
  refine (pick_any w.heap.size oa l c 0 8 _ HR.out (by omega) (by decide)).mono ?_
  rintro e w2 ⟨⟨x, rfl, hx0, hx1⟩, hd⟩
  have HD2 := hid hd
  have hz := hd.1.old
  clear hd
  by_cases h0 : x = 0
  · subst h0
    go_wp2_with fail
    refine (of_any w.heap.size _ 9 6 oa l c 1 _ (HD2.out.1.keep ((Below.refl _ _).alloc (Nat.le_refl _) _)) (by omega) (by decide) (by decide) ?_ ?_ ?_).mono ?_
    · simp
    · omega
    · exact strs_new _ _ _ 6 _ 9 (by simp) (by rfl) (by kernel_rfl)
    rintro e w3 ⟨⟨s, rfl, hs⟩, hd⟩
    have HD3 := hid hd
    clear hd
    go_wp2
    go_ret
    refine ⟨⟨s, rfl, by omega⟩, ?_⟩
    refine HD3.out.2.below _ _ (Nat.le_refl _) ?_
    refine Below.alloc ?_ (by omega) _
    exact HD2.out.2.below _ _ (Nat.le_refl _) HB.out
  · have h0' : (x == 0) = false := by rw [beq_eq_false_iff_ne]; exact h0
    clear h0
    go_wp2_with fail
    refine (log_any w.heap.size oa l c 1 _ HD2.out.1 (by omega)).mono ?_
    rintro e w3 ⟨⟨s, rfl, hs⟩, q, hq, hd⟩
    have HD3 := hid hd
    clear hd
    go_wp2_with fail
    refine (bent_any w.heap.size oa l c q s _ HD3.out.1 (by omega) (by omega)).mono ?_
    rintro e w4 ⟨⟨t, rfl, ht⟩, q2, hd⟩
    have HD4 := hid hd
    clear hd
    go_wp2
    go_ret
    refine ⟨⟨t, rfl, ht⟩, ?_⟩
    refine HD4.out.2.below _ _ (Nat.le_refl _) ?_
    refine HD3.out.2.below _ _ (Nat.le_refl _) ?_
    exact HD2.out.2.below _ _ (Nat.le_refl _) HB.out

end Go.Proofs.YtmafkelegjjnfafDoor
