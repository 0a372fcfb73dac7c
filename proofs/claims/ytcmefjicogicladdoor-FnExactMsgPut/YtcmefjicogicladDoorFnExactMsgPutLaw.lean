/- DERIVED. The law FnExactMsgPut at every message. -/
import Derived.Test.YtcmefjicogicladDoorWrPut
import Derived.Test.YtcmefjicogicladDoorMsgTo3
namespace Go.Proofs.YtcmefjicogicladDoor
open Go.RowKit

set_option maxRecDepth 100000 in
set_option maxHeartbeats 4000000 in
theorem law_any (kd fr tt bl ins : Int) (va la : Option Addr) (n vc m lc : Nat) (V : List Int) (L : List Ent) (w : World) (hn : n = V.length) (hn2 : n ≤ maxLen) (hV : NumsAt w va V) (hm : m = L.length) (hm2 : m ≤ maxLen) (hL : EntsRaw w la L) (hT : Tab w) :
    Calls Tryd.prog 3 #[.agg #[.int .i64 kd, .int .i64 fr, .int .i64 tt, .int .i64 bl, .int .i64 ins, .slice va n vc, .slice la m lc]] w fun e w' => e = .returned (.bool true) ∧ Below w.heap.size w w' := by
  have HN := hid hn
  have HM := hid hm
  have HV := hid hV
  have HL := hid hL
  have HTB := hid hT
  have HBA : Hid (Below w.heap.size w (w.alloc (.cells #[.int .i64 kd, .int .i64 fr, .int .i64 tt, .int .i64 bl, .int .i64 ins, .slice va n vc, .slice la m lc] 25))) := (Below.refl _ _).alloc (Nat.le_refl _) _
  have CZ : Hid (∀ w', Below w.heap.size w w' → Calls Tryd.prog 4 #[.agg #[.int .i64 kd, .int .i64 fr, .int .i64 tt, .int .i64 bl, .int .i64 ins, .slice va n vc, .slice la m lc], .int .i64 1048576] w' fun e w2 => (∃ r : Int, e = .returned (.int .i64 r) ∧ (0 ≤ r → n ≤ 1048576 ∧ m ≤ 1048576 ∧ ∀ i, i < L.length → (L.getD i (0, 0, [])).2.2.length ≤ 1048576)) ∧ Below w'.heap.size w' w2) := fun w' hb => szMsg_any kd fr tt bl ins va la n vc m lc L w' hn2 hm hm2 (hL.below hb)
  clear hn hm hV hL hT
  go_enter Tryd.func3, Tryd.ntmps3
  go_wp2_with fail
  refine (CZ.out _ HBA.out).mono ?_
  rintro e w1 ⟨⟨r, rfl, hr⟩, hb⟩
  have HB1 : Hid (Below w.heap.size w w1) := HBA.out.trans (hb.mono HBA.out.size)
  have a0 : w1.cell? ⟨w.heap.size, 0, none⟩ = some (.int .i64 kd) := by rw [hb.cell (p := ⟨w.heap.size, 0, none⟩) (by simp)]; simp
  have a1 : w1.cell? ⟨w.heap.size, 1, none⟩ = some (.int .i64 fr) := by rw [hb.cell (p := ⟨w.heap.size, 1, none⟩) (by simp)]; simp
  have a2 : w1.cell? ⟨w.heap.size, 2, none⟩ = some (.int .i64 tt) := by rw [hb.cell (p := ⟨w.heap.size, 2, none⟩) (by simp)]; simp
  have a3 : w1.cell? ⟨w.heap.size, 3, none⟩ = some (.int .i64 bl) := by rw [hb.cell (p := ⟨w.heap.size, 3, none⟩) (by simp)]; simp
  have a4 : w1.cell? ⟨w.heap.size, 4, none⟩ = some (.int .i64 ins) := by rw [hb.cell (p := ⟨w.heap.size, 4, none⟩) (by simp)]; simp
  have a5 : w1.cell? ⟨w.heap.size, 5, none⟩ = some (.slice va n vc) := by rw [hb.cell (p := ⟨w.heap.size, 5, none⟩) (by simp)]; simp
  have a6 : w1.cell? ⟨w.heap.size, 6, none⟩ = some (.slice la m lc) := by rw [hb.cell (p := ⟨w.heap.size, 6, none⟩) (by simp)]; simp
  have z1 : w.heap.size < w1.heap.size := by have := hb.size; simp at this; omega
  by_cases hr0 : r < 0
  · clear hb hr
    go_wp2
    go_ret
    exact ⟨rfl, HB1.out⟩
  obtain ⟨hn3, hm3, hl3⟩ := hr (by omega)
  have hrd : decide (r < 0) = false := decide_eq_false hr0
  have HLE : Hid (EntsAt w la L) := HL.out.known hl3
  have CT : Hid (∀ w', Below w.heap.size w w' → Calls Tryd.prog 6 #[.agg #[.int .i64 kd, .int .i64 fr, .int .i64 tt, .int .i64 bl, .int .i64 ins, .slice va n vc, .slice la m lc]] w' fun e w2 => (∃ (o1 o2 : Option Addr) (c1 c2 : Nat), e = .returned (.agg #[.int .i64 kd, .int .i64 fr, .int .i64 tt, .int .i64 bl, .int .i64 ins, .slice o1 n c1, .slice o2 m c2]) ∧ NumsAt w2 o1 V ∧ EntsAt w2 o2 L) ∧ Below w'.heap.size w' w2) := fun w' hb => toMsg_any kd fr tt bl ins va la n vc m lc V L w' HN.out hn3 (HV.out.below hb) HM.out hm3 (HLE.out.below hb)
  obtain ⟨c, hc⟩ : ∃ c, c = putText kd fr tt bl ins V L := ⟨_, rfl⟩
  have CS : Hid (∀ o1 o2 c1 c2 w', NumsAt w' o1 V → EntsAt w' o2 L → Calls Tryd.prog 5 #[.agg #[.int .i64 kd, .int .i64 fr, .int .i64 tt, .int .i64 bl, .int .i64 ins, .slice o1 n c1, .slice o2 m c2]] w' fun e w2 => e = .returned (.string c) ∧ Below w'.heap.size w' w2) := fun o1 o2 c1 c2 w' h1 h2 => by rw [hc]; exact specMsgPut_any kd fr tt bl ins o1 o2 n c1 m c2 V L w' HN.out hn3 h1 HM.out hm3 h2
  have CI : Hid (∀ o1 o2 c1 c2 w', Below w.heap.size w w' → NumsAt w' o1 V → EntsAt w' o2 L → Calls Tryd.prog 7 #[.agg #[.int .i64 kd, .int .i64 fr, .int .i64 tt, .int .i64 bl, .int .i64 ins, .slice o1 n c1, .slice o2 m c2]] w' fun e w2 => e = .returned (.string c) ∧ Below w'.heap.size w' w2) := fun o1 o2 c1 c2 w' hb h1 h2 => by rw [hc]; exact implMsgPut_any kd fr tt bl ins o1 o2 n c1 m c2 V L w' (HTB.out.below hb) HN.out hn3 h1 HM.out hm3 h2
  have CE : Hid (∀ o1 o2 q1 q2 c1 c2 d1 d2 w', NumsAt w' o1 V → NumsAt w' o2 V → EntsAt w' q1 L → EntsAt w' q2 L → Calls Tryd.prog 8 #[.agg #[.int .i64 kd, .int .i64 fr, .int .i64 tt, .int .i64 bl, .int .i64 ins, .slice o1 n c1, .slice q1 m d1], .agg #[.int .i64 kd, .int .i64 fr, .int .i64 tt, .int .i64 bl, .int .i64 ins, .slice o2 n c2, .slice q2 m d2]] w' fun e w2 => e = .returned (.bool true) ∧ Below w'.heap.size w' w2) := fun o1 o2 q1 q2 c1 c2 d1 d2 w' h1 h2 h3 h4 => eqMsg_same kd fr tt bl ins o1 o2 q1 q2 n c1 c2 m d1 d2 V L w' HN.out hn3 HM.out hm3 h1 h2 h3 h4
  clear hb hr hc hl3
  go_wp2_with fail
  refine (CT.out _ HB1.out).mono ?_
  rintro e w2 ⟨⟨o1, o2, c1, c2, rfl, hN1, hE1⟩, hb⟩
  have HB2 : Hid (Below w.heap.size w w2) := HB1.out.trans (hb.mono HB1.out.size)
  have CS1 := hid (CS.out o1 o2 c1 c2 w2 hN1 hE1)
  have b0 : w2.cell? ⟨w.heap.size, 0, none⟩ = some (.int .i64 kd) := by rw [hb.cell (p := ⟨w.heap.size, 0, none⟩) z1]; exact a0
  have b1 : w2.cell? ⟨w.heap.size, 1, none⟩ = some (.int .i64 fr) := by rw [hb.cell (p := ⟨w.heap.size, 1, none⟩) z1]; exact a1
  have b2 : w2.cell? ⟨w.heap.size, 2, none⟩ = some (.int .i64 tt) := by rw [hb.cell (p := ⟨w.heap.size, 2, none⟩) z1]; exact a2
  have b3 : w2.cell? ⟨w.heap.size, 3, none⟩ = some (.int .i64 bl) := by rw [hb.cell (p := ⟨w.heap.size, 3, none⟩) z1]; exact a3
  have b4 : w2.cell? ⟨w.heap.size, 4, none⟩ = some (.int .i64 ins) := by rw [hb.cell (p := ⟨w.heap.size, 4, none⟩) z1]; exact a4
  have b5 : w2.cell? ⟨w.heap.size, 5, none⟩ = some (.slice va n vc) := by rw [hb.cell (p := ⟨w.heap.size, 5, none⟩) z1]; exact a5
  have b6 : w2.cell? ⟨w.heap.size, 6, none⟩ = some (.slice la m lc) := by rw [hb.cell (p := ⟨w.heap.size, 6, none⟩) z1]; exact a6
  have z2 : w.heap.size < w2.heap.size := Nat.lt_of_lt_of_le z1 hb.size
  clear a0 a1 a2 a3 a4 a5 a6 z1
  clear hb hN1 hE1
  go_wp2_with fail
  refine CS1.out.mono ?_
  rintro e w3 ⟨rfl, hb⟩
  have HB3 : Hid (Below w.heap.size w w3) := HB2.out.trans (hb.mono HB2.out.size)
  have a0 : w3.cell? ⟨w.heap.size, 0, none⟩ = some (.int .i64 kd) := by rw [hb.cell (p := ⟨w.heap.size, 0, none⟩) z2]; exact b0
  have a1 : w3.cell? ⟨w.heap.size, 1, none⟩ = some (.int .i64 fr) := by rw [hb.cell (p := ⟨w.heap.size, 1, none⟩) z2]; exact b1
  have a2 : w3.cell? ⟨w.heap.size, 2, none⟩ = some (.int .i64 tt) := by rw [hb.cell (p := ⟨w.heap.size, 2, none⟩) z2]; exact b2
  have a3 : w3.cell? ⟨w.heap.size, 3, none⟩ = some (.int .i64 bl) := by rw [hb.cell (p := ⟨w.heap.size, 3, none⟩) z2]; exact b3
  have a4 : w3.cell? ⟨w.heap.size, 4, none⟩ = some (.int .i64 ins) := by rw [hb.cell (p := ⟨w.heap.size, 4, none⟩) z2]; exact b4
  have a5 : w3.cell? ⟨w.heap.size, 5, none⟩ = some (.slice va n vc) := by rw [hb.cell (p := ⟨w.heap.size, 5, none⟩) z2]; exact b5
  have a6 : w3.cell? ⟨w.heap.size, 6, none⟩ = some (.slice la m lc) := by rw [hb.cell (p := ⟨w.heap.size, 6, none⟩) z2]; exact b6
  have z3 : w.heap.size < w3.heap.size := Nat.lt_of_lt_of_le z2 hb.size
  clear b0 b1 b2 b3 b4 b5 b6 z2
  clear hb CS1
  go_wp2_with fail
  refine (CT.out _ HB3.out).mono ?_
  rintro e w4 ⟨⟨p1, p2, d1, d2, rfl, hN1, hE1⟩, hb⟩
  have HB4 : Hid (Below w.heap.size w w4) := HB3.out.trans (hb.mono HB3.out.size)
  have HZ4 := hid hb.size
  have b0 : w4.cell? ⟨w.heap.size, 0, none⟩ = some (.int .i64 kd) := by rw [hb.cell (p := ⟨w.heap.size, 0, none⟩) z3]; exact a0
  have b1 : w4.cell? ⟨w.heap.size, 1, none⟩ = some (.int .i64 fr) := by rw [hb.cell (p := ⟨w.heap.size, 1, none⟩) z3]; exact a1
  have b2 : w4.cell? ⟨w.heap.size, 2, none⟩ = some (.int .i64 tt) := by rw [hb.cell (p := ⟨w.heap.size, 2, none⟩) z3]; exact a2
  have b3 : w4.cell? ⟨w.heap.size, 3, none⟩ = some (.int .i64 bl) := by rw [hb.cell (p := ⟨w.heap.size, 3, none⟩) z3]; exact a3
  have b4 : w4.cell? ⟨w.heap.size, 4, none⟩ = some (.int .i64 ins) := by rw [hb.cell (p := ⟨w.heap.size, 4, none⟩) z3]; exact a4
  have b5 : w4.cell? ⟨w.heap.size, 5, none⟩ = some (.slice va n vc) := by rw [hb.cell (p := ⟨w.heap.size, 5, none⟩) z3]; exact a5
  have b6 : w4.cell? ⟨w.heap.size, 6, none⟩ = some (.slice la m lc) := by rw [hb.cell (p := ⟨w.heap.size, 6, none⟩) z3]; exact a6
  have z4 : w.heap.size < w4.heap.size := Nat.lt_of_lt_of_le z3 hb.size
  clear a0 a1 a2 a3 a4 a5 a6 z3
  have hal : Below w4.heap.size w4 (w4.alloc (.cells #[.int .i64 kd, .int .i64 fr, .int .i64 tt, .int .i64 bl, .int .i64 ins, .slice p1 n d1, .slice p2 m d2] 30)) := (Below.refl _ _).alloc (Nat.le_refl _) _
  have HN5 : Hid (NumsAt (w4.alloc (.cells #[.int .i64 kd, .int .i64 fr, .int .i64 tt, .int .i64 bl, .int .i64 ins, .slice p1 n d1, .slice p2 m d2] 30)) p1 V) := hN1.below hal
  have HE5 : Hid (EntsAt (w4.alloc (.cells #[.int .i64 kd, .int .i64 fr, .int .i64 tt, .int .i64 bl, .int .i64 ins, .slice p1 n d1, .slice p2 m d2] 30)) p2 L) := hE1.below hal
  have HB5 : Hid (Below w.heap.size w (w4.alloc (.cells #[.int .i64 kd, .int .i64 fr, .int .i64 tt, .int .i64 bl, .int .i64 ins, .slice p1 n d1, .slice p2 m d2] 30))) := HB4.out.trans (hal.mono HB4.out.size)
  have CI1 := hid (CI.out p1 p2 d1 d2 _ HB5.out HN5.out HE5.out)
  clear hb hN1 hE1 hal
  go_wp2_with fail
  refine CI1.out.mono ?_
  rintro e w6 ⟨rfl, hb⟩
  have HN6 : Hid (NumsAt w6 p1 V) := HN5.out.below hb
  have HE6 : Hid (EntsAt w6 p2 L) := HE5.out.below hb
  have HB6 : Hid (Below w.heap.size w w6) := HB5.out.trans (hb.mono HB5.out.size)
  have a0 : w6.cell? ⟨w.heap.size, 0, none⟩ = some (.int .i64 kd) := by rw [hb.cell (p := ⟨w.heap.size, 0, none⟩) (by simp; omega), World.cell?_alloc_lt (h := z4)]; exact b0
  have a1 : w6.cell? ⟨w.heap.size, 1, none⟩ = some (.int .i64 fr) := by rw [hb.cell (p := ⟨w.heap.size, 1, none⟩) (by simp; omega), World.cell?_alloc_lt (h := z4)]; exact b1
  have a2 : w6.cell? ⟨w.heap.size, 2, none⟩ = some (.int .i64 tt) := by rw [hb.cell (p := ⟨w.heap.size, 2, none⟩) (by simp; omega), World.cell?_alloc_lt (h := z4)]; exact b2
  have a3 : w6.cell? ⟨w.heap.size, 3, none⟩ = some (.int .i64 bl) := by rw [hb.cell (p := ⟨w.heap.size, 3, none⟩) (by simp; omega), World.cell?_alloc_lt (h := z4)]; exact b3
  have a4 : w6.cell? ⟨w.heap.size, 4, none⟩ = some (.int .i64 ins) := by rw [hb.cell (p := ⟨w.heap.size, 4, none⟩) (by simp; omega), World.cell?_alloc_lt (h := z4)]; exact b4
  have a5 : w6.cell? ⟨w.heap.size, 5, none⟩ = some (.slice va n vc) := by rw [hb.cell (p := ⟨w.heap.size, 5, none⟩) (by simp; omega), World.cell?_alloc_lt (h := z4)]; exact b5
  have a6 : w6.cell? ⟨w.heap.size, 6, none⟩ = some (.slice la m lc) := by rw [hb.cell (p := ⟨w.heap.size, 6, none⟩) (by simp; omega), World.cell?_alloc_lt (h := z4)]; exact b6
  have x0 : w6.cell? ⟨w4.heap.size, 0, none⟩ = some (.int .i64 kd) := by rw [hb.cell (p := ⟨w4.heap.size, 0, none⟩) (by simp)]; simp
  have x1 : w6.cell? ⟨w4.heap.size, 1, none⟩ = some (.int .i64 fr) := by rw [hb.cell (p := ⟨w4.heap.size, 1, none⟩) (by simp)]; simp
  have x2 : w6.cell? ⟨w4.heap.size, 2, none⟩ = some (.int .i64 tt) := by rw [hb.cell (p := ⟨w4.heap.size, 2, none⟩) (by simp)]; simp
  have x3 : w6.cell? ⟨w4.heap.size, 3, none⟩ = some (.int .i64 bl) := by rw [hb.cell (p := ⟨w4.heap.size, 3, none⟩) (by simp)]; simp
  have x4 : w6.cell? ⟨w4.heap.size, 4, none⟩ = some (.int .i64 ins) := by rw [hb.cell (p := ⟨w4.heap.size, 4, none⟩) (by simp)]; simp
  have x5 : w6.cell? ⟨w4.heap.size, 5, none⟩ = some (.slice p1 n d1) := by rw [hb.cell (p := ⟨w4.heap.size, 5, none⟩) (by simp)]; simp
  have x6 : w6.cell? ⟨w4.heap.size, 6, none⟩ = some (.slice p2 m d2) := by rw [hb.cell (p := ⟨w4.heap.size, 6, none⟩) (by simp)]; simp
  have z6 : w4.heap.size < w6.heap.size := by have := hb.size; simp at this; omega
  have HZ6 : Hid (w.heap.size < w6.heap.size) := Nat.lt_trans z4 z6
  clear b0 b1 b2 b3 b4 b5 b6 z4
  clear hb CI1 HN5 HE5 HB5
  have HBD : Hid (Below w.heap.size w w6.drew) := HB6.out.drew
  have HN6D : Hid (NumsAt w6.drew p1 V) := HN6.out.below (Below.refl _ _).drew
  have HE6D : Hid (EntsAt w6.drew p2 L) := HE6.out.below (Below.refl _ _).drew
  go_wp2_with fail
  refine wp_region_any (by kernel_rfl) ?_
  change wpAny _ _ _ _ _ _ _ (World.drew _)
  refine wpAny_ready (rs := [0, 1]) (by kernel_rfl) (by simp) (AllReady.cons rfl (fun K hK => ?_) (AllReady.cons rfl (fun K hK => ?_) AllReady.nil))
  · go_simp
    refine hK _ _ ?_
    clear hK K
    refine wpAny_ready (rs := [1]) (by kernel_rfl) (by simp) (AllReady.cons rfl (fun K hK => ?_) AllReady.nil)
    go_simp
    refine hK _ _ ?_
    clear hK K
    refine wpAny_ready (rs := [2]) (by kernel_rfl) (by simp) (AllReady.cons rfl (fun K hK => ?_) AllReady.nil)
    go_simp
    go_wp2_with fail
    refine (CT.out _ HBD.out).mono ?_
    rintro e w7 ⟨⟨q1, q2, e1, e2, rfl, hN7, hE7⟩, hb7⟩
    have HB7 : Hid (Below w.heap.size w w7) := HBD.out.trans (hb7.mono HBD.out.size)
    have CE1 := hid (CE.out p1 q1 p2 q2 d1 e1 d2 e2 w7 (HN6D.out.below hb7) hN7 (HE6D.out.below hb7) hE7)
    clear hb7 hN7 hE7
    refine hK _ _ ?_
    clear hK K
    refine wpAny_ready (rs := [3]) (by kernel_rfl) (by simp) (AllReady.cons rfl (fun K hK => ?_) AllReady.nil)
    go_simp
    go_wp2_with fail
    refine CE1.out.mono ?_
    rintro e w8 ⟨rfl, hb8⟩
    have HB8 : Hid (Below w.heap.size w w8) := HB7.out.trans (hb8.mono HB7.out.size)
    clear hb8
    refine hK _ _ ?_
    clear hK K
    refine take_on 4 (v := ?_) rfl rfl (by kernel_rfl) (by kernel_rfl) (by kernel_rfl) (fun _ _ _ h => h) (by rfl) (fun w => ?_) ?_
    rotate_left
    · (go_simp; try with_reducible rfl)
    simp only [List.setIfInBounds_toArray, List.set_cons_zero, List.set_cons_succ]
    refine wpAny_done (by kernel_rfl) ?_ _
    go_wp2
    go_ret
    exact ⟨rfl, HB8.out⟩
  · go_simp
    refine hK _ _ ?_
    clear hK K
    refine wpAny_ready (rs := [0, 2]) (by kernel_rfl) (by simp) (AllReady.cons rfl (fun K hK => ?_) (AllReady.cons rfl (fun K hK => ?_) AllReady.nil))
    · go_simp
      refine hK _ _ ?_
      clear hK K
      refine wpAny_ready (rs := [2]) (by kernel_rfl) (by simp) (AllReady.cons rfl (fun K hK => ?_) AllReady.nil)
      go_simp
      go_wp2_with fail
      refine (CT.out _ HBD.out).mono ?_
      rintro e w7 ⟨⟨q1, q2, e1, e2, rfl, hN7, hE7⟩, hb7⟩
      have HB7 : Hid (Below w.heap.size w w7) := HBD.out.trans (hb7.mono HBD.out.size)
      have CE1 := hid (CE.out p1 q1 p2 q2 d1 e1 d2 e2 w7 (HN6D.out.below hb7) hN7 (HE6D.out.below hb7) hE7)
      clear hb7 hN7 hE7
      refine hK _ _ ?_
      clear hK K
      refine wpAny_ready (rs := [3]) (by kernel_rfl) (by simp) (AllReady.cons rfl (fun K hK => ?_) AllReady.nil)
      go_simp
      go_wp2_with fail
      refine CE1.out.mono ?_
      rintro e w8 ⟨rfl, hb8⟩
      have HB8 : Hid (Below w.heap.size w w8) := HB7.out.trans (hb8.mono HB7.out.size)
      clear hb8
      refine hK _ _ ?_
      clear hK K
      refine take_on 4 (v := ?_) rfl rfl (by kernel_rfl) (by kernel_rfl) (by kernel_rfl) (fun _ _ _ h => h) (by rfl) (fun w => ?_) ?_
      rotate_left
      · (go_simp; try with_reducible rfl)
      simp only [List.setIfInBounds_toArray, List.set_cons_zero, List.set_cons_succ]
      refine wpAny_done (by kernel_rfl) ?_ _
      go_wp2
      go_ret
      exact ⟨rfl, HB8.out⟩
    · go_simp
      go_wp2_with fail
      refine (CT.out _ HBD.out).mono ?_
      rintro e w7 ⟨⟨q1, q2, e1, e2, rfl, hN7, hE7⟩, hb7⟩
      have HB7 : Hid (Below w.heap.size w w7) := HBD.out.trans (hb7.mono HBD.out.size)
      have CE1 := hid (CE.out p1 q1 p2 q2 d1 e1 d2 e2 w7 (HN6D.out.below hb7) hN7 (HE6D.out.below hb7) hE7)
      have y0 : w7.cell? ⟨w4.heap.size, 0, none⟩ = some (.int .i64 kd) := by rw [hb7.cell (p := ⟨w4.heap.size, 0, none⟩) z6]; exact x0
      have y1 : w7.cell? ⟨w4.heap.size, 1, none⟩ = some (.int .i64 fr) := by rw [hb7.cell (p := ⟨w4.heap.size, 1, none⟩) z6]; exact x1
      have y2 : w7.cell? ⟨w4.heap.size, 2, none⟩ = some (.int .i64 tt) := by rw [hb7.cell (p := ⟨w4.heap.size, 2, none⟩) z6]; exact x2
      have y3 : w7.cell? ⟨w4.heap.size, 3, none⟩ = some (.int .i64 bl) := by rw [hb7.cell (p := ⟨w4.heap.size, 3, none⟩) z6]; exact x3
      have y4 : w7.cell? ⟨w4.heap.size, 4, none⟩ = some (.int .i64 ins) := by rw [hb7.cell (p := ⟨w4.heap.size, 4, none⟩) z6]; exact x4
      have y5 : w7.cell? ⟨w4.heap.size, 5, none⟩ = some (.slice p1 n d1) := by rw [hb7.cell (p := ⟨w4.heap.size, 5, none⟩) z6]; exact x5
      have y6 : w7.cell? ⟨w4.heap.size, 6, none⟩ = some (.slice p2 m d2) := by rw [hb7.cell (p := ⟨w4.heap.size, 6, none⟩) z6]; exact x6
      clear hb7 hN7 hE7
      refine hK _ _ ?_
      clear hK K
      refine wpAny_ready (rs := [0]) (by kernel_rfl) (by simp) (AllReady.cons rfl (fun K hK => ?_) AllReady.nil)
      go_simp
      refine hK _ _ ?_
      clear hK K
      refine wpAny_ready (rs := [3]) (by kernel_rfl) (by simp) (AllReady.cons rfl (fun K hK => ?_) AllReady.nil)
      go_simp
      go_wp2_with fail
      refine CE1.out.mono ?_
      rintro e w8 ⟨rfl, hb8⟩
      have HB8 : Hid (Below w.heap.size w w8) := HB7.out.trans (hb8.mono HB7.out.size)
      clear hb8
      refine hK _ _ ?_
      clear hK K
      refine take_on 4 (v := ?_) rfl rfl (by kernel_rfl) (by kernel_rfl) (by kernel_rfl) (fun _ _ _ h => h) (by rfl) (fun w => ?_) ?_
      rotate_left
      · (go_simp; try with_reducible rfl)
      simp only [List.setIfInBounds_toArray, List.set_cons_zero, List.set_cons_succ]
      refine wpAny_done (by kernel_rfl) ?_ _
      go_wp2
      go_ret
      exact ⟨rfl, HB8.out⟩

end Go.Proofs.YtcmefjicogicladDoor
