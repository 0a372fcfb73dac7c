/- DERIVED. The walk of what tells whether two messages are alike: fmMsg. -/
import Derived.Test.YtcmefjicogiclaaDoorFmMsg
namespace Go.Proofs.YtcmefjicogiclaaDoor
open Go.RowKit

set_option maxRecDepth 100000 in
set_option maxHeartbeats 3200000 in
theorem fmMsg_same (kd fr tt bl ins : Int) (o1 o2 p1 p2 : Option Addr) (c1 c2 d1 d2 n m : Nat) (V : List Int) (L : List Ent) (w : World) (hn : n = V.length) (hn2 : n ≤ 1048576) (hm : m = L.length) (hm2 : m ≤ 1048576) (h1 : NumsAt w o1 V) (h2 : NumsAt w p1 V) (g1 : EntsAt w o2 L) (g2 : EntsAt w p2 L) :
    Calls Tryd.prog 10 #[.agg #[.int .i64 kd, .int .i64 fr, .int .i64 tt, .int .i64 bl, .int .i64 ins, .slice o1 n c1, .slice o2 m c2], .agg #[.int .i64 kd, .int .i64 fr, .int .i64 tt, .int .i64 bl, .int .i64 ins, .slice p1 n d1, .slice p2 m d2]] w fun e w' => e = .returned (.bool true) ∧ Below w.heap.size w w' := by
  have CI : Hid (∀ w', Below w.heap.size w w' → Calls Tryd.prog 25 #[.slice o1 n c1, .slice p1 n d1] w' fun e w2 => e = .returned (.bool true) ∧ Below w'.heap.size w' w2) := fun w' hb => fmInts_same o1 p1 c1 d1 n V w' hn hn2 (h1.below hb) (h2.below hb)
  have CE : Hid (∀ w', Below w.heap.size w w' → Calls Tryd.prog 26 #[.slice o2 m c2, .slice p2 m d2] w' fun e w2 => e = .returned (.bool true) ∧ Below w'.heap.size w' w2) := fun w' hb => fmEntries_same o2 p2 c2 d2 m L w' hm hm2 (g1.below hb) (g2.below hb)
  clear h1 h2 g1 g2 hn hm
  go_enter Tryd.func10, Tryd.ntmps10
  go_wp2_with fail
  obtain ⟨w0, hw0⟩ : ∃ w0, w0 = (w.alloc (.cells #[.int .i64 kd, .int .i64 fr, .int .i64 tt, .int .i64 bl, .int .i64 ins, .slice o1 n c1, .slice o2 m c2] 26)).alloc (.cells #[.int .i64 kd, .int .i64 fr, .int .i64 tt, .int .i64 bl, .int .i64 ins, .slice p1 n d1, .slice p2 m d2] 26) := ⟨_, rfl⟩
  rw [← hw0]
  have HB0 : Hid (Below w.heap.size w w0) := by rw [hw0]; exact ((Below.refl _ _).alloc (Nat.le_refl _) _).alloc (by simp) _
  have k0 : w0.cell? ⟨w.heap.size, 6, none⟩ = some (.slice o2 m c2) := by rw [hw0]; simp
  have k1 : w0.cell? ⟨w.heap.size + 1, 6, none⟩ = some (.slice p2 m d2) := by rw [hw0]; simp
  have l0 : w.heap.size < w0.heap.size := by rw [hw0]; simp; omega
  have l1 : w.heap.size + 1 < w0.heap.size := by rw [hw0]; simp
  clear hw0
  refine (CI.out w0 HB0.out).mono ?_
  rintro e w1 ⟨rfl, hb1⟩
  have y0 : w1.cell? ⟨w.heap.size, 6, none⟩ = some (.slice o2 m c2) := by rw [hb1.cell (p := ⟨w.heap.size, 6, none⟩) l0]; exact k0
  have y1 : w1.cell? ⟨w.heap.size + 1, 6, none⟩ = some (.slice p2 m d2) := by rw [hb1.cell (p := ⟨w.heap.size + 1, 6, none⟩) l1]; exact k1
  have HB1 : Hid (Below w.heap.size w w1) := HB0.out.trans (hb1.mono HB0.out.size)
  clear hb1 k0 k1 l0 l1
  go_wp2_with fail
  refine (CE.out w1 HB1.out).mono ?_
  rintro e w2 ⟨rfl, hb2⟩
  have HB2 : Hid (Below w.heap.size w w2) := HB1.out.trans (hb2.mono HB1.out.size)
  clear hb2
  go_wp2
  go_ret
  exact ⟨rfl, HB2.out⟩

end Go.Proofs.YtcmefjicogiclaaDoor
