/- DERIVED. The walk of DrawMsgPut. -/
import Derived.Test.YtijdjplajhcilabDoorDrawAnyR
namespace Go.Proofs.YtijdjplajhcilabDoor
open Go.RowKit

set_option maxRecDepth 100000 in
set_option maxHeartbeats 1600000 in
theorem drawPut_any (oa : Option Addr) (len cap : Nat) (w : World) (h : CodeAt w oa len) (hc : len ≤ cap) (hm : cap ≤ maxLen) :
    Calls Tryd.prog 4 #[.slice oa len cap] w fun ee w' => (∃ (a b c d e : Int) (o1 o2 : Option Addr) (c1 c2 : Nat) (V : List Int) (L : List Ent), ee = .returned (.agg #[.int .i64 a, .int .i64 b, .int .i64 c, .int .i64 d, .int .i64 e, .slice o1 V.length c1, .slice o2 L.length c2]) ∧ NumsAt w' o1 V ∧ EntsAt w' o2 L ∧ V.length ≤ 6 ∧ L.length ≤ 6) ∧ Below w.heap.size w w' := by
  have hal : Below w.heap.size w (w.alloc (.cells #[.int .i64 0, .int .i64 0, .int .i64 0, .int .i64 0, .int .i64 0, .slice none 0 0, .slice none 0 0] 26)) := (Below.refl _ _).alloc (Nat.le_refl _) _
  obtain ⟨w0, hw0⟩ : ∃ w0, w0 = w.alloc (.cells #[.int .i64 0, .int .i64 0, .int .i64 0, .int .i64 0, .int .i64 0, .slice none 0 0, .slice none 0 0] 26) := ⟨_, rfl⟩
  have HC : Hid (CodeAt w0 oa len) := by rw [hw0]; exact h.below hal
  have HA : Hid (Below w.heap.size w w0) := by rw [hw0]; exact hal
  have HZ0 : Hid (w0.heap[w.heap.size]? = some (.cells #[.int .i64 0, .int .i64 0, .int .i64 0, .int .i64 0, .int .i64 0, .slice none 0 0, .slice none 0 0] 26 (0, 0))) := by rw [hw0]; exact alloc_new _ _
  clear h hal
  go_enter Tryd.func4, Tryd.ntmps4
  go_wp2_with fail
  rw [← hw0]
  clear hw0
  refine (open_any oa len cap _ HC.out hc hm).mono ?_
  rintro e w1 ⟨rfl, ⟨l1, k1, hr1⟩, hb1⟩
  have HB1 := hid hb1
  have HR1 := hid hr1
  have HZ1 : Hid (w1.heap[w.heap.size]? = some (.cells #[.int .i64 0, .int .i64 0, .int .i64 0, .int .i64 0, .int .i64 0, .slice none 0 0, .slice none 0 0] 26 (0, 0))) := by show _ = _; rw [hb1.block _ (Array.getElem?_eq_some_iff.1 HZ0.out).1]; exact HZ0.out
  have HLT : Hid (w.heap.size < w0.heap.size) := (Array.getElem?_eq_some_iff.1 HZ0.out).1
  clear hb1 hr1
  go_wp2_with fail
  refine (drawAny_any w0.heap.size oa l1 k1 0 _ HR1.out (by omega)).mono ?_
  rintro ee w2 ⟨⟨a, b, c, d, e, o1, o2, c1, c2, V, L, xs, rfl, hv, hl, hx, hV, hL⟩, q, hq, hd⟩
  have HB2 : Hid (Below w.heap.size w w2) := hd.2.below w.heap.size w (Nat.le_of_lt HLT.out) (HA.out.trans (HB1.out.mono HA.out.size))
  have hNR : w.heap.size ≠ w0.heap.size := Nat.ne_of_lt HLT.out
  have HZ2 := hid (keeps_block HZ1.out hd.2 hNR)
  clear hd hNR
  have z0 : w2.cell? ⟨w.heap.size, 0, none⟩ = some (.int .i64 0) := by rw [in_block HZ2.out 0]; rfl
  have fz0 : w2.frozen? ⟨w.heap.size, 0, none⟩ = false := free_block HZ2.out 0
  have z1 : w2.cell? ⟨w.heap.size, 1, none⟩ = some (.int .i64 0) := by rw [in_block HZ2.out 1]; rfl
  have fz1 : w2.frozen? ⟨w.heap.size, 1, none⟩ = false := free_block HZ2.out 1
  have z2 : w2.cell? ⟨w.heap.size, 2, none⟩ = some (.int .i64 0) := by rw [in_block HZ2.out 2]; rfl
  have fz2 : w2.frozen? ⟨w.heap.size, 2, none⟩ = false := free_block HZ2.out 2
  have z3 : w2.cell? ⟨w.heap.size, 3, none⟩ = some (.int .i64 0) := by rw [in_block HZ2.out 3]; rfl
  have fz3 : w2.frozen? ⟨w.heap.size, 3, none⟩ = false := free_block HZ2.out 3
  have z4 : w2.cell? ⟨w.heap.size, 4, none⟩ = some (.int .i64 0) := by rw [in_block HZ2.out 4]; rfl
  have fz4 : w2.frozen? ⟨w.heap.size, 4, none⟩ = false := free_block HZ2.out 4
  have z5 : w2.cell? ⟨w.heap.size, 5, none⟩ = some (.slice none 0 0) := by rw [in_block HZ2.out 5]; rfl
  have fz5 : w2.frozen? ⟨w.heap.size, 5, none⟩ = false := free_block HZ2.out 5
  have z6 : w2.cell? ⟨w.heap.size, 6, none⟩ = some (.slice none 0 0) := by rw [in_block HZ2.out 6]; rfl
  have fz6 : w2.frozen? ⟨w.heap.size, 6, none⟩ = false := free_block HZ2.out 6
  have hb0 := HZ2.out
  have hq0 := HB2.out
  have hb1 := set_block _ w.heap.size 0 _ _ (.int .i64 a) hb0
  have hq1 := hq0.setCell (p := ⟨w.heap.size, 0, none⟩) (Nat.le_refl _) (.int .i64 a)
  have hb2 := set_block _ w.heap.size 1 _ _ (.int .i64 b) hb1
  have hq2 := hq1.setCell (p := ⟨w.heap.size, 1, none⟩) (Nat.le_refl _) (.int .i64 b)
  have hb3 := set_block _ w.heap.size 2 _ _ (.int .i64 c) hb2
  have hq3 := hq2.setCell (p := ⟨w.heap.size, 2, none⟩) (Nat.le_refl _) (.int .i64 c)
  have hb4 := set_block _ w.heap.size 3 _ _ (.int .i64 d) hb3
  have hq4 := hq3.setCell (p := ⟨w.heap.size, 3, none⟩) (Nat.le_refl _) (.int .i64 d)
  have hb5 := set_block _ w.heap.size 4 _ _ (.int .i64 e) hb4
  have hq5 := hq4.setCell (p := ⟨w.heap.size, 4, none⟩) (Nat.le_refl _) (.int .i64 e)
  have hb6 := set_block _ w.heap.size 5 _ _ (.slice o1 V.length c1) hb5
  have hq6 := hq5.setCell (p := ⟨w.heap.size, 5, none⟩) (Nat.le_refl _) (.slice o1 V.length c1)
  have hb7 := set_block _ w.heap.size 6 _ _ (.slice o2 L.length c2) hb6
  have hq7 := hq6.setCell (p := ⟨w.heap.size, 6, none⟩) (Nat.le_refl _) (.slice o2 L.length c2)
  have hvF := row_ty (row_ty (row_ty (row_ty (row_ty (row_ty (row_ty (hv) hb0 neMsgInt 0 (.int .i64 a)) hb1 neMsgInt 1 (.int .i64 b)) hb2 neMsgInt 2 (.int .i64 c)) hb3 neMsgInt 3 (.int .i64 d)) hb4 neMsgInt 4 (.int .i64 e)) hb5 neMsgInt 5 (.slice o1 V.length c1)) hb6 neMsgInt 6 (.slice o2 L.length c2)
  have hlF := row_ty (row_ty (row_ty (row_ty (row_ty (row_ty (row_ty (hl) hb0 neMsgEnt 0 (.int .i64 a)) hb1 neMsgEnt 1 (.int .i64 b)) hb2 neMsgEnt 2 (.int .i64 c)) hb3 neMsgEnt 3 (.int .i64 d)) hb4 neMsgEnt 4 (.int .i64 e)) hb5 neMsgEnt 5 (.slice o1 V.length c1)) hb6 neMsgEnt 6 (.slice o2 L.length c2)
  have hxF := ecells_ty (ecells_ty (ecells_ty (ecells_ty (ecells_ty (ecells_ty (ecells_ty (hx) hb0 neMsgInt 0 (.int .i64 a)) hb1 neMsgInt 1 (.int .i64 b)) hb2 neMsgInt 2 (.int .i64 c)) hb3 neMsgInt 3 (.int .i64 d)) hb4 neMsgInt 4 (.int .i64 e)) hb5 neMsgInt 5 (.slice o1 V.length c1)) hb6 neMsgInt 6 (.slice o2 L.length c2)
  obtain ⟨oa1, cp1, e1, hn1⟩ := nums_of_len rfl hvF
  injection e1 with e2 e3 e4
  subst e2
  clear e3 e4 cp1
  have HN := hid hn1
  have HE := hid (ents_of hlF hxF)
  have HQ := hid hq7
  clear hv hl hx hvF hlF hxF hn1 hb0 hq0 hb1 hq1 hb2 hq2 hb3 hq3 hb4 hq4 hb5 hq5 hb6 hq6 hb7 hq7
  go_wp2
  refine bodyPost_ret (v := .agg #[.int .i64 a, .int .i64 b, .int .i64 c, .int .i64 d, .int .i64 e, .slice o1 V.length c1, .slice o2 L.length c2]) (by simp [results, Tryd.results4, go_sem, z0, z1, z2, z3, z4, z5, z6]) rfl ?_
  exact ⟨⟨a, b, c, d, e, o1, o2, c1, c2, V, L, rfl, HN.out, HE.out, hV, hL⟩, HQ.out⟩

end Go.Proofs.YtijdjplajhcilabDoor

