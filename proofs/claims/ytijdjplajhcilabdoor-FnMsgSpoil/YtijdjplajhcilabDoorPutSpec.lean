/- DERIVED. A message as it is written: plain, and the model's walks of l9Put and MsgPut. -/
import Derived.Test.YtijdjplajhcilabDoorEntText
import Derived.Test.YtijdjplajhcilabDoorCrcWalks
import Derived.Test.YtijdjplajhcilabDoorMsgOkAny
namespace Go.Proofs.YtijdjplajhcilabDoor
open Go.RowKit

/-- All of a message but its sum. -/
def msgT (kd fr tt bl ins : Int) (V : List Int) (L : List Ent) : ByteArray := ((((((((((((decI kd ++ ⟨#[32]⟩) ++ decI fr) ++ ⟨#[32]⟩) ++ decI tt) ++ ⟨#[32]⟩) ++ decI bl) ++ ⟨#[32]⟩) ++ decI ins) ++ ⟨#[32]⟩) ++ putV V) ++ ⟨#[32]⟩) ++ putL L)

/-- A message as it is written. -/
def putMsg (kd fr tt bl ins : Int) (V : List Int) (L : List Ent) : ByteArray := (msgT kd fr tt bl ins V L ++ ⟨#[32]⟩) ++ decI (crcP (msgT kd fr tt bl ins V L) : Nat)

theorem okTo_each (L : List Ent) : ∀ k, okTo L k = true → ∀ i, i < k → entOk (L.getD i (0, 0, [])) = true
  | 0, _, i, hi => absurd hi (Nat.not_lt_zero _)
  | k + 1, h, i, hi => by
    rw [okTo, Bool.and_eq_true, Bool.and_eq_true] at h
    by_cases e : i = k
    · subst e; exact h.2.1
    · exact okTo_each L k h.1 i (by omega)

theorem putL_size {L : List Ent} (h12 : L.length ≤ 12) (h : ∀ i, i < L.length → entOk (L.getD i (0, 0, [])) = true) : (putL L).size ≤ 240001 := by
  unfold putL
  split
  · show 1 ≤ _; omega
  · have := lText_size h L.length (Nat.le_refl _)
    omega

theorem party_range {n : Int} (h : party n = true) : 0 ≤ n ∧ n ≤ 12 := by
  simp only [party, inB, Bool.or_eq_true, Bool.and_eq_true, decide_eq_true_eq] at h
  omega

set_option maxRecDepth 100000 in
set_option maxHeartbeats 8000000 in
theorem l9Put_any (kd fr tt bl ins : Int) (va la : Option Addr) (n vc m lc : Nat) (V : List Int) (L : List Ent) (w : World) (hn : n = V.length) (hV : NumsAt w va V) (hm : m = L.length) (hL : EntsAt w la L) (hok : msgOkP kd fr tt bl ins V L = true) :
    Calls Tryd.prog 16 #[.agg #[.int .i64 kd, .int .i64 fr, .int .i64 tt, .int .i64 bl, .int .i64 ins, .slice va n vc, .slice la m lc]] w fun e w' => e = .returned (.string (putMsg kd fr tt bl ins V L)) ∧ Below w.heap.size w w' := by
  simp only [msgOkP, Bool.and_eq_true] at hok
  obtain ⟨⟨⟨⟨⟨⟨g1, g2⟩, g3⟩, g4⟩, g5⟩, g6⟩, g7⟩ := hok
  have r1 : 1 ≤ kd ∧ kd ≤ 9 := by simpa [inB] using g1
  have r2 := party_range g2
  have r3 := party_range g3
  have r4 : 0 ≤ bl ∧ bl ≤ 9999 := by simpa [inB] using g4
  have r5 : 0 ≤ ins ∧ ins ≤ 12 := by simpa [inB] using g5
  have r6 := okV_all g6
  have r7 := list_short g7
  have r8 := okTo_each L L.length g7
  have s1 := decI_size kd
  have s2 := decI_size fr
  have s3 := decI_size tt
  have s4 := decI_size bl
  have s5 := decI_size ins
  have s6 := putV_size r6.1 r6.2
  have s7 := putL_size r7 r8
  have HT : Hid (msgT kd fr tt bl ins V L = ((((((((((((decI kd ++ ⟨#[32]⟩) ++ decI fr) ++ ⟨#[32]⟩) ++ decI tt) ++ ⟨#[32]⟩) ++ decI bl) ++ ⟨#[32]⟩) ++ decI ins) ++ ⟨#[32]⟩) ++ putV V) ++ ⟨#[32]⟩) ++ putL L)) := rfl
  obtain ⟨dkd, e1⟩ : ∃ d, d = decI kd := ⟨_, rfl⟩
  obtain ⟨dfr, e2⟩ : ∃ d, d = decI fr := ⟨_, rfl⟩
  obtain ⟨dtt, e3⟩ : ∃ d, d = decI tt := ⟨_, rfl⟩
  obtain ⟨dbl, e4⟩ : ∃ d, d = decI bl := ⟨_, rfl⟩
  obtain ⟨dins, e5⟩ : ∃ d, d = decI ins := ⟨_, rfl⟩
  obtain ⟨dv, e6⟩ : ∃ d, d = putV V := ⟨_, rfl⟩
  obtain ⟨dl, e7⟩ : ∃ d, d = putL L := ⟨_, rfl⟩
  have C0 : Hid (∀ w', Calls Tryd.prog 37 #[.int .i64 kd] w' fun e w2 => e = .returned (.string dkd) ∧ Below w'.heap.size w' w2) := fun w' => by rw [e1]; exact decI_any kd w' (by omega) (by omega)
  have C1 : Hid (∀ w', Calls Tryd.prog 37 #[.int .i64 fr] w' fun e w2 => e = .returned (.string dfr) ∧ Below w'.heap.size w' w2) := fun w' => by rw [e2]; exact decI_any fr w' (by omega) (by omega)
  have C2 : Hid (∀ w', Calls Tryd.prog 37 #[.int .i64 tt] w' fun e w2 => e = .returned (.string dtt) ∧ Below w'.heap.size w' w2) := fun w' => by rw [e3]; exact decI_any tt w' (by omega) (by omega)
  have C3 : Hid (∀ w', Calls Tryd.prog 37 #[.int .i64 bl] w' fun e w2 => e = .returned (.string dbl) ∧ Below w'.heap.size w' w2) := fun w' => by rw [e4]; exact decI_any bl w' (by omega) (by omega)
  have C4 : Hid (∀ w', Calls Tryd.prog 37 #[.int .i64 ins] w' fun e w2 => e = .returned (.string dins) ∧ Below w'.heap.size w' w2) := fun w' => by rw [e5]; exact decI_any ins w' (by omega) (by omega)
  have HB0 : Hid (Below w.heap.size w (w.alloc (.cells #[.int .i64 kd, .int .i64 fr, .int .i64 tt, .int .i64 bl, .int .i64 ins, .slice va n vc, .slice la m lc] 26))) := (Below.refl _ _).alloc (Nat.le_refl _) _
  have CV : Hid (∀ w', Below (w.alloc (.cells #[.int .i64 kd, .int .i64 fr, .int .i64 tt, .int .i64 bl, .int .i64 ins, .slice va n vc, .slice la m lc] 26)).heap.size (w.alloc (.cells #[.int .i64 kd, .int .i64 fr, .int .i64 tt, .int .i64 bl, .int .i64 ins, .slice va n vc, .slice la m lc] 26)) w' → Calls Tryd.prog 38 #[.slice va n vc] w' fun e w2 => e = .returned (.string dv) ∧ Below w'.heap.size w' w2) := fun w' hb => by rw [e6]; exact l9Votes_any va vc n V w' hn (by rw [hn]; exact r6.1) r6.2 ((hV.below HB0.out).below hb)
  have CL : Hid (∀ w', Below (w.alloc (.cells #[.int .i64 kd, .int .i64 fr, .int .i64 tt, .int .i64 bl, .int .i64 ins, .slice va n vc, .slice la m lc] 26)).heap.size (w.alloc (.cells #[.int .i64 kd, .int .i64 fr, .int .i64 tt, .int .i64 bl, .int .i64 ins, .slice va n vc, .slice la m lc] 26)) w' → Calls Tryd.prog 39 #[.slice la m lc] w' fun e w2 => e = .returned (.string dl) ∧ Below w'.heap.size w' w2) := fun w' hb => by rw [e7]; exact l9List_any la lc m L w' hm (by rw [hm]; exact r7) r8 ((hL.below HB0.out).below hb)
  rw [← e1] at s1 HT
  rw [← e2] at s2 HT
  rw [← e3] at s3 HT
  rw [← e4] at s4 HT
  rw [← e5] at s5 HT
  rw [← e6] at s6 HT
  rw [← e7] at s7 HT
  have e32 : ((⟨#[32]⟩ : ByteArray)).size = 1 := rfl
  have a1 := fun W => run_string_add_sum (P := Tryd.prog) (w := W) dkd ⟨#[32]⟩ (by show dkd.size + 1 ≤ _; omega)
  obtain ⟨t1, h1⟩ : ∃ u, u = dkd ++ (⟨#[32]⟩ : ByteArray) := ⟨_, rfl⟩
  have z1 : t1.size = dkd.size + (⟨#[32]⟩ : ByteArray).size := by rw [h1, ByteArray.size_append]
  rw [e32] at z1
  rw [← h1] at a1 HT
  have a2 := fun W => run_string_add_sum (P := Tryd.prog) (w := W) t1 dfr (by omega)
  obtain ⟨t2, h2⟩ : ∃ u, u = t1 ++ (dfr : ByteArray) := ⟨_, rfl⟩
  have z2 : t2.size = t1.size + (dfr : ByteArray).size := by rw [h2, ByteArray.size_append]
  rw [← h2] at a2 HT
  have a3 := fun W => run_string_add_sum (P := Tryd.prog) (w := W) t2 ⟨#[32]⟩ (by show t2.size + 1 ≤ _; omega)
  obtain ⟨t3, h3⟩ : ∃ u, u = t2 ++ (⟨#[32]⟩ : ByteArray) := ⟨_, rfl⟩
  have z3 : t3.size = t2.size + (⟨#[32]⟩ : ByteArray).size := by rw [h3, ByteArray.size_append]
  rw [e32] at z3
  rw [← h3] at a3 HT
  have a4 := fun W => run_string_add_sum (P := Tryd.prog) (w := W) t3 dtt (by omega)
  obtain ⟨t4, h4⟩ : ∃ u, u = t3 ++ (dtt : ByteArray) := ⟨_, rfl⟩
  have z4 : t4.size = t3.size + (dtt : ByteArray).size := by rw [h4, ByteArray.size_append]
  rw [← h4] at a4 HT
  have a5 := fun W => run_string_add_sum (P := Tryd.prog) (w := W) t4 ⟨#[32]⟩ (by show t4.size + 1 ≤ _; omega)
  obtain ⟨t5, h5⟩ : ∃ u, u = t4 ++ (⟨#[32]⟩ : ByteArray) := ⟨_, rfl⟩
  have z5 : t5.size = t4.size + (⟨#[32]⟩ : ByteArray).size := by rw [h5, ByteArray.size_append]
  rw [e32] at z5
  rw [← h5] at a5 HT
  have a6 := fun W => run_string_add_sum (P := Tryd.prog) (w := W) t5 dbl (by omega)
  obtain ⟨t6, h6⟩ : ∃ u, u = t5 ++ (dbl : ByteArray) := ⟨_, rfl⟩
  have z6 : t6.size = t5.size + (dbl : ByteArray).size := by rw [h6, ByteArray.size_append]
  rw [← h6] at a6 HT
  have a7 := fun W => run_string_add_sum (P := Tryd.prog) (w := W) t6 ⟨#[32]⟩ (by show t6.size + 1 ≤ _; omega)
  obtain ⟨t7, h7⟩ : ∃ u, u = t6 ++ (⟨#[32]⟩ : ByteArray) := ⟨_, rfl⟩
  have z7 : t7.size = t6.size + (⟨#[32]⟩ : ByteArray).size := by rw [h7, ByteArray.size_append]
  rw [e32] at z7
  rw [← h7] at a7 HT
  have a8 := fun W => run_string_add_sum (P := Tryd.prog) (w := W) t7 dins (by omega)
  obtain ⟨t8, h8⟩ : ∃ u, u = t7 ++ (dins : ByteArray) := ⟨_, rfl⟩
  have z8 : t8.size = t7.size + (dins : ByteArray).size := by rw [h8, ByteArray.size_append]
  rw [← h8] at a8 HT
  have a9 := fun W => run_string_add_sum (P := Tryd.prog) (w := W) t8 ⟨#[32]⟩ (by show t8.size + 1 ≤ _; omega)
  obtain ⟨t9, h9⟩ : ∃ u, u = t8 ++ (⟨#[32]⟩ : ByteArray) := ⟨_, rfl⟩
  have z9 : t9.size = t8.size + (⟨#[32]⟩ : ByteArray).size := by rw [h9, ByteArray.size_append]
  rw [e32] at z9
  rw [← h9] at a9 HT
  have a10 := fun W => run_string_add_sum (P := Tryd.prog) (w := W) t9 dv (by omega)
  obtain ⟨t10, h10⟩ : ∃ u, u = t9 ++ (dv : ByteArray) := ⟨_, rfl⟩
  have z10 : t10.size = t9.size + (dv : ByteArray).size := by rw [h10, ByteArray.size_append]
  rw [← h10] at a10 HT
  have a11 := fun W => run_string_add_sum (P := Tryd.prog) (w := W) t10 ⟨#[32]⟩ (by show t10.size + 1 ≤ _; omega)
  obtain ⟨t11, h11⟩ : ∃ u, u = t10 ++ (⟨#[32]⟩ : ByteArray) := ⟨_, rfl⟩
  have z11 : t11.size = t10.size + (⟨#[32]⟩ : ByteArray).size := by rw [h11, ByteArray.size_append]
  rw [e32] at z11
  rw [← h11] at a11 HT
  have a12 := fun W => run_string_add_sum (P := Tryd.prog) (w := W) t11 dl (by omega)
  obtain ⟨t12, h12⟩ : ∃ u, u = t11 ++ (dl : ByteArray) := ⟨_, rfl⟩
  have z12 : t12.size = t11.size + (dl : ByteArray).size := by rw [h12, ByteArray.size_append]
  rw [← h12] at a12 HT
  have SAT : Hid (∀ w', Below (w.alloc (.cells #[.int .i64 kd, .int .i64 fr, .int .i64 tt, .int .i64 bl, .int .i64 ins, .slice va n vc, .slice la m lc] 26)).heap.size (w.alloc (.cells #[.int .i64 kd, .int .i64 fr, .int .i64 tt, .int .i64 bl, .int .i64 ins, .slice va n vc, .slice la m lc] 26)) w' → (w'.cell? ⟨w.heap.size, 0, none⟩ = some (.int .i64 kd) ∧ w'.cell? ⟨w.heap.size, 1, none⟩ = some (.int .i64 fr) ∧ w'.cell? ⟨w.heap.size, 2, none⟩ = some (.int .i64 tt) ∧ w'.cell? ⟨w.heap.size, 3, none⟩ = some (.int .i64 bl) ∧ w'.cell? ⟨w.heap.size, 4, none⟩ = some (.int .i64 ins) ∧ w'.cell? ⟨w.heap.size, 5, none⟩ = some (.slice va n vc) ∧ w'.cell? ⟨w.heap.size, 6, none⟩ = some (.slice la m lc))) := fun w' hb => ⟨(hb.cell (p := ⟨w.heap.size, 0, none⟩) (by simp)).trans (by simp), (hb.cell (p := ⟨w.heap.size, 1, none⟩) (by simp)).trans (by simp), (hb.cell (p := ⟨w.heap.size, 2, none⟩) (by simp)).trans (by simp), (hb.cell (p := ⟨w.heap.size, 3, none⟩) (by simp)).trans (by simp), (hb.cell (p := ⟨w.heap.size, 4, none⟩) (by simp)).trans (by simp), (hb.cell (p := ⟨w.heap.size, 5, none⟩) (by simp)).trans (by simp), (hb.cell (p := ⟨w.heap.size, 6, none⟩) (by simp)).trans (by simp)⟩
  have HD : Hid (Below (w.alloc (.cells #[.int .i64 kd, .int .i64 fr, .int .i64 tt, .int .i64 bl, .int .i64 ins, .slice va n vc, .slice la m lc] 26)).heap.size (w.alloc (.cells #[.int .i64 kd, .int .i64 fr, .int .i64 tt, .int .i64 bl, .int .i64 ins, .slice va n vc, .slice la m lc] 26)) (w.alloc (.cells #[.int .i64 kd, .int .i64 fr, .int .i64 tt, .int .i64 bl, .int .i64 ins, .slice va n vc, .slice la m lc] 26)).drew) := (Below.refl _ _).drew
  have HP : Hid (putMsg kd fr tt bl ins V L = (t12 ++ ⟨#[32]⟩) ++ decI (crcP t12 : Nat)) := by show _ = _; unfold putMsg; rw [HT.out]
  have zN : t12.size ≤ 300000 := by omega
  have b1 := fun W => run_string_add_sum (P := Tryd.prog) (w := W) t12 ⟨#[32]⟩ (by show t12.size + 1 ≤ _; omega)
  obtain ⟨u, hu⟩ : ∃ u, u = t12 ++ (⟨#[32]⟩ : ByteArray) := ⟨_, rfl⟩
  have zu : u.size = t12.size + 1 := by rw [hu, ByteArray.size_append, e32]
  have hc := crcP_lt t12
  obtain ⟨q, hq⟩ : ∃ q, q = crcP t12 := ⟨_, rfl⟩
  have CC : Hid (∀ w', Calls Tryd.prog 40 #[.string t12] w' fun e w2 => e = .returned (.int .i64 (q : Nat)) ∧ w2 = w') := fun w' => by rw [hq]; exact specL9Crc_any t12 w' (by unfold maxLen; omega)
  rw [← hq] at hc HP
  have sq := decI_size (q : Int)
  obtain ⟨dq, hdq⟩ : ∃ d, d = decI (q : Int) := ⟨_, rfl⟩
  have CQ : Hid (∀ w', Calls Tryd.prog 37 #[.int .i64 (q : Int)] w' fun e w2 => e = .returned (.string dq) ∧ Below w'.heap.size w' w2) := fun w' => by rw [hdq]; exact decI_any (q : Int) w' (by omega) (by omega)
  rw [← hdq] at sq HP
  rw [← hu] at b1 HP
  have b2 := fun W => run_string_add_sum (P := Tryd.prog) (w := W) u dq (by omega)
  obtain ⟨r, hr⟩ : ∃ r, r = u ++ dq := ⟨_, rfl⟩
  rw [← hr] at b2 HP
  clear h1 z1 h2 z2 h3 z3 h4 z4 h5 z5 h6 z6 h7 z7 h8 z8 h9 z9 h10 z10 h11 z11 h12 z12 zN hu zu hc hq sq hdq hr s1 s2 s3 s4 s5 s6 s7 e1 e2 e3 e4 e5 e6 e7 e32 g1 g2 g3 g4 g5 g6 g7 r1 r2 r3 r4 r5 r6 r7 r8 HT hn hV hm hL
  go_enter Tryd.func16, Tryd.ntmps16
  go_wp2_with fail
  refine wp_region_held_drew (S := (fun w' => (w'.cell? ⟨w.heap.size, 0, none⟩ = some (.int .i64 kd) ∧ w'.cell? ⟨w.heap.size, 1, none⟩ = some (.int .i64 fr) ∧ w'.cell? ⟨w.heap.size, 2, none⟩ = some (.int .i64 tt) ∧ w'.cell? ⟨w.heap.size, 3, none⟩ = some (.int .i64 bl) ∧ w'.cell? ⟨w.heap.size, 4, none⟩ = some (.int .i64 ins) ∧ w'.cell? ⟨w.heap.size, 5, none⟩ = some (.slice va n vc) ∧ w'.cell? ⟨w.heap.size, 6, none⟩ = some (.slice la m lc)))) (by kernel_rfl) ?_ (fun hS => ?_)
  · exact (SAT.out _ HD.out)
  refine takeH_on 0 (v := ?_) rfl rfl (by kernel_rfl) (by kernel_rfl) (by kernel_rfl) (fun _ _ _ h => h) (by rfl) hS (fun w hSw => ?_) ?_
  rotate_left
  · ((try dsimp only at hSw); go_simp; try with_reducible rfl)
  simp only [List.setIfInBounds_toArray, List.set_cons_zero, List.set_cons_succ]
  refine takeH_on 1 (v := ?_) rfl rfl (by kernel_rfl) (by kernel_rfl) (by kernel_rfl) (fun _ _ _ h => h) (by rfl) hS (fun w hSw => ?_) ?_
  rotate_left
  · ((try dsimp only at hSw); go_simp; try with_reducible rfl)
  simp only [List.setIfInBounds_toArray, List.set_cons_zero, List.set_cons_succ]
  refine takeH_on 4 (v := ?_) rfl rfl (by kernel_rfl) (by kernel_rfl) (by kernel_rfl) (fun _ _ _ h => h) (by rfl) hS (fun w hSw => ?_) ?_
  rotate_left
  · ((try dsimp only at hSw); go_simp; try with_reducible rfl)
  simp only [List.setIfInBounds_toArray, List.set_cons_zero, List.set_cons_succ]
  refine takeH_on 5 (v := ?_) rfl rfl (by kernel_rfl) (by kernel_rfl) (by kernel_rfl) (fun _ _ _ h => h) (by rfl) hS (fun w hSw => ?_) ?_
  rotate_left
  · ((try dsimp only at hSw); go_simp; try with_reducible rfl)
  simp only [List.setIfInBounds_toArray, List.set_cons_zero, List.set_cons_succ]
  refine takeH_on 9 (v := ?_) rfl rfl (by kernel_rfl) (by kernel_rfl) (by kernel_rfl) (fun _ _ _ h => h) (by rfl) hS (fun w hSw => ?_) ?_
  rotate_left
  · ((try dsimp only at hSw); go_simp; try with_reducible rfl)
  simp only [List.setIfInBounds_toArray, List.set_cons_zero, List.set_cons_succ]
  refine takeH_on 10 (v := ?_) rfl rfl (by kernel_rfl) (by kernel_rfl) (by kernel_rfl) (fun _ _ _ h => h) (by rfl) hS (fun w hSw => ?_) ?_
  rotate_left
  · ((try dsimp only at hSw); go_simp; try with_reducible rfl)
  simp only [List.setIfInBounds_toArray, List.set_cons_zero, List.set_cons_succ]
  refine takeH_on 14 (v := ?_) rfl rfl (by kernel_rfl) (by kernel_rfl) (by kernel_rfl) (fun _ _ _ h => h) (by rfl) hS (fun w hSw => ?_) ?_
  rotate_left
  · ((try dsimp only at hSw); go_simp; try with_reducible rfl)
  simp only [List.setIfInBounds_toArray, List.set_cons_zero, List.set_cons_succ]
  refine takeH_on 15 (v := ?_) rfl rfl (by kernel_rfl) (by kernel_rfl) (by kernel_rfl) (fun _ _ _ h => h) (by rfl) hS (fun w hSw => ?_) ?_
  rotate_left
  · ((try dsimp only at hSw); go_simp; try with_reducible rfl)
  simp only [List.setIfInBounds_toArray, List.set_cons_zero, List.set_cons_succ]
  refine takeH_on 19 (v := ?_) rfl rfl (by kernel_rfl) (by kernel_rfl) (by kernel_rfl) (fun _ _ _ h => h) (by rfl) hS (fun w hSw => ?_) ?_
  rotate_left
  · ((try dsimp only at hSw); go_simp; try with_reducible rfl)
  simp only [List.setIfInBounds_toArray, List.set_cons_zero, List.set_cons_succ]
  refine takeH_on 20 (v := ?_) rfl rfl (by kernel_rfl) (by kernel_rfl) (by kernel_rfl) (fun _ _ _ h => h) (by rfl) hS (fun w hSw => ?_) ?_
  rotate_left
  · ((try dsimp only at hSw); go_simp; try with_reducible rfl)
  simp only [List.setIfInBounds_toArray, List.set_cons_zero, List.set_cons_succ]
  refine takeH_on 24 (v := ?_) rfl rfl (by kernel_rfl) (by kernel_rfl) (by kernel_rfl) (fun _ _ _ h => h) (by rfl) hS (fun w hSw => ?_) ?_
  rotate_left
  · ((try dsimp only at hSw); go_simp; try with_reducible rfl)
  simp only [List.setIfInBounds_toArray, List.set_cons_zero, List.set_cons_succ]
  refine takeH_on 25 (v := ?_) rfl rfl (by kernel_rfl) (by kernel_rfl) (by kernel_rfl) (fun _ _ _ h => h) (by rfl) hS (fun w hSw => ?_) ?_
  rotate_left
  · ((try dsimp only at hSw); go_simp; try with_reducible rfl)
  simp only [List.setIfInBounds_toArray, List.set_cons_zero, List.set_cons_succ]
  refine takeH_on 29 (v := ?_) rfl rfl (by kernel_rfl) (by kernel_rfl) (by kernel_rfl) (fun _ _ _ h => h) (by rfl) hS (fun w hSw => ?_) ?_
  rotate_left
  · ((try dsimp only at hSw); go_simp; try with_reducible rfl)
  simp only [List.setIfInBounds_toArray, List.set_cons_zero, List.set_cons_succ]
  refine takeH_on 30 (v := ?_) rfl rfl (by kernel_rfl) (by kernel_rfl) (by kernel_rfl) (fun _ _ _ h => h) (by rfl) hS (fun w hSw => ?_) ?_
  rotate_left
  · ((try dsimp only at hSw); go_simp; try with_reducible rfl)
  simp only [List.setIfInBounds_toArray, List.set_cons_zero, List.set_cons_succ]
  refine wpAnyH_ready (rs := [2]) (by kernel_rfl) (by simp) (AllReadyH.cons rfl (fun K hK => ?_) AllReadyH.nil)
  clear hS
  go_simp
  go_wp2_with fail
  refine (C0.out _).mono ?_
  rintro e v1 ⟨rfl, hbv1⟩
  have HBv1 : Hid (Below (w.alloc (.cells #[.int .i64 kd, .int .i64 fr, .int .i64 tt, .int .i64 bl, .int .i64 ins, .slice va n vc, .slice la m lc] 26)).heap.size (w.alloc (.cells #[.int .i64 kd, .int .i64 fr, .int .i64 tt, .int .i64 bl, .int .i64 ins, .slice va n vc, .slice la m lc] 26)) v1) := (HD.out).trans (hbv1.mono (HD.out).size)
  clear hbv1
  refine Shut.out hK _ _ (SAT.out _ HBv1.out) (fun hS => ?_)
  clear hK K
  refine takeH_on 3 (v := ?_) rfl rfl (by kernel_rfl) (by kernel_rfl) (by kernel_rfl) (fun _ _ _ h => h) (by rfl) hS (fun w hSw => ?_) ?_
  rotate_left
  · ((try dsimp only at hSw); go_simp; try with_reducible rfl)
  simp only [List.setIfInBounds_toArray, List.set_cons_zero, List.set_cons_succ]
  refine wpAnyH_ready (rs := [6]) (by kernel_rfl) (by simp) (AllReadyH.cons rfl (fun K hK => ?_) AllReadyH.nil)
  clear hS
  go_simp
  go_wp2_with fail
  refine (C1.out _).mono ?_
  rintro e v2 ⟨rfl, hbv2⟩
  have HBv2 : Hid (Below (w.alloc (.cells #[.int .i64 kd, .int .i64 fr, .int .i64 tt, .int .i64 bl, .int .i64 ins, .slice va n vc, .slice la m lc] 26)).heap.size (w.alloc (.cells #[.int .i64 kd, .int .i64 fr, .int .i64 tt, .int .i64 bl, .int .i64 ins, .slice va n vc, .slice la m lc] 26)) v2) := (HBv1.out).trans (hbv2.mono (HBv1.out).size)
  clear hbv2
  refine Shut.out hK _ _ (SAT.out _ HBv2.out) (fun hS => ?_)
  clear hK K
  refine takeH_on 7 (v := ?_) rfl rfl (by kernel_rfl) (by kernel_rfl) (by kernel_rfl) (fun _ _ _ h => h) (by rfl) hS (fun w hSw => ?_) ?_
  rotate_left
  · ((try dsimp only at hSw); go_simp; try with_reducible rfl)
  simp only [List.setIfInBounds_toArray, List.set_cons_zero, List.set_cons_succ]
  refine takeH_on 8 (v := ?_) rfl rfl (by kernel_rfl) (by kernel_rfl) (by kernel_rfl) (fun _ _ _ h => h) (by rfl) hS (fun w hSw => ?_) ?_
  rotate_left
  · ((try dsimp only at hSw); go_simp; try with_reducible rfl)
  simp only [List.setIfInBounds_toArray, List.set_cons_zero, List.set_cons_succ]
  refine wpAnyH_ready (rs := [11]) (by kernel_rfl) (by simp) (AllReadyH.cons rfl (fun K hK => ?_) AllReadyH.nil)
  clear hS
  go_simp
  go_wp2_with fail
  refine (C2.out _).mono ?_
  rintro e v3 ⟨rfl, hbv3⟩
  have HBv3 : Hid (Below (w.alloc (.cells #[.int .i64 kd, .int .i64 fr, .int .i64 tt, .int .i64 bl, .int .i64 ins, .slice va n vc, .slice la m lc] 26)).heap.size (w.alloc (.cells #[.int .i64 kd, .int .i64 fr, .int .i64 tt, .int .i64 bl, .int .i64 ins, .slice va n vc, .slice la m lc] 26)) v3) := (HBv2.out).trans (hbv3.mono (HBv2.out).size)
  clear hbv3
  refine Shut.out hK _ _ (SAT.out _ HBv3.out) (fun hS => ?_)
  clear hK K
  refine takeH_on 12 (v := ?_) rfl rfl (by kernel_rfl) (by kernel_rfl) (by kernel_rfl) (fun _ _ _ h => h) (by rfl) hS (fun w hSw => ?_) ?_
  rotate_left
  · ((try dsimp only at hSw); go_simp; try with_reducible rfl)
  simp only [List.setIfInBounds_toArray, List.set_cons_zero, List.set_cons_succ]
  refine takeH_on 13 (v := ?_) rfl rfl (by kernel_rfl) (by kernel_rfl) (by kernel_rfl) (fun _ _ _ h => h) (by rfl) hS (fun w hSw => ?_) ?_
  rotate_left
  · ((try dsimp only at hSw); go_simp; try with_reducible rfl)
  simp only [List.setIfInBounds_toArray, List.set_cons_zero, List.set_cons_succ]
  refine wpAnyH_ready (rs := [16]) (by kernel_rfl) (by simp) (AllReadyH.cons rfl (fun K hK => ?_) AllReadyH.nil)
  clear hS
  go_simp
  go_wp2_with fail
  refine (C3.out _).mono ?_
  rintro e v4 ⟨rfl, hbv4⟩
  have HBv4 : Hid (Below (w.alloc (.cells #[.int .i64 kd, .int .i64 fr, .int .i64 tt, .int .i64 bl, .int .i64 ins, .slice va n vc, .slice la m lc] 26)).heap.size (w.alloc (.cells #[.int .i64 kd, .int .i64 fr, .int .i64 tt, .int .i64 bl, .int .i64 ins, .slice va n vc, .slice la m lc] 26)) v4) := (HBv3.out).trans (hbv4.mono (HBv3.out).size)
  clear hbv4
  refine Shut.out hK _ _ (SAT.out _ HBv4.out) (fun hS => ?_)
  clear hK K
  refine takeH_on 17 (v := ?_) rfl rfl (by kernel_rfl) (by kernel_rfl) (by kernel_rfl) (fun _ _ _ h => h) (by rfl) hS (fun w hSw => ?_) ?_
  rotate_left
  · ((try dsimp only at hSw); go_simp; try with_reducible rfl)
  simp only [List.setIfInBounds_toArray, List.set_cons_zero, List.set_cons_succ]
  refine takeH_on 18 (v := ?_) rfl rfl (by kernel_rfl) (by kernel_rfl) (by kernel_rfl) (fun _ _ _ h => h) (by rfl) hS (fun w hSw => ?_) ?_
  rotate_left
  · ((try dsimp only at hSw); go_simp; try with_reducible rfl)
  simp only [List.setIfInBounds_toArray, List.set_cons_zero, List.set_cons_succ]
  refine wpAnyH_ready (rs := [21]) (by kernel_rfl) (by simp) (AllReadyH.cons rfl (fun K hK => ?_) AllReadyH.nil)
  clear hS
  go_simp
  go_wp2_with fail
  refine (C4.out _).mono ?_
  rintro e v5 ⟨rfl, hbv5⟩
  have HBv5 : Hid (Below (w.alloc (.cells #[.int .i64 kd, .int .i64 fr, .int .i64 tt, .int .i64 bl, .int .i64 ins, .slice va n vc, .slice la m lc] 26)).heap.size (w.alloc (.cells #[.int .i64 kd, .int .i64 fr, .int .i64 tt, .int .i64 bl, .int .i64 ins, .slice va n vc, .slice la m lc] 26)) v5) := (HBv4.out).trans (hbv5.mono (HBv4.out).size)
  clear hbv5
  refine Shut.out hK _ _ (SAT.out _ HBv5.out) (fun hS => ?_)
  clear hK K
  refine takeH_on 22 (v := ?_) rfl rfl (by kernel_rfl) (by kernel_rfl) (by kernel_rfl) (fun _ _ _ h => h) (by rfl) hS (fun w hSw => ?_) ?_
  rotate_left
  · ((try dsimp only at hSw); go_simp; try with_reducible rfl)
  simp only [List.setIfInBounds_toArray, List.set_cons_zero, List.set_cons_succ]
  refine takeH_on 23 (v := ?_) rfl rfl (by kernel_rfl) (by kernel_rfl) (by kernel_rfl) (fun _ _ _ h => h) (by rfl) hS (fun w hSw => ?_) ?_
  rotate_left
  · ((try dsimp only at hSw); go_simp; try with_reducible rfl)
  simp only [List.setIfInBounds_toArray, List.set_cons_zero, List.set_cons_succ]
  refine wpAnyH_ready (rs := [26]) (by kernel_rfl) (by simp) (AllReadyH.cons rfl (fun K hK => ?_) AllReadyH.nil)
  clear hS
  go_simp
  go_wp2_with fail
  refine (CV.out _ HBv5.out).mono ?_
  rintro e v6 ⟨rfl, hbv6⟩
  have HBv6 : Hid (Below (w.alloc (.cells #[.int .i64 kd, .int .i64 fr, .int .i64 tt, .int .i64 bl, .int .i64 ins, .slice va n vc, .slice la m lc] 26)).heap.size (w.alloc (.cells #[.int .i64 kd, .int .i64 fr, .int .i64 tt, .int .i64 bl, .int .i64 ins, .slice va n vc, .slice la m lc] 26)) v6) := (HBv5.out).trans (hbv6.mono (HBv5.out).size)
  clear hbv6
  refine Shut.out hK _ _ (SAT.out _ HBv6.out) (fun hS => ?_)
  clear hK K
  refine takeH_on 27 (v := ?_) rfl rfl (by kernel_rfl) (by kernel_rfl) (by kernel_rfl) (fun _ _ _ h => h) (by rfl) hS (fun w hSw => ?_) ?_
  rotate_left
  · ((try dsimp only at hSw); go_simp; try with_reducible rfl)
  simp only [List.setIfInBounds_toArray, List.set_cons_zero, List.set_cons_succ]
  refine takeH_on 28 (v := ?_) rfl rfl (by kernel_rfl) (by kernel_rfl) (by kernel_rfl) (fun _ _ _ h => h) (by rfl) hS (fun w hSw => ?_) ?_
  rotate_left
  · ((try dsimp only at hSw); go_simp; try with_reducible rfl)
  simp only [List.setIfInBounds_toArray, List.set_cons_zero, List.set_cons_succ]
  refine wpAnyH_ready (rs := [31]) (by kernel_rfl) (by simp) (AllReadyH.cons rfl (fun K hK => ?_) AllReadyH.nil)
  clear hS
  go_simp
  go_wp2_with fail
  refine (CL.out _ HBv6.out).mono ?_
  rintro e v7 ⟨rfl, hbv7⟩
  have HBv7 : Hid (Below (w.alloc (.cells #[.int .i64 kd, .int .i64 fr, .int .i64 tt, .int .i64 bl, .int .i64 ins, .slice va n vc, .slice la m lc] 26)).heap.size (w.alloc (.cells #[.int .i64 kd, .int .i64 fr, .int .i64 tt, .int .i64 bl, .int .i64 ins, .slice va n vc, .slice la m lc] 26)) v7) := (HBv6.out).trans (hbv7.mono (HBv6.out).size)
  clear hbv7
  refine Shut.out hK _ _ (SAT.out _ HBv7.out) (fun hS => ?_)
  clear hK K
  refine takeH_on 32 (v := ?_) rfl rfl (by kernel_rfl) (by kernel_rfl) (by kernel_rfl) (fun _ _ _ h => h) (by rfl) hS (fun w hSw => ?_) ?_
  rotate_left
  · ((try dsimp only at hSw); go_simp; try with_reducible rfl)
  simp only [List.setIfInBounds_toArray, List.set_cons_zero, List.set_cons_succ]
  refine takeH_on 33 (v := ?_) rfl rfl (by kernel_rfl) (by kernel_rfl) (by kernel_rfl) (fun _ _ _ h => h) (by rfl) hS (fun w hSw => ?_) ?_
  rotate_left
  · ((try dsimp only at hSw); go_simp; try with_reducible rfl)
  simp only [List.setIfInBounds_toArray, List.set_cons_zero, List.set_cons_succ]
  refine wpAnyH_done (by kernel_rfl) ?_ _
  clear hS
  have HB7 : Hid (Below w.heap.size w v7) := HB0.out.trans (HBv7.out.mono HB0.out.size)
  go_wp2_with fail
  refine (CC.out _).mono ?_
  rintro e v8 ⟨rfl, rfl⟩
  go_wp2_with fail
  refine (CQ.out _).mono ?_
  rintro e v9 ⟨rfl, hb⟩
  have HB9 : Hid (Below w.heap.size w v9) := HB7.out.trans (hb.mono HB7.out.size)
  clear hb
  go_wp2
  go_ret
  exact ⟨by rw [HP.out]; rfl, HB9.out⟩

/-- What is written of a message: the empty text, if it is not ok. -/
def putText (kd fr tt bl ins : Int) (V : List Int) (L : List Ent) : ByteArray := if msgOkP kd fr tt bl ins V L = true then putMsg kd fr tt bl ins V L else ⟨#[]⟩

set_option maxHeartbeats 1600000 in
theorem specMsgPut_any (kd fr tt bl ins : Int) (va la : Option Addr) (n vc m lc : Nat) (V : List Int) (L : List Ent) (w : World) (hn : n = V.length) (hn2 : n ≤ 1048576) (hV : NumsAt w va V) (hm : m = L.length) (hm2 : m ≤ 1048576) (hL : EntsAt w la L) :
    Calls Tryd.prog 6 #[.agg #[.int .i64 kd, .int .i64 fr, .int .i64 tt, .int .i64 bl, .int .i64 ins, .slice va n vc, .slice la m lc]] w fun e w' => e = .returned (.string (putText kd fr tt bl ins V L)) ∧ Below w.heap.size w w' := by
  obtain ⟨c, hc⟩ : ∃ c, c = msgOkP kd fr tt bl ins V L := ⟨_, rfl⟩
  have HB0 : Hid (Below w.heap.size w (w.alloc (.cells #[.int .i64 kd, .int .i64 fr, .int .i64 tt, .int .i64 bl, .int .i64 ins, .slice va n vc, .slice la m lc] 26))) := (Below.refl _ _).alloc (Nat.le_refl _) _
  have CO : Hid (∀ w', Below w.heap.size w w' → Calls Tryd.prog 15 #[.agg #[.int .i64 kd, .int .i64 fr, .int .i64 tt, .int .i64 bl, .int .i64 ins, .slice va n vc, .slice la m lc]] w' fun e w2 => e = .returned (.bool c) ∧ Below w'.heap.size w' w2) := fun w' hb => by rw [hc]; exact l9Ok_any kd fr tt bl ins va la n vc m lc V L w' hn hn2 (hV.below hb) hm hm2 (hL.below hb)
  cases c
  · have HE : Hid (putText kd fr tt bl ins V L = (⟨#[]⟩ : ByteArray)) := by show _ = _; unfold putText; rw [← hc]; rfl
    clear hc hn hV hm hL
    go_enter Tryd.func6, Tryd.ntmps6
    go_wp2_with fail
    refine (CO.out _ HB0.out).mono ?_
    rintro e w1 ⟨rfl, hb⟩
    have HB1 : Hid (Below w.heap.size w w1) := HB0.out.trans (hb.mono HB0.out.size)
    clear hb
    go_wp2
    go_ret
    exact ⟨by rw [HE.out]; rfl, HB1.out⟩
  · obtain ⟨p, hp⟩ : ∃ p, p = putMsg kd fr tt bl ins V L := ⟨_, rfl⟩
    have HE : Hid (putText kd fr tt bl ins V L = p) := by show _ = _; unfold putText; rw [← hc, hp]; rfl
    have CP : Hid (∀ w', Below w.heap.size w w' → Calls Tryd.prog 16 #[.agg #[.int .i64 kd, .int .i64 fr, .int .i64 tt, .int .i64 bl, .int .i64 ins, .slice va n vc, .slice la m lc]] w' fun e w2 => e = .returned (.string p) ∧ Below w'.heap.size w' w2) := fun w' hb => by rw [hp]; exact l9Put_any kd fr tt bl ins va la n vc m lc V L w' hn (hV.below hb) hm (hL.below hb) hc.symm
    clear hc hp hn hV hm hL
    go_enter Tryd.func6, Tryd.ntmps6
    go_wp2_with fail
    refine (CO.out _ HB0.out).mono ?_
    rintro e w1 ⟨rfl, hb⟩
    have HB1 : Hid (Below w.heap.size w w1) := HB0.out.trans (hb.mono HB0.out.size)
    have k0 : w1.cell? ⟨w.heap.size, 0, none⟩ = some (.int .i64 kd) := by rw [hb.cell (p := ⟨w.heap.size, 0, none⟩) (by simp)]; simp
    have k1 : w1.cell? ⟨w.heap.size, 1, none⟩ = some (.int .i64 fr) := by rw [hb.cell (p := ⟨w.heap.size, 1, none⟩) (by simp)]; simp
    have k2 : w1.cell? ⟨w.heap.size, 2, none⟩ = some (.int .i64 tt) := by rw [hb.cell (p := ⟨w.heap.size, 2, none⟩) (by simp)]; simp
    have k3 : w1.cell? ⟨w.heap.size, 3, none⟩ = some (.int .i64 bl) := by rw [hb.cell (p := ⟨w.heap.size, 3, none⟩) (by simp)]; simp
    have k4 : w1.cell? ⟨w.heap.size, 4, none⟩ = some (.int .i64 ins) := by rw [hb.cell (p := ⟨w.heap.size, 4, none⟩) (by simp)]; simp
    have k5 : w1.cell? ⟨w.heap.size, 5, none⟩ = some (.slice va n vc) := by rw [hb.cell (p := ⟨w.heap.size, 5, none⟩) (by simp)]; simp
    have k6 : w1.cell? ⟨w.heap.size, 6, none⟩ = some (.slice la m lc) := by rw [hb.cell (p := ⟨w.heap.size, 6, none⟩) (by simp)]; simp
    clear hb
    go_wp2_with fail
    refine (CP.out _ HB1.out).mono ?_
    rintro e w2 ⟨rfl, hb⟩
    have HB2 : Hid (Below w.heap.size w w2) := HB1.out.trans (hb.mono HB1.out.size)
    clear hb
    go_wp2
    go_ret
    exact ⟨by rw [HE.out]; rfl, HB2.out⟩

end Go.Proofs.YtijdjplajhcilabDoor
