/- DERIVED. The walks of eqEntryS, toMsg, eqMsg. -/
import Derived.Test.YtcmefjicogicladDoorMsgTo2
import Derived.Test.YtcmefjicogicladDoorReg
namespace Go.Proofs.YtcmefjicogicladDoor
open Go.RowKit

set_option maxRecDepth 100000 in
set_option maxHeartbeats 1600000 in
theorem eqES_same (o1 o2 : Option Addr) (c1 c2 m : Nat) (L : List Ent) (w : World) (hm : m = L.length) (hm2 : m ≤ 1048576) (h1 : EntsAt w o1 L) (h2 : EntsAt w o2 L) :
    Calls Tryd.prog 21 #[.slice o1 m c1, .slice o2 m c2] w fun e w' => e = .returned (.bool true) ∧ Below w.heap.size w w' := by
  have H1 := hid h1
  have H2 := hid h2
  have HM := hid hm
  clear h1 h2 hm
  go_enter Tryd.func21, Tryd.ntmps21
  go_wp2
  go_loopw [5] (fun i w' => Below w.heap.size w w' ∧ ∃ k : Nat, k ≤ m ∧ i = .int .i64 k) (fun i _ => m - (intOf i).toNat)
  case atStart => exact ⟨Below.refl _ _, 0, Nat.zero_le _, rfl⟩
  case round =>
    obtain ⟨hB, k, hk, rfl⟩ := hrel
    have HB := hid hB
    clear hB
    by_cases hlt : k < m
    · have hltI : (k : Int) < (m : Int) := by omega
      have hkv : k < L.length := by rw [← HM.out]; exact hlt
      obtain ⟨b, off, rfl, _, c0, cy0, ov, n, cv, cv0, hn, hn2, hN⟩ := (H1.out.below HB.out) k hkv
      obtain ⟨b2, off2, rfl, _, d0, dy0, ov2, n', cv2, dv0, hn', _, hN2⟩ := (H2.out.below HB.out) k hkv
      obtain rfl : n' = n := hn'.trans hn.symm
      obtain ⟨x, hx⟩ : ∃ x, x = (L.getD k (0, 0, [])).1 := ⟨_, rfl⟩
      obtain ⟨y, hy⟩ : ∃ y, y = (L.getD k (0, 0, [])).2.1 := ⟨_, rfl⟩
      obtain ⟨U, hU⟩ : ∃ U, U = (L.getD k (0, 0, [])).2.2 := ⟨_, rfl⟩
      rw [← hx] at c0 d0
      rw [← hy] at cy0 dy0
      have CE : Hid (∀ w', Below wr.heap.size wr w' → Calls Tryd.prog 42 #[.agg #[.int .i64 x, .int .i64 y, .slice ov n' cv], .agg #[.int .i64 x, .int .i64 y, .slice ov2 n' cv2]] w' fun e w2 => e = .returned (.bool true) ∧ Below w'.heap.size w' w2) := fun w' hb => eqE_same x y ov ov2 n' cv cv2 _ w' hn hn2 (hN.below hb) (hN2.below hb)
      have HBD : Hid (Below wr.heap.size wr wr.drew) := (Below.refl _ _).drew
      clear hx hy hU hn hN hN2 hkv hn'
      go_wp2_with fail
      refine wp_region_any (by kernel_rfl) ?_
      change wpAny _ _ _ _ _ _ _ (World.drew _)
      refine take_on 0 (v := ?_) rfl rfl (by kernel_rfl) (by kernel_rfl) (by kernel_rfl) (fun _ _ _ h => h) (by rfl) (fun w => ?_) ?_
      rotate_left
      · (go_simp; try with_reducible rfl)
      simp only [List.setIfInBounds_toArray, List.set_cons_zero, List.set_cons_succ]
      refine take_on 1 (v := ?_) rfl rfl (by kernel_rfl) (by kernel_rfl) (by kernel_rfl) (fun _ _ _ h => h) (by rfl) (fun w => ?_) ?_
      rotate_left
      · (go_simp; try with_reducible rfl)
      simp only [List.setIfInBounds_toArray, List.set_cons_zero, List.set_cons_succ]
      refine take_on 2 (v := ?_) rfl rfl (by kernel_rfl) (by kernel_rfl) (by kernel_rfl) (fun _ _ _ h => h) (by rfl) (fun w => ?_) ?_
      rotate_left
      · (go_simp; try with_reducible rfl)
      simp only [List.setIfInBounds_toArray, List.set_cons_zero, List.set_cons_succ]
      refine take_on 4 (v := ?_) rfl rfl (by kernel_rfl) (by kernel_rfl) (by kernel_rfl) (fun _ _ _ h => h) (by rfl) (fun w => ?_) ?_
      rotate_left
      · (go_simp; try with_reducible rfl)
      simp only [List.setIfInBounds_toArray, List.set_cons_zero, List.set_cons_succ]
      refine take_on 5 (v := ?_) rfl rfl (by kernel_rfl) (by kernel_rfl) (by kernel_rfl) (fun _ _ _ h => h) (by rfl) (fun w => ?_) ?_
      rotate_left
      · (go_simp; try with_reducible rfl)
      simp only [List.setIfInBounds_toArray, List.set_cons_zero, List.set_cons_succ]
      refine take_on 6 (v := ?_) rfl rfl (by kernel_rfl) (by kernel_rfl) (by kernel_rfl) (fun _ _ _ h => h) (by rfl) (fun w => ?_) ?_
      rotate_left
      · (go_simp; try with_reducible rfl)
      simp only [List.setIfInBounds_toArray, List.set_cons_zero, List.set_cons_succ]
      refine wpAny_ready (rs := [3, 7]) (by kernel_rfl) (by simp) (AllReady.cons rfl (fun K hK => ?_) (AllReady.cons rfl (fun K hK => ?_) AllReady.nil))
      · go_simp
        refine hK _ _ ?_
        clear hK K
        refine wpAny_ready (rs := [7]) (by kernel_rfl) (by simp) (AllReady.cons rfl (fun K hK => ?_) AllReady.nil)
        go_simp
        refine hK _ _ ?_
        clear hK K
        refine wpAny_ready (rs := [8]) (by kernel_rfl) (by simp) (AllReady.cons rfl (fun K hK => ?_) AllReady.nil)
        go_simp
        go_wp2_with fail
        refine (CE.out _ HBD.out).mono ?_
        rintro e w1 ⟨rfl, hb1⟩
        have HB1 : Hid (Below w.heap.size w w1) := HB.out.trans ((HBD.out.trans (hb1.mono HBD.out.size)).mono HB.out.size)
        clear hb1
        refine hK _ _ ?_
        clear hK K
        refine take_on 9 (v := ?_) rfl rfl (by kernel_rfl) (by kernel_rfl) (by kernel_rfl) (fun _ _ _ h => h) (by rfl) (fun w => ?_) ?_
        rotate_left
        · (go_simp; try with_reducible rfl)
        simp only [List.setIfInBounds_toArray, List.set_cons_zero, List.set_cons_succ]
        refine wpAny_done (by kernel_rfl) ?_ _
        go_wp2
        go_roundw
        case rel => exact ⟨HB1.out, k + 1, by omega, by go_num⟩
        case measure => simp [intOf]; omega
      · go_simp
        refine hK _ _ ?_
        clear hK K
        refine wpAny_ready (rs := [3]) (by kernel_rfl) (by simp) (AllReady.cons rfl (fun K hK => ?_) AllReady.nil)
        go_simp
        refine hK _ _ ?_
        clear hK K
        refine wpAny_ready (rs := [8]) (by kernel_rfl) (by simp) (AllReady.cons rfl (fun K hK => ?_) AllReady.nil)
        go_simp
        go_wp2_with fail
        refine (CE.out _ HBD.out).mono ?_
        rintro e w1 ⟨rfl, hb1⟩
        have HB1 : Hid (Below w.heap.size w w1) := HB.out.trans ((HBD.out.trans (hb1.mono HBD.out.size)).mono HB.out.size)
        clear hb1
        refine hK _ _ ?_
        clear hK K
        refine take_on 9 (v := ?_) rfl rfl (by kernel_rfl) (by kernel_rfl) (by kernel_rfl) (fun _ _ _ h => h) (by rfl) (fun w => ?_) ?_
        rotate_left
        · (go_simp; try with_reducible rfl)
        simp only [List.setIfInBounds_toArray, List.set_cons_zero, List.set_cons_succ]
        refine wpAny_done (by kernel_rfl) ?_ _
        go_wp2
        go_roundw
        case rel => exact ⟨HB1.out, k + 1, by omega, by go_num⟩
        case measure => simp [intOf]; omega
    · have hltI : ¬ (k : Int) < (m : Int) := by omega
      go_wp2
      go_ret
      exact ⟨rfl, HB.out⟩

theorem cell_first (w : World) (A B C : Array Value) (ta tb tc : TypeId) (j : Nat) : (((w.alloc (.cells A ta)).alloc (.cells B tb)).alloc (.cells C tc)).cell? ⟨w.heap.size, j, none⟩ = A[j]? := by
  rw [World.cell?_alloc_lt (h := by simp; omega), World.cell?_alloc_lt (h := by simp), World.cell?_alloc_new]

set_option maxRecDepth 100000 in
set_option maxHeartbeats 4000000 in
theorem toMsg_any (kd fr tt bl ins : Int) (va la : Option Addr) (n vc m lc : Nat) (V : List Int) (L : List Ent) (w : World) (hn : n = V.length) (hn2 : n ≤ 1048576) (hV : NumsAt w va V) (hm : m = L.length) (hm2 : m ≤ 1048576) (hL : EntsAt w la L) :
    Calls Tryd.prog 6 #[.agg #[.int .i64 kd, .int .i64 fr, .int .i64 tt, .int .i64 bl, .int .i64 ins, .slice va n vc, .slice la m lc]] w fun e w' => (∃ (o1 o2 : Option Addr) (c1 c2 : Nat), e = .returned (.agg #[.int .i64 kd, .int .i64 fr, .int .i64 tt, .int .i64 bl, .int .i64 ins, .slice o1 n c1, .slice o2 m c2]) ∧ NumsAt w' o1 V ∧ EntsAt w' o2 L) ∧ Below w.heap.size w w' := by
  have C : Hid (∀ w', Below w.heap.size w w' → Calls Tryd.prog 13 #[.slice va n vc] w' fun e w2 => ∃ v, e = .returned v ∧ w2.ownsRow w'.heap.size 3 1 v V.length (V.map (Value.int .i64)) ∧ Below w'.heap.size w' w2) := fun w' hb => toS_any va vc n V w' hn hn2 (hV.below hb)
  have D : Hid (∀ w', Below w.heap.size w w' → Calls Tryd.prog 14 #[.slice la m lc] w' fun e w2 => (∃ g, e = .returned (.slice (some ⟨g, 0, none⟩) m m) ∧ w'.heap.size ≤ g ∧ OwnEnts w2 g m m L) ∧ Below w'.heap.size w' w2) := fun w' hb => toES_any la m lc L w' hm hm2 (hL.below hb)
  have HN := hid hn
  have HM := hid hm
  clear hn hV hL hm
  go_enter Tryd.func6, Tryd.ntmps6
  go_wp2_with fail
  have HB3 : Hid (Below w.heap.size w (((w.alloc (.cells #[.int .i64 kd, .int .i64 fr, .int .i64 tt, .int .i64 bl, .int .i64 ins, .slice va n vc, .slice la m lc] 25)).alloc (.cells #[.int .i64 0, .int .i64 0, .int .i64 0, .int .i64 0, .int .i64 0, .slice none 0 0, .slice none 0 0] 30)).alloc (.cells #[.int .i64 kd, .int .i64 fr, .int .i64 tt, .int .i64 bl, .int .i64 ins, .slice none 0 0, .slice none 0 0] 30))) := (((Below.refl _ _).alloc (Nat.le_refl _) _).alloc (by simp) _).alloc (by simp; omega) _
  refine (C.out _ HB3.out).mono ?_
  rintro e w4 ⟨v, rfl, hrow, hb⟩
  have hsz : w.heap.size + 1 + 1 + 1 ≤ w4.heap.size := by simpa using hb.size
  obtain ⟨o1, c1, rfl, hN⟩ := row_nums HN.out hrow
  have hk : ∀ b o, b < w.heap.size + 3 → w4.cell? ⟨b, o, none⟩ = (((w.alloc (.cells #[.int .i64 kd, .int .i64 fr, .int .i64 tt, .int .i64 bl, .int .i64 ins, .slice va n vc, .slice la m lc] 25)).alloc (.cells #[.int .i64 0, .int .i64 0, .int .i64 0, .int .i64 0, .int .i64 0, .slice none 0 0, .slice none 0 0] 30)).alloc (.cells #[.int .i64 kd, .int .i64 fr, .int .i64 tt, .int .i64 bl, .int .i64 ins, .slice none 0 0, .slice none 0 0] 30)).cell? ⟨b, o, none⟩ := fun b o h => hb.cell (by simp; omega)
  have hf : ∀ b o, b < w.heap.size + 3 → w4.frozen? ⟨b, o, none⟩ = (((w.alloc (.cells #[.int .i64 kd, .int .i64 fr, .int .i64 tt, .int .i64 bl, .int .i64 ins, .slice va n vc, .slice la m lc] 25)).alloc (.cells #[.int .i64 0, .int .i64 0, .int .i64 0, .int .i64 0, .int .i64 0, .slice none 0 0, .slice none 0 0] 30)).alloc (.cells #[.int .i64 kd, .int .i64 fr, .int .i64 tt, .int .i64 bl, .int .i64 ins, .slice none 0 0, .slice none 0 0] 30)).frozen? ⟨b, o, none⟩ := fun b o h => hb.frozen (by simp; omega)
  have z0 : w4.cell? ⟨w.heap.size + 1, 0, none⟩ = some (.int .i64 0) := (hk _ _ (by omega)).trans (cell_mid _ _ _ _ _ _ _ _)
  have fz0 : w4.frozen? ⟨w.heap.size + 1, 0, none⟩ = false := (hf _ _ (by omega)).trans (free_mid _ _ _ _ _ _ _ _)
  have z1 : w4.cell? ⟨w.heap.size + 1, 1, none⟩ = some (.int .i64 0) := (hk _ _ (by omega)).trans (cell_mid _ _ _ _ _ _ _ _)
  have fz1 : w4.frozen? ⟨w.heap.size + 1, 1, none⟩ = false := (hf _ _ (by omega)).trans (free_mid _ _ _ _ _ _ _ _)
  have z2 : w4.cell? ⟨w.heap.size + 1, 2, none⟩ = some (.int .i64 0) := (hk _ _ (by omega)).trans (cell_mid _ _ _ _ _ _ _ _)
  have fz2 : w4.frozen? ⟨w.heap.size + 1, 2, none⟩ = false := (hf _ _ (by omega)).trans (free_mid _ _ _ _ _ _ _ _)
  have z3 : w4.cell? ⟨w.heap.size + 1, 3, none⟩ = some (.int .i64 0) := (hk _ _ (by omega)).trans (cell_mid _ _ _ _ _ _ _ _)
  have fz3 : w4.frozen? ⟨w.heap.size + 1, 3, none⟩ = false := (hf _ _ (by omega)).trans (free_mid _ _ _ _ _ _ _ _)
  have z4 : w4.cell? ⟨w.heap.size + 1, 4, none⟩ = some (.int .i64 0) := (hk _ _ (by omega)).trans (cell_mid _ _ _ _ _ _ _ _)
  have fz4 : w4.frozen? ⟨w.heap.size + 1, 4, none⟩ = false := (hf _ _ (by omega)).trans (free_mid _ _ _ _ _ _ _ _)
  have z5 : w4.cell? ⟨w.heap.size + 1, 5, none⟩ = some (.slice none 0 0) := (hk _ _ (by omega)).trans (cell_mid _ _ _ _ _ _ _ _)
  have fz5 : w4.frozen? ⟨w.heap.size + 1, 5, none⟩ = false := (hf _ _ (by omega)).trans (free_mid _ _ _ _ _ _ _ _)
  have z6 : w4.cell? ⟨w.heap.size + 1, 6, none⟩ = some (.slice none 0 0) := (hk _ _ (by omega)).trans (cell_mid _ _ _ _ _ _ _ _)
  have fz6 : w4.frozen? ⟨w.heap.size + 1, 6, none⟩ = false := (hf _ _ (by omega)).trans (free_mid _ _ _ _ _ _ _ _)
  have q0 : w4.cell? ⟨w.heap.size + 1 + 1, 0, none⟩ = some (.int .i64 kd) := (hk _ _ (by omega)).trans (cell_last _ _ _ _ _ _ _ _)
  have fq0 : w4.frozen? ⟨w.heap.size + 1 + 1, 0, none⟩ = false := (hf _ _ (by omega)).trans (free_last _ _ _ _ _ _ _ _)
  have q1 : w4.cell? ⟨w.heap.size + 1 + 1, 1, none⟩ = some (.int .i64 fr) := (hk _ _ (by omega)).trans (cell_last _ _ _ _ _ _ _ _)
  have fq1 : w4.frozen? ⟨w.heap.size + 1 + 1, 1, none⟩ = false := (hf _ _ (by omega)).trans (free_last _ _ _ _ _ _ _ _)
  have q2 : w4.cell? ⟨w.heap.size + 1 + 1, 2, none⟩ = some (.int .i64 tt) := (hk _ _ (by omega)).trans (cell_last _ _ _ _ _ _ _ _)
  have fq2 : w4.frozen? ⟨w.heap.size + 1 + 1, 2, none⟩ = false := (hf _ _ (by omega)).trans (free_last _ _ _ _ _ _ _ _)
  have q3 : w4.cell? ⟨w.heap.size + 1 + 1, 3, none⟩ = some (.int .i64 bl) := (hk _ _ (by omega)).trans (cell_last _ _ _ _ _ _ _ _)
  have fq3 : w4.frozen? ⟨w.heap.size + 1 + 1, 3, none⟩ = false := (hf _ _ (by omega)).trans (free_last _ _ _ _ _ _ _ _)
  have q4 : w4.cell? ⟨w.heap.size + 1 + 1, 4, none⟩ = some (.int .i64 ins) := (hk _ _ (by omega)).trans (cell_last _ _ _ _ _ _ _ _)
  have fq4 : w4.frozen? ⟨w.heap.size + 1 + 1, 4, none⟩ = false := (hf _ _ (by omega)).trans (free_last _ _ _ _ _ _ _ _)
  have q5 : w4.cell? ⟨w.heap.size + 1 + 1, 5, none⟩ = some (.slice none 0 0) := (hk _ _ (by omega)).trans (cell_last _ _ _ _ _ _ _ _)
  have fq5 : w4.frozen? ⟨w.heap.size + 1 + 1, 5, none⟩ = false := (hf _ _ (by omega)).trans (free_last _ _ _ _ _ _ _ _)
  have q6 : w4.cell? ⟨w.heap.size + 1 + 1, 6, none⟩ = some (.slice none 0 0) := (hk _ _ (by omega)).trans (cell_last _ _ _ _ _ _ _ _)
  have fq6 : w4.frozen? ⟨w.heap.size + 1 + 1, 6, none⟩ = false := (hf _ _ (by omega)).trans (free_last _ _ _ _ _ _ _ _)
  have a6 : w4.cell? ⟨w.heap.size, 6, none⟩ = some (.slice la m lc) := (hk _ _ (by omega)).trans (cell_first _ _ _ _ _ _ _ _)
  have HB4 : Hid (Below w.heap.size w w4) := HB3.out.trans (hb.mono (by simp; omega))
  have HG : Hid (NumsGt (w.heap.size + 1 + 1 + 1) w4 o1 V) := hN.mono (by simp)
  clear hk hf hb hN hrow HB3
  have e2 : w.heap.size ≤ w.heap.size + 1 + 1 := by omega
  have e1 : w.heap.size ≤ w.heap.size + 1 := by omega
  have HB5 : Hid (Below w.heap.size w (w4.setCell ⟨w.heap.size + 1 + 1, 5, none⟩ (.slice o1 n c1))) := HB4.out.setCell e2 _
  go_wp2_with fail
  refine (D.out _ HB5.out).mono ?_
  rintro e w6 ⟨⟨g, rfl, hg, hO⟩, hb⟩
  have hsz6 : w.heap.size + 1 + 1 + 1 ≤ w6.heap.size := by have := hb.size; simp at this; omega
  have hg' : w.heap.size + 1 + 1 + 1 ≤ g := by simp at hg; omega
  have hk6 : ∀ b o, b < w.heap.size + 3 → w6.cell? ⟨b, o, none⟩ = (w4.setCell ⟨w.heap.size + 1 + 1, 5, none⟩ (.slice o1 n c1)).cell? ⟨b, o, none⟩ := fun b o h => hb.cell (by simp; omega)
  have hf6 : ∀ b o, b < w.heap.size + 3 → w6.frozen? ⟨b, o, none⟩ = (w4.setCell ⟨w.heap.size + 1 + 1, 5, none⟩ (.slice o1 n c1)).frozen? ⟨b, o, none⟩ := fun b o h => hb.frozen (by simp; omega)
  have gz0 : w6.cell? ⟨w.heap.size + 1, 0, none⟩ = some (.int .i64 0) := by rw [hk6 _ _ (by omega), World.cell?_setCell_other (h := fun e => by injection e with e1 e2; omega)]; exact z0
  have hz0 : w6.frozen? ⟨w.heap.size + 1, 0, none⟩ = false := by rw [hf6 _ _ (by omega)]; simpa using fz0
  have gz1 : w6.cell? ⟨w.heap.size + 1, 1, none⟩ = some (.int .i64 0) := by rw [hk6 _ _ (by omega), World.cell?_setCell_other (h := fun e => by injection e with e1 e2; omega)]; exact z1
  have hz1 : w6.frozen? ⟨w.heap.size + 1, 1, none⟩ = false := by rw [hf6 _ _ (by omega)]; simpa using fz1
  have gz2 : w6.cell? ⟨w.heap.size + 1, 2, none⟩ = some (.int .i64 0) := by rw [hk6 _ _ (by omega), World.cell?_setCell_other (h := fun e => by injection e with e1 e2; omega)]; exact z2
  have hz2 : w6.frozen? ⟨w.heap.size + 1, 2, none⟩ = false := by rw [hf6 _ _ (by omega)]; simpa using fz2
  have gz3 : w6.cell? ⟨w.heap.size + 1, 3, none⟩ = some (.int .i64 0) := by rw [hk6 _ _ (by omega), World.cell?_setCell_other (h := fun e => by injection e with e1 e2; omega)]; exact z3
  have hz3 : w6.frozen? ⟨w.heap.size + 1, 3, none⟩ = false := by rw [hf6 _ _ (by omega)]; simpa using fz3
  have gz4 : w6.cell? ⟨w.heap.size + 1, 4, none⟩ = some (.int .i64 0) := by rw [hk6 _ _ (by omega), World.cell?_setCell_other (h := fun e => by injection e with e1 e2; omega)]; exact z4
  have hz4 : w6.frozen? ⟨w.heap.size + 1, 4, none⟩ = false := by rw [hf6 _ _ (by omega)]; simpa using fz4
  have gz5 : w6.cell? ⟨w.heap.size + 1, 5, none⟩ = some (.slice none 0 0) := by rw [hk6 _ _ (by omega), World.cell?_setCell_other (h := fun e => by injection e with e1 e2; omega)]; exact z5
  have hz5 : w6.frozen? ⟨w.heap.size + 1, 5, none⟩ = false := by rw [hf6 _ _ (by omega)]; simpa using fz5
  have gz6 : w6.cell? ⟨w.heap.size + 1, 6, none⟩ = some (.slice none 0 0) := by rw [hk6 _ _ (by omega), World.cell?_setCell_other (h := fun e => by injection e with e1 e2; omega)]; exact z6
  have hz6 : w6.frozen? ⟨w.heap.size + 1, 6, none⟩ = false := by rw [hf6 _ _ (by omega)]; simpa using fz6
  have gq0 : w6.cell? ⟨w.heap.size + 1 + 1, 0, none⟩ = some (.int .i64 kd) := by rw [hk6 _ _ (by omega), World.cell?_setCell_other (h := fun e => by injection e with e1 e2; omega)]; exact q0
  have hq0 : w6.frozen? ⟨w.heap.size + 1 + 1, 0, none⟩ = false := by rw [hf6 _ _ (by omega)]; simpa using fq0
  have gq1 : w6.cell? ⟨w.heap.size + 1 + 1, 1, none⟩ = some (.int .i64 fr) := by rw [hk6 _ _ (by omega), World.cell?_setCell_other (h := fun e => by injection e with e1 e2; omega)]; exact q1
  have hq1 : w6.frozen? ⟨w.heap.size + 1 + 1, 1, none⟩ = false := by rw [hf6 _ _ (by omega)]; simpa using fq1
  have gq2 : w6.cell? ⟨w.heap.size + 1 + 1, 2, none⟩ = some (.int .i64 tt) := by rw [hk6 _ _ (by omega), World.cell?_setCell_other (h := fun e => by injection e with e1 e2; omega)]; exact q2
  have hq2 : w6.frozen? ⟨w.heap.size + 1 + 1, 2, none⟩ = false := by rw [hf6 _ _ (by omega)]; simpa using fq2
  have gq3 : w6.cell? ⟨w.heap.size + 1 + 1, 3, none⟩ = some (.int .i64 bl) := by rw [hk6 _ _ (by omega), World.cell?_setCell_other (h := fun e => by injection e with e1 e2; omega)]; exact q3
  have hq3 : w6.frozen? ⟨w.heap.size + 1 + 1, 3, none⟩ = false := by rw [hf6 _ _ (by omega)]; simpa using fq3
  have gq4 : w6.cell? ⟨w.heap.size + 1 + 1, 4, none⟩ = some (.int .i64 ins) := by rw [hk6 _ _ (by omega), World.cell?_setCell_other (h := fun e => by injection e with e1 e2; omega)]; exact q4
  have hq4 : w6.frozen? ⟨w.heap.size + 1 + 1, 4, none⟩ = false := by rw [hf6 _ _ (by omega)]; simpa using fq4
  have gq5 : w6.cell? ⟨w.heap.size + 1 + 1, 5, none⟩ = some (.slice o1 n c1) := by rw [hk6 _ _ (by omega), World.cell?_setCell_same (h := q5)]
  have hq5 : w6.frozen? ⟨w.heap.size + 1 + 1, 5, none⟩ = false := by rw [hf6 _ _ (by omega)]; simpa using fq5
  have gq6 : w6.cell? ⟨w.heap.size + 1 + 1, 6, none⟩ = some (.slice none 0 0) := by rw [hk6 _ _ (by omega), World.cell?_setCell_other (h := fun e => by injection e with e1 e2; omega)]; exact q6
  have hq6 : w6.frozen? ⟨w.heap.size + 1 + 1, 6, none⟩ = false := by rw [hf6 _ _ (by omega)]; simpa using fq6
  have HB6 : Hid (Below w.heap.size w w6) := HB5.out.trans (hb.mono HB5.out.size)
  have HG6 : Hid (NumsGt (w.heap.size + 1 + 1 + 1) w6 o1 V) := (HG.out.set _ _ (by omega)).below hb
  have HO := hid hO
  have HGG := hid hg'
  clear z0 fz0 z1 fz1 z2 fz2 z3 fz3 z4 fz4 z5 fz5 z6 fz6 q0 fq0 q1 fq1 q2 fq2 q3 fq3 q4 fq4 q5 fq5 q6 fq6 a6 hk6 hf6 hb hO hg hg' HB5 HB4 HG
  go_wp2
  refine bodyPost_ret (v := .agg #[.int .i64 kd, .int .i64 fr, .int .i64 tt, .int .i64 bl, .int .i64 ins, .slice o1 n c1, .slice (some ⟨g, 0, none⟩) m m]) (by simp [results, Tryd.results6, go_sem, gz0, gz1, gz2, gz3, gz4, gz5, gz6]) rfl ?_
  have h1 : w.heap.size + 1 < w.heap.size + 1 + 1 + 1 := by omega
  have h2 : w.heap.size + 1 + 1 < w.heap.size + 1 + 1 + 1 := by omega
  have h1g : w.heap.size + 1 < g := by have := HGG.out; omega
  have h2g : w.heap.size + 1 + 1 < g := by have := HGG.out; omega
  refine ⟨⟨o1, some ⟨g, 0, none⟩, c1, m, rfl, ?_, ?_⟩, ?_⟩
  · exact ((((((((HG6.out.set _ _ h2).set _ _ h1).set _ _ h1).set _ _ h1).set _ _ h1).set _ _ h1).set _ _ h1).set _ _ h1).1
  · exact OwnEnts.ents HM.out ((((((((HO.out.set _ _ h2g).set _ _ h1g).set _ _ h1g).set _ _ h1g).set _ _ h1g).set _ _ h1g).set _ _ h1g).set _ _ h1g)
  · exact (((((((HB6.out.setCell e2 _).setCell e1 _).setCell e1 _).setCell e1 _).setCell e1 _).setCell e1 _).setCell e1 _).setCell e1 _

set_option maxRecDepth 100000 in
set_option maxHeartbeats 1600000 in
theorem eqMsg_same (kd fr tt bl ins : Int) (o1 o2 q1 q2 : Option Addr) (n c1 c2 m d1 d2 : Nat) (V : List Int) (L : List Ent) (w : World) (hn : n = V.length) (hn2 : n ≤ 1048576) (hm : m = L.length) (hm2 : m ≤ 1048576) (h1 : NumsAt w o1 V) (h2 : NumsAt w o2 V) (h3 : EntsAt w q1 L) (h4 : EntsAt w q2 L) :
    Calls Tryd.prog 8 #[.agg #[.int .i64 kd, .int .i64 fr, .int .i64 tt, .int .i64 bl, .int .i64 ins, .slice o1 n c1, .slice q1 m d1], .agg #[.int .i64 kd, .int .i64 fr, .int .i64 tt, .int .i64 bl, .int .i64 ins, .slice o2 n c2, .slice q2 m d2]] w fun e w' => e = .returned (.bool true) ∧ Below w.heap.size w w' := by
  have C : Hid (∀ w', Below w.heap.size w w' → Calls Tryd.prog 20 #[.slice o1 n c1, .slice o2 n c2] w' fun e w2 => e = .returned (.bool true) ∧ Below w'.heap.size w' w2) := fun w' hb => eqS_same o1 o2 c1 c2 n V w' hn hn2 (h1.below hb) (h2.below hb)
  have D : Hid (∀ w', Below w.heap.size w w' → Calls Tryd.prog 21 #[.slice q1 m d1, .slice q2 m d2] w' fun e w2 => e = .returned (.bool true) ∧ Below w'.heap.size w' w2) := fun w' hb => eqES_same q1 q2 d1 d2 m L w' hm hm2 (h3.below hb) (h4.below hb)
  have HB : Hid (Below w.heap.size w ((w.alloc (.cells #[.int .i64 kd, .int .i64 fr, .int .i64 tt, .int .i64 bl, .int .i64 ins, .slice o1 n c1, .slice q1 m d1] 30)).alloc (.cells #[.int .i64 kd, .int .i64 fr, .int .i64 tt, .int .i64 bl, .int .i64 ins, .slice o2 n c2, .slice q2 m d2] 30))) := ((Below.refl _ _).alloc (Nat.le_refl _) _).alloc (by simp) _
  clear hn hm h1 h2 h3 h4
  go_enter Tryd.func8, Tryd.ntmps8
  go_wp2_with fail
  refine (C.out _ HB.out).mono ?_
  rintro e w1 ⟨rfl, hb⟩
  have HB1 : Hid (Below w.heap.size w w1) := HB.out.trans (hb.mono HB.out.size)
  have k6 : w1.cell? ⟨w.heap.size, 6, none⟩ = some (.slice q1 m d1) := by rw [hb.cell (p := ⟨w.heap.size, 6, none⟩) (by simp; omega)]; simp
  have k7 : w1.cell? ⟨w.heap.size + 1, 6, none⟩ = some (.slice q2 m d2) := by rw [hb.cell (p := ⟨w.heap.size + 1, 6, none⟩) (by simp)]; simp
  clear hb
  go_wp2_with fail
  refine (D.out _ HB1.out).mono ?_
  rintro e w2 ⟨rfl, hb⟩
  have HB2 : Hid (Below w.heap.size w w2) := HB1.out.trans (hb.mono HB1.out.size)
  clear hb
  go_wp2
  go_ret
  exact ⟨rfl, HB2.out⟩

end Go.Proofs.YtcmefjicogicladDoor
