/- DERIVED. The walks of what draws texts of hosts. The walk of DrawMsgGet. -/
import Derived.Test.YtcielnlhopjijaaDoorDrawHostM
import Derived.Test.YtcielnlhopjijaaDoorDrawMsgR
import Derived.Test.YtcielnlhopjijaaDoorMsgLenR
namespace Go.Proofs.YtcielnlhopjijaaDoor
open Go.RowKit

set_option maxHeartbeats 1000000 in
theorem bent_any (R : Nat) (oa : Option Addr) (len cap p : Nat) (s : ByteArray) (w : World) (h : RdAt w R oa len cap p) (hp : p ≤ 999980) (hsz : s.size ≤ 100000) :
    Calls Tryd.prog 17 #[.pointer (some ⟨R, 0, none⟩), .string s] w fun e w' => (∃ t : ByteArray, e = .returned (.string t) ∧ t.size ≤ 200010) ∧ (∃ q, Drawn R oa len cap q w w') := by
  have HR := hid h
  clear h
  go_enter Tryd.func17, Tryd.ntmps17
  go_wp2_with fail
  refine (pick_any R oa len cap p ((s.size : Int) + 1) _ HR.out (by omega) (by omega)).mono ?_
  rintro e w1 ⟨⟨x, rfl, hx0, hx1⟩, hd⟩
  obtain ⟨k, rfl⟩ : ∃ k : Nat, x = (k : Int) := ⟨x.toNat, by omega⟩
  have hk : k ≤ s.size := by omega
  have HD1 : Hid (Drawn R oa len cap (p + 1) w w1) := hd
  clear hd
  go_wp2_with fail
  refine (pick_any R oa len cap (p + 1) 6 _ HD1.out.1 (by omega) (by decide)).mono ?_
  rintro e w2 ⟨⟨y, rfl, hy0, hy1⟩, hd⟩
  have HD2 : Hid (Drawn R oa len cap (p + 2) w w2) := ⟨hd.1, HD1.out.2.trans hd.2⟩
  clear hd HD1
  by_cases h0 : y = 0
  · subst h0
    by_cases hks : k < s.size
    · have hks' : (k : Int) < s.size := by omega
      have hwr : IntKind.i64.wrap ((k : Int) + 1) = (k : Int) + 1 := by rw [IntKind.wrap_i64]; omega
      go_wp2_with fail
      refine wp_region_any (by kernel_rfl) ?_
      change wpAny _ _ _ _ _ _ _ (World.drew _)
      refine take_on 0 (v := ?_) rfl rfl (by kernel_rfl) (by kernel_rfl) (by kernel_rfl) (fun _ _ _ h => h) (by rfl) (fun w => ?_) ?_
      rotate_left
      · (go_simp; try with_reducible rfl)
      simp only [List.setIfInBounds_toArray, List.set_cons_zero, List.set_cons_succ]
      refine take_on 1 (v := ?_) rfl rfl (by kernel_rfl) (by kernel_rfl) (by kernel_rfl) (fun _ _ _ h => h) (by rfl) (fun w => ?_) ?_
      rotate_left
      · (go_simp; try with_reducible rfl)
      simp only [List.setIfInBounds_toArray, List.set_cons_zero, List.set_cons_succ]
      refine take_on 2 (v := ?_) rfl rfl (by kernel_rfl) (by kernel_rfl) (by kernel_rfl) (fun _ _ _ h => h) (by rfl) (fun w => ?_) ?_
      rotate_left
      · (go_simp; try with_reducible rfl)
      simp only [List.setIfInBounds_toArray, List.set_cons_zero, List.set_cons_succ]
      refine take_on 3 (v := ?_) rfl rfl (by kernel_rfl) (by kernel_rfl) (by kernel_rfl) (fun _ _ _ h => h) (by rfl) (fun w => ?_) ?_
      rotate_left
      · (go_simp; try with_reducible rfl)
      simp only [List.setIfInBounds_toArray, List.set_cons_zero, List.set_cons_succ]
      refine take_on 7 (v := ?_) rfl rfl (by kernel_rfl) (by kernel_rfl) (by kernel_rfl) (fun _ _ _ h => h) (by rfl) (fun w => ?_) ?_
      rotate_left
      · (go_simp; try with_reducible rfl)
      simp only [List.setIfInBounds_toArray, List.set_cons_zero, List.set_cons_succ]
      refine take_on 8 (v := ?_) rfl rfl (by kernel_rfl) (by kernel_rfl) (by kernel_rfl) (fun _ _ _ h => h) (by rfl) (fun w => ?_) ?_
      rotate_left
      · (go_simp; try with_reducible rfl)
      simp only [List.setIfInBounds_toArray, List.set_cons_zero, List.set_cons_succ]
      refine take_on 9 (v := .int .i64 ((k : Int) + 1)) rfl rfl (by kernel_rfl) (by kernel_rfl) (by kernel_rfl) (fun _ _ _ h => h) (by rfl) (fun w => ?_) ?_
      · (go_simp; try (rw [hwr]))
      simp only [List.setIfInBounds_toArray, List.set_cons_zero, List.set_cons_succ]
      refine take_on 10 (v := .string (s.extract (k + 1) s.size)) rfl rfl (by kernel_rfl) (by kernel_rfl) (by kernel_rfl) (fun _ _ _ h => h) (by rfl) (fun w => ?_) ?_
      · (go_simp; (intro hh; have := hh (by omega); omega))
      simp only [List.setIfInBounds_toArray, List.set_cons_zero, List.set_cons_succ]
      refine wpAny_ready (rs := [4]) (by kernel_rfl) (by simp) (AllReady.cons rfl (fun K hK => ?_) AllReady.nil)
      go_simp
      refine hK _ _ ?_
      clear hK K
      refine wpAny_ready (rs := [5]) (by kernel_rfl) (by simp) (AllReady.cons rfl (fun K hK => ?_) AllReady.nil)
      go_simp
      go_wp2_with fail
      refine (of_any R _ 17 1 oa len cap (p + 2) _ ?_ (by omega) (by decide) (by decide) ?_ ?_ ?_).mono ?_
      · exact HD2.out.1.keep (((Below.refl _ _).alloc (Nat.le_refl _) _).drew)
      · simp
      · have := HD2.out.1.old; simp; omega
      · exact strs_new _ _ _ 1 _ 17 (by simp) (by rfl) (by kernel_rfl)
      rintro e w3 ⟨⟨a, rfl, ha⟩, hd⟩
      have HD3 : Hid (Drawn R oa len cap (p + 3) w w3) := ⟨hd.1, HD2.out.2.trans ((Keeps.of_below (((Below.refl _ _).alloc (Nat.le_refl _) _).drew) HD2.out.1.old).trans hd.2)⟩
      clear hd
      have hb1 := fun W => run_string_add_sum (P := Tryd.prog) (w := W) (s.extract 0 k) a (by rw [ByteArray.size_extract]; omega)
      refine hK _ _ ?_
      clear hK K
      refine take_on 6 (v := ?_) rfl rfl (by kernel_rfl) (by kernel_rfl) (by kernel_rfl) (fun _ _ _ h => h) (by rfl) (fun w => ?_) ?_
      rotate_left
      · (go_simp; try with_reducible rfl)
      simp only [List.setIfInBounds_toArray, List.set_cons_zero, List.set_cons_succ]
      have hb2 := fun W => run_string_add_sum (P := Tryd.prog) (w := W) (s.extract 0 k ++ a) (s.extract (k + 1) s.size) (by rw [ByteArray.size_append, ByteArray.size_extract, ByteArray.size_extract]; omega)
      refine take_on 11 (v := ?_) rfl rfl (by kernel_rfl) (by kernel_rfl) (by kernel_rfl) (fun _ _ _ h => h) (by rfl) (fun w => ?_) ?_
      rotate_left
      · (go_simp; try with_reducible rfl)
      simp only [List.setIfInBounds_toArray, List.set_cons_zero, List.set_cons_succ]
      refine take_on 12 (v := ?_) rfl rfl (by kernel_rfl) (by kernel_rfl) (by kernel_rfl) (fun _ _ _ h => h) (by rfl) (fun w => ?_) ?_
      rotate_left
      · (go_simp; try with_reducible rfl)
      simp only [List.setIfInBounds_toArray, List.set_cons_zero, List.set_cons_succ]
      refine wpAny_done (by kernel_rfl) ?_ _
      go_wp2
      go_ret
      refine ⟨⟨_, rfl, ?_⟩, p + 3, HD3.out⟩
      rw [ByteArray.size_append, ByteArray.size_append, ByteArray.size_extract, ByteArray.size_extract]; omega
    · go_wp2
      go_ret
      exact ⟨⟨s, rfl, by omega⟩, p + 2, HD2.out⟩
  · have hb0 : (y == 0) = false := by rw [beq_eq_false_iff_ne]; exact h0
    clear h0
    by_cases h1 : y = 1
    · subst h1
      go_wp2
      go_ret
      refine ⟨⟨_, rfl, ?_⟩, p + 2, HD2.out⟩
      rw [ByteArray.size_extract]; omega
    · have hb1 : (y == 1) = false := by rw [beq_eq_false_iff_ne]; exact h1
      clear h1
      by_cases h2 : y = 2
      · subst h2
        go_wp2_with fail
        refine (of_any R _ 7 1 oa len cap (p + 2) _ ?_ (by omega) (by decide) (by decide) ?_ ?_ ?_).mono ?_
        · exact HD2.out.1.keep ((Below.refl _ _).alloc (Nat.le_refl _) _)
        · simp
        · have := HD2.out.1.old; omega
        · exact strs_new _ _ _ 1 _ 7 (by simp) (by rfl) (by kernel_rfl)
        rintro e w3 ⟨⟨a, rfl, ha⟩, hd⟩
        have HD3 : Hid (Drawn R oa len cap (p + 3) w w3) := ⟨hd.1, HD2.out.2.trans ((Keeps.of_below ((Below.refl _ _).alloc (Nat.le_refl _) _) HD2.out.1.old).trans hd.2)⟩
        clear hd
        have hadd := fun W => run_string_add_sum (P := Tryd.prog) (w := W) s a (by omega)
        go_wp2
        go_ret
        refine ⟨⟨_, rfl, ?_⟩, p + 3, HD3.out⟩
        rw [ByteArray.size_append]; omega
      · have hb2 : (y == 2) = false := by rw [beq_eq_false_iff_ne]; exact h2
        clear h2
        by_cases h3 : y = 3
        · subst h3
          go_wp2_with fail
          refine wp_region_any (by kernel_rfl) ?_
          change wpAny _ _ _ _ _ _ _ (World.drew _)
          refine take_on 0 (v := ?_) rfl rfl (by kernel_rfl) (by kernel_rfl) (by kernel_rfl) (fun _ _ _ h => h) (by rfl) (fun w => ?_) ?_
          rotate_left
          · (go_simp; try with_reducible rfl)
          simp only [List.setIfInBounds_toArray, List.set_cons_zero, List.set_cons_succ]
          refine take_on 1 (v := ?_) rfl rfl (by kernel_rfl) (by kernel_rfl) (by kernel_rfl) (fun _ _ _ h => h) (by rfl) (fun w => ?_) ?_
          rotate_left
          · (go_simp; try with_reducible rfl)
          simp only [List.setIfInBounds_toArray, List.set_cons_zero, List.set_cons_succ]
          refine take_on 2 (v := ?_) rfl rfl (by kernel_rfl) (by kernel_rfl) (by kernel_rfl) (fun _ _ _ h => h) (by rfl) (fun w => ?_) ?_
          rotate_left
          · (go_simp; try with_reducible rfl)
          simp only [List.setIfInBounds_toArray, List.set_cons_zero, List.set_cons_succ]
          refine take_on 3 (v := ?_) rfl rfl (by kernel_rfl) (by kernel_rfl) (by kernel_rfl) (fun _ _ _ h => h) (by rfl) (fun w => ?_) ?_
          rotate_left
          · (go_simp; try with_reducible rfl)
          simp only [List.setIfInBounds_toArray, List.set_cons_zero, List.set_cons_succ]
          refine take_on 7 (v := ?_) rfl rfl (by kernel_rfl) (by kernel_rfl) (by kernel_rfl) (fun _ _ _ h => h) (by rfl) (fun w => ?_) ?_
          rotate_left
          · (go_simp; try with_reducible rfl)
          simp only [List.setIfInBounds_toArray, List.set_cons_zero, List.set_cons_succ]
          refine take_on 8 (v := ?_) rfl rfl (by kernel_rfl) (by kernel_rfl) (by kernel_rfl) (fun _ _ _ h => h) (by rfl) (fun w => ?_) ?_
          rotate_left
          · (go_simp; try with_reducible rfl)
          simp only [List.setIfInBounds_toArray, List.set_cons_zero, List.set_cons_succ]
          refine take_on 9 (v := ?_) rfl rfl (by kernel_rfl) (by kernel_rfl) (by kernel_rfl) (fun _ _ _ h => h) (by rfl) (fun w => ?_) ?_
          rotate_left
          · (go_simp; try with_reducible rfl)
          simp only [List.setIfInBounds_toArray, List.set_cons_zero, List.set_cons_succ]
          refine wpAny_ready (rs := [4]) (by kernel_rfl) (by simp) (AllReady.cons rfl (fun K hK => ?_) AllReady.nil)
          go_simp
          refine hK _ _ ?_
          clear hK K
          refine wpAny_ready (rs := [5]) (by kernel_rfl) (by simp) (AllReady.cons rfl (fun K hK => ?_) AllReady.nil)
          go_simp
          go_wp2_with fail
          refine (of_any R _ 9 1 oa len cap (p + 2) _ ?_ (by omega) (by decide) (by decide) ?_ ?_ ?_).mono ?_
          · exact HD2.out.1.keep (((Below.refl _ _).alloc (Nat.le_refl _) _).drew)
          · simp
          · have := HD2.out.1.old; simp; omega
          · exact strs_new _ _ _ 1 _ 9 (by simp) (by rfl) (by kernel_rfl)
          rintro e w3 ⟨⟨a, rfl, ha⟩, hd⟩
          have HD3 : Hid (Drawn R oa len cap (p + 3) w w3) := ⟨hd.1, HD2.out.2.trans ((Keeps.of_below (((Below.refl _ _).alloc (Nat.le_refl _) _).drew) HD2.out.1.old).trans hd.2)⟩
          clear hd
          have hb1 := fun W => run_string_add_sum (P := Tryd.prog) (w := W) (s.extract 0 k) a (by rw [ByteArray.size_extract]; omega)
          refine hK _ _ ?_
          clear hK K
          refine take_on 6 (v := ?_) rfl rfl (by kernel_rfl) (by kernel_rfl) (by kernel_rfl) (fun _ _ _ h => h) (by rfl) (fun w => ?_) ?_
          rotate_left
          · (go_simp; try with_reducible rfl)
          simp only [List.setIfInBounds_toArray, List.set_cons_zero, List.set_cons_succ]
          have hb2 := fun W => run_string_add_sum (P := Tryd.prog) (w := W) (s.extract 0 k ++ a) (s.extract k s.size) (by rw [ByteArray.size_append, ByteArray.size_extract, ByteArray.size_extract]; omega)
          refine take_on 10 (v := ?_) rfl rfl (by kernel_rfl) (by kernel_rfl) (by kernel_rfl) (fun _ _ _ h => h) (by rfl) (fun w => ?_) ?_
          rotate_left
          · (go_simp; try with_reducible rfl)
          simp only [List.setIfInBounds_toArray, List.set_cons_zero, List.set_cons_succ]
          refine take_on 11 (v := ?_) rfl rfl (by kernel_rfl) (by kernel_rfl) (by kernel_rfl) (fun _ _ _ h => h) (by rfl) (fun w => ?_) ?_
          rotate_left
          · (go_simp; try with_reducible rfl)
          simp only [List.setIfInBounds_toArray, List.set_cons_zero, List.set_cons_succ]
          refine wpAny_done (by kernel_rfl) ?_ _
          go_wp2
          go_ret
          refine ⟨⟨_, rfl, ?_⟩, p + 3, HD3.out⟩
          rw [ByteArray.size_append, ByteArray.size_append, ByteArray.size_extract, ByteArray.size_extract]; omega
        · have hb3 : (y == 3) = false := by rw [beq_eq_false_iff_ne]; exact h3
          clear h3
          go_wp2
          go_ret
          exact ⟨⟨s, rfl, by omega⟩, p + 2, HD2.out⟩

end Go.Proofs.YtcielnlhopjijaaDoor

namespace Go.Proofs.YtcielnlhopjijaaDoor
open Go.RowKit

theorem putText_bound (a b c d e : Int) (V : List Int) (L : List Ent) (hl : L.length ≤ 5) : (putText a b c d e V L).size ≤ 400 := by
  by_cases h : msgOkP a b c d e V L = true
  · exact putText_len h (by omega)
  · unfold putText
    rw [if_neg h]
    exact Nat.zero_le _

set_option maxRecDepth 100000 in
set_option maxHeartbeats 3200000 in
theorem drawGet_any (oa : Option Addr) (len cap : Nat) (w : World) (h : CodeAt w oa len) (hc : len ≤ cap) (hm : cap ≤ maxLen) :
    Calls Tryd.prog 4 #[.slice oa len cap] w fun ee w' => (∃ s : ByteArray, ee = .returned (.string s) ∧ s.size ≤ 300000) ∧ Below w.heap.size w w' := by
  have HC := hid h
  clear h
  go_enter Tryd.func4, Tryd.ntmps4
  go_wp2_with fail
  refine (open_any oa len cap _ HC.out hc hm).mono ?_
  rintro e w1 ⟨rfl, ⟨l1, k1, hr1⟩, hb1⟩
  have HB1 := hid hb1
  have HD1 : Hid (Drawn w.heap.size oa l1 k1 0 w1 w1) := ⟨hr1, Keeps.refl _ _⟩
  clear hb1 hr1
  go_wp2_with fail
  refine (pick_any w.heap.size oa l1 k1 0 3 _ HD1.out.1 (by omega) (by decide)).mono ?_
  rintro e w2 ⟨⟨x, rfl, hx0, hx1⟩, hd⟩
  have hw2 : IntKind.i64.wrap (1 + x) = 1 + x := by rw [IntKind.wrap_i64]; omega
  have HD2 := hid (HD1.out.thenV hd)
  have hm0 : 0 ≤ 1 + x := by omega
  have hm3 : 1 + x ≤ 3 := by omega
  clear hd hx0 hx1
  go_wp2_with fail
  refine (drawMsg_any w.heap.size oa l1 k1 1 (1 + x) _ HD2.out.1 (by omega) hm0 hm3).mono ?_
  rintro ee w3 ⟨⟨a, b, c, d, e, o1, o2, c1, c2, V, L, xs, rfl, hv, hl, hx, hV, hL, _⟩, q, hq, hd⟩
  have HD3 := hid (HD2.out.thenV hd)
  have HV := hid (NumsIn.of_row hv).at
  have HL := hid (ents_of hl hx)
  obtain ⟨t, ht⟩ : ∃ t, t = putText a b c d e V L := ⟨_, rfl⟩
  have hts : t.size ≤ 400 := by rw [ht]; exact putText_bound a b c d e V L hL
  have HP := hid (specMsgPut_any a b c d e o1 o2 V.length c1 L.length c2 V L w3 rfl (by omega) HV.out rfl (by omega) HL.out)
  rw [← ht] at HP
  clear hd hv hl hx ht hw2 hm0 hm3
  go_wp2_with fail
  refine HP.out.mono ?_
  rintro ee w4 ⟨rfl, hb⟩
  have HD4 := hid (HD3.out.belowV hb)
  clear hb
  go_wp2_with fail
  refine (pick_any w.heap.size oa l1 k1 q 6 _ HD4.out.1 (by omega) (by decide)).mono ?_
  rintro ee w5 ⟨⟨y, rfl, hy0, hy1⟩, hd⟩
  have HD5 := hid (HD4.out.thenV hd)
  have hR5 := hd.1.old
  clear hd
  by_cases h0 : y = 0
  · subst h0
    go_wp2_with fail
    refine (of_any w.heap.size _ 7 20 oa l1 k1 (q + 1) _ (HD5.out.1.keep ((Below.refl _ _).alloc (Nat.le_refl _) _)) (by omega) (by decide) (by decide) ?_ ?_ ?_).mono ?_
    · simp
    · omega
    · exact strs_new _ _ _ 20 _ 7 (by simp) (by rfl) (by kernel_rfl)
    rintro ee w6 ⟨⟨u, rfl, hu⟩, hd⟩
    have HD6 : Hid (Drawn w.heap.size oa l1 k1 (q + 2) w1 w6) := ⟨hd.1, HD5.out.2.trans ((Keeps.of_below ((Below.refl _ _).alloc (Nat.le_refl _) _) hR5).trans hd.2)⟩
    clear hd hR5
    have a1 := fun W => run_string_add_sum (P := Tryd.prog) (w := W) u ⟨#[32]⟩ (by show u.size + 1 ≤ _; omega)
    obtain ⟨u1, h1⟩ : ∃ r, r = u ++ (⟨#[32]⟩ : ByteArray) := ⟨_, rfl⟩
    have z1 : u1.size = u.size + 1 := by rw [h1, ByteArray.size_append]; rfl
    rw [← h1] at a1
    have HK := hid (specL9Crc_any u w6 (by unfold maxLen; omega))
    have hc := crcP_lt u
    obtain ⟨k, hk⟩ : ∃ k, k = crcP u := ⟨_, rfl⟩
    rw [← hk] at HK hc
    have sq : (decI (k : Int)).size ≤ 10 := by
      have := dec_len_le k 9 (by omega)
      rw [← dI_nat] at this
      have e : (decI (k : Int)).size = (dI (k : Int)).length := by simp [dI]
      omega
    obtain ⟨dq, hdq⟩ : ∃ d, d = decI (k : Int) := ⟨_, rfl⟩
    have CQ : Hid (∀ w', Calls Tryd.prog 15 #[.int .i64 (k : Int)] w' fun e w2 => e = .returned (.string dq) ∧ Below w'.heap.size w' w2) := fun w' => by rw [hdq]; exact decI_any (k : Int) w' (by omega) (by omega)
    rw [← hdq] at sq
    have a2 := fun W => run_string_add_sum (P := Tryd.prog) (w := W) u1 dq (by omega)
    obtain ⟨u2, h2⟩ : ∃ r, r = u1 ++ dq := ⟨_, rfl⟩
    have z2 : u2.size ≤ 300000 := by rw [h2, ByteArray.size_append]; omega
    rw [← h2] at a2
    clear h1 h2 hk hdq
    go_wp2_with fail
    refine HK.out.mono ?_
    rintro ee w7 ⟨rfl, rfl⟩
    go_wp2_with fail
    refine (CQ.out _).mono ?_
    rintro ee w8 ⟨rfl, hb⟩
    have HD8 := hid (HD6.out.belowV hb)
    clear hb
    go_wp2
    go_ret
    exact ⟨⟨u2, rfl, z2⟩, HD8.out.2.below w.heap.size w (Nat.le_refl _) HB1.out⟩
  · have hyb : (y == 0) = false := by rw [beq_eq_false_iff_ne]; exact h0
    go_wp2_with fail
    refine (bent_any w.heap.size oa l1 k1 (q + 1) t _ HD5.out.1 (by omega) (by omega)).mono ?_
    rintro ee w6 ⟨⟨u, rfl, hu⟩, q2, hd⟩
    have HD6 := hid (HD5.out.thenV hd)
    clear hd
    go_wp2
    go_ret
    exact ⟨⟨u, rfl, by omega⟩, HD6.out.2.below w.heap.size w (Nat.le_refl _) HB1.out⟩

end Go.Proofs.YtcielnlhopjijaaDoor

