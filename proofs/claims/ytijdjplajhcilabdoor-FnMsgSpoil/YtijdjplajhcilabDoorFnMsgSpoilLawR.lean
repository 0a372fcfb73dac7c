/- DERIVED. The law FnMsgSpoil at every two codes. -/
import Derived.Test.YtijdjplajhcilabDoorDrawPutR
import Derived.Test.YtijdjplajhcilabDoorMsgLenM
import Derived.Laws.IdiomStrings
import Derived.Laws.BitsAllLaws
namespace Go.Proofs.YtijdjplajhcilabDoor
open Go.RowKit

theorem sz1' (c : UInt8) : (⟨#[c]⟩ : ByteArray).size = 1 := rfl
theorem conv2 (W : World) (B : Nat) (c : UInt8) (h : W.cell? ⟨B, 0, none⟩ = some (.int .u8 (c.toNat : Int))) : (convert 22 9 (.slice (some ⟨B, 0, none⟩) 1 1)).run Tryd.prog W = .ok (.string ⟨#[c]⟩) W :=
  run_convert_bytes_back (P := Tryd.prog) W 22 9 5 ⟨B, 0, none⟩ 1 [c] Tryd.underlying22 Tryd.underlying5 Tryd.underlying9 (by
    intro j hj
    have h0 : j = 0 := by simpa using hj
    subst h0
    simpa [Addr.add] using h)

theorem xor_ne (x y : UInt8) (h : y ≠ 0) : x ^^^ y ≠ x := by
  intro e
  apply h
  have h1 : x ^^^ (x ^^^ y) = x ^^^ x := by rw [e]
  simpa [← UInt8.xor_assoc] using h1

set_option maxRecDepth 100000 in
set_option maxHeartbeats 6400000 in
theorem law_any (oa om : Option Addr) (len cap len1 cap1 : Nat) (w : World) (h : CodeAt w oa len) (h1 : CodeAt w om len1) (hc : len ≤ cap) (hm : cap ≤ maxLen) (_hc1 : len1 ≤ cap1) (_hm1 : cap1 ≤ maxLen) (ht : Tab w) (he : EofR w) :
    Calls Tryd.prog 3 #[.slice oa len cap, .slice om len1 cap1] w fun e w' => e = .returned (.bool true) ∧ Below w.heap.size w w' := by
  by_cases hbig : (len : Int) > 1048576
  · clear h h1 ht he
    go_enter Tryd.func3, Tryd.ntmps3
    go_wp2
    go_ret
    exact ⟨rfl, Below.refl _ _⟩
  by_cases hbig1 : (len1 : Int) > 1048576
  · clear h h1 ht he
    go_enter Tryd.func3, Tryd.ntmps3
    go_wp2
    go_ret
    exact ⟨rfl, Below.refl _ _⟩
  have hlen : len ≤ 1048576 := by omega
  have hlen1 : len1 ≤ 1048576 := by omega
  have HC := hid h
  have HC1 := hid h1
  have HT := hid ht
  have HE := hid he
  clear h h1 ht he
  go_enter Tryd.func3, Tryd.ntmps3
  go_wp2_with fail
  refine (drawPut_any oa len cap _ HC.out hc hm).mono ?_
  rintro ee w1 ⟨⟨a, b, c, d, e, o1, o2, c1, c2, V, L, rfl, hN, hL, hV6, hL6⟩, hb1⟩
  have HB := hid hb1
  have HN := hid hN
  have HL := hid hL
  have HCM : Hid (CodeAt w1 om len1) := HC1.out.below HB.out
  have HTW : Hid (∀ w', Below w1.heap.size w1 w' → Tab w') := fun w' hb => (HT.out.below HB.out).below hb
  have HEW : Hid (∀ w', Below w1.heap.size w1 w' → EofR w') := fun w' hb => (HE.out.below HB.out).below hb
  obtain ⟨c0, hc0⟩ : ∃ c0, c0 = msgOkP a b c d e V L := ⟨_, rfl⟩
  obtain ⟨t, htx⟩ : ∃ t, t = putText a b c d e V L := ⟨_, rfl⟩
  have hv1 : V.length ≤ 1048576 := by omega
  have hl1 : L.length ≤ 1048576 := by omega
  have CP : Hid (∀ w', Below w1.heap.size w1 w' → Calls Tryd.prog 5 #[.agg #[.int .i64 a, .int .i64 b, .int .i64 c, .int .i64 d, .int .i64 e, .slice o1 V.length c1, .slice o2 L.length c2]] w' fun e w2 => e = .returned (.string t) ∧ Below w'.heap.size w' w2) := fun w' hb => by rw [htx]; exact implMsgPut_any a b c d e o1 o2 V.length c1 L.length c2 V L w' (HTW.out w' hb) rfl hv1 (HN.out.below hb) rfl hl1 (HL.out.below hb)
  have CQ : Hid (∀ w', Below w1.heap.size w1 w' → Calls Tryd.prog 6 #[.agg #[.int .i64 a, .int .i64 b, .int .i64 c, .int .i64 d, .int .i64 e, .slice o1 V.length c1, .slice o2 L.length c2]] w' fun e w2 => e = .returned (.string t) ∧ Below w'.heap.size w' w2) := fun w' hb => by rw [htx]; exact specMsgPut_any a b c d e o1 o2 V.length c1 L.length c2 V L w' rfl hv1 (HN.out.below hb) rfl hl1 (HL.out.below hb)
  have HZ : Hid (c0 = false → t = (⟨#[]⟩ : ByteArray)) := fun h => by rw [htx]; unfold putText; rw [← hc0, h]; rfl
  have HY : Hid (c0 = true → t ≠ (⟨#[]⟩ : ByteArray) ∧ t.size ≤ 400 ∧ ∃ B, Split t.data.toList B) := fun h => by rw [hc0] at h; rw [htx]; exact ⟨putText_ne h, putText_len h hL6, _, put_split h⟩
  clear hb1 hN hL hc0 htx hv1 hl1 hV6 hL6 HT HE HC HC1 hlen hbig
  go_wp2_with fail
  obtain ⟨w2, hw2⟩ : ∃ w2, w2 = w1.alloc (.cells #[.int .i64 a, .int .i64 b, .int .i64 c, .int .i64 d, .int .i64 e, .slice o1 V.length c1, .slice o2 L.length c2] 26) := ⟨_, rfl⟩
  rw [← hw2]
  have HB2 : Hid (Below w1.heap.size w1 w2) := by rw [hw2]; exact (Below.refl _ _).alloc (Nat.le_refl _) _
  have HK2 : Hid (w2.heap[w1.heap.size]? = some (.cells #[.int .i64 a, .int .i64 b, .int .i64 c, .int .i64 d, .int .i64 e, .slice o1 V.length c1, .slice o2 L.length c2] 26 (0, 0))) := by rw [hw2]; exact alloc_new _ _
  clear hw2
  refine (CP.out w2 HB2.out).mono ?_
  rintro ee w3 ⟨rfl, hb⟩
  have HB3 := hid (HB2.out.trans (hb.mono HB2.out.size))
  have HK3 : Hid (w3.heap[w1.heap.size]? = some (.cells #[.int .i64 a, .int .i64 b, .int .i64 c, .int .i64 d, .int .i64 e, .slice o1 V.length c1, .slice o2 L.length c2] 26 (0, 0))) := by show _ = _; rw [hb.block _ (Array.getElem?_eq_some_iff.1 HK2.out).1]; exact HK2.out
  clear hb
  cases c0
  · obtain rfl := HZ.out rfl
    have y0 : w3.cell? ⟨w1.heap.size, 0, none⟩ = some (.int .i64 a) := (by rw [in_block HK3.out 0]; rfl)
    have y1 : w3.cell? ⟨w1.heap.size, 1, none⟩ = some (.int .i64 b) := (by rw [in_block HK3.out 1]; rfl)
    have y2 : w3.cell? ⟨w1.heap.size, 2, none⟩ = some (.int .i64 c) := (by rw [in_block HK3.out 2]; rfl)
    have y3 : w3.cell? ⟨w1.heap.size, 3, none⟩ = some (.int .i64 d) := (by rw [in_block HK3.out 3]; rfl)
    have y4 : w3.cell? ⟨w1.heap.size, 4, none⟩ = some (.int .i64 e) := (by rw [in_block HK3.out 4]; rfl)
    have y5 : w3.cell? ⟨w1.heap.size, 5, none⟩ = some (.slice o1 V.length c1) := (by rw [in_block HK3.out 5]; rfl)
    have y6 : w3.cell? ⟨w1.heap.size, 6, none⟩ = some (.slice o2 L.length c2) := (by rw [in_block HK3.out 6]; rfl)
    go_wp2_with fail
    refine (CQ.out _ HB3.out).mono ?_
    rintro ee w4 ⟨rfl, hb⟩
    have HB4 := hid (HB3.out.trans (hb.mono HB3.out.size))
    have HK4 : Hid (w4.heap[w1.heap.size]? = some (.cells #[.int .i64 a, .int .i64 b, .int .i64 c, .int .i64 d, .int .i64 e, .slice o1 V.length c1, .slice o2 L.length c2] 26 (0, 0))) := by show _ = _; rw [hb.block _ (Array.getElem?_eq_some_iff.1 HK3.out).1]; exact HK3.out
    clear hb y0 y1 y2 y3 y4 y5 y6
    have y0 : w4.cell? ⟨w1.heap.size, 0, none⟩ = some (.int .i64 a) := (by rw [in_block HK4.out 0]; rfl)
    have y1 : w4.cell? ⟨w1.heap.size, 1, none⟩ = some (.int .i64 b) := (by rw [in_block HK4.out 1]; rfl)
    have y2 : w4.cell? ⟨w1.heap.size, 2, none⟩ = some (.int .i64 c) := (by rw [in_block HK4.out 2]; rfl)
    have y3 : w4.cell? ⟨w1.heap.size, 3, none⟩ = some (.int .i64 d) := (by rw [in_block HK4.out 3]; rfl)
    have y4 : w4.cell? ⟨w1.heap.size, 4, none⟩ = some (.int .i64 e) := (by rw [in_block HK4.out 4]; rfl)
    have y5 : w4.cell? ⟨w1.heap.size, 5, none⟩ = some (.slice o1 V.length c1) := (by rw [in_block HK4.out 5]; rfl)
    have y6 : w4.cell? ⟨w1.heap.size, 6, none⟩ = some (.slice o2 L.length c2) := (by rw [in_block HK4.out 6]; rfl)
    go_wp2_with fail
    refine (CQ.out _ HB4.out).mono ?_
    rintro ee w5 ⟨rfl, hb⟩
    have HB5 := hid (HB4.out.trans (hb.mono HB4.out.size))
    clear hb
    go_wp2
    go_ret
    exact ⟨rfl, HB.out.trans (HB5.out.mono HB.out.size)⟩
  · obtain ⟨hne, h400, B, hsp⟩ := HY.out rfl
    have hnl : ¬ t.toList = [] := by
      rw [ByteArray.toList_eq]
      intro h0
      apply hne
      apply ByteArray.ext
      apply Array.ext'
      exact h0
    have hem : t.toList.isEmpty = false := by
      cases hq : t.toList with
      | nil => exact absurd hq hnl
      | cons x r => rfl
    have hz : 0 < t.size := by
      rcases Nat.eq_zero_or_pos t.size with e0 | e0
      · exact absurd (bytes_eq (b := ⟨#[]⟩) (List.eq_nil_of_length_eq_zero (by simpa using e0))) hne
      · exact e0
    have hzI : ((t.size : Int) == 0) = false := by rw [beq_eq_false_iff_ne]; omega
    obtain ⟨k, hk⟩ : ∃ k, k = len1 % t.size := ⟨_, rfl⟩
    have hks : k < t.size := by rw [hk]; exact Nat.mod_lt _ hz
    have hmod : (len1 : Int).tmod t.size = (k : Int) := by rw [Int.tmod_eq_emod_of_nonneg (by omega), hk]; simp
    have hmod2 : (len1 : Int) % t.size = (k : Int) := by rw [hk]; simp
    have hksI : (k : Int) < t.size := by omega
    have hkle : k ≤ t.size := by omega
    have hwr : IntKind.i64.wrap ((k : Int) + 1) = (k : Int) + 1 := by rw [IntKind.wrap_i64]; omega
    clear hk
    have CN : Hid (∀ (u : ByteArray) w', u.size ≤ 400 → gOkay u = false → Below w1.heap.size w1 w' → Calls Tryd.prog 7 #[.string u] w' fun e w2 => e = .returned (.tuple #[.agg #[.int .i64 0, .int .i64 0, .int .i64 0, .int .i64 0, .int .i64 0, .slice none 0 0, .slice none 0 0], .bool false]) ∧ Below w'.heap.size w' w2) := fun u w' hu hn hb => get_no (s := u) w' (by unfold maxLen; omega) (HTW.out w' hb) (HEW.out w' hb) hn
    have CUT : Hid (∀ w', Below w1.heap.size w1 w' → Calls Tryd.prog 7 #[.string (t.extract 0 k)] w' fun e w2 => e = .returned (.tuple #[.agg #[.int .i64 0, .int .i64 0, .int .i64 0, .int .i64 0, .int .i64 0, .slice none 0 0, .slice none 0 0], .bool false]) ∧ Below w'.heap.size w' w2) := fun w' hb => CN.out _ w' (by rw [ByteArray.size_extract]; omega) (by
      cases hg : gOkay (t.extract 0 k) with
      | false => rfl
      | true =>
        obtain ⟨B', hB'⟩ := okay_split hg
        rw [show (t.extract 0 k).data.toList = t.data.toList.take k from by simp [ByteArray.data_extract]] at hB'
        exact (cut_no hsp k (by simpa using hks) hB').elim) hb
    have OTH : Hid (∀ (c : UInt8), c ≠ t[k] → ∀ w', Below w1.heap.size w1 w' → Calls Tryd.prog 7 #[.string (otherByte t k c)] w' fun e w2 => e = .returned (.tuple #[.agg #[.int .i64 0, .int .i64 0, .int .i64 0, .int .i64 0, .int .i64 0, .slice none 0 0, .slice none 0 0], .bool false]) ∧ Below w'.heap.size w' w2) := fun c hcn w' hb => CN.out _ w' (by
        have := congrArg List.length (otherByte_list t k c)
        simp at this
        have e : (otherByte t k c).size = (otherByte t k c).data.size := rfl
        omega) (by
      cases hg : gOkay (otherByte t k c) with
      | false => rfl
      | true =>
        obtain ⟨B', hB'⟩ := okay_split hg
        exact (spoil_no hsp k hks c hcn hB').elim) hb
    clear hsp hne CN HTW HEW HY HZ
    have y0 : w3.cell? ⟨w1.heap.size, 0, none⟩ = some (.int .i64 a) := (by rw [in_block HK3.out 0]; rfl)
    have y1 : w3.cell? ⟨w1.heap.size, 1, none⟩ = some (.int .i64 b) := (by rw [in_block HK3.out 1]; rfl)
    have y2 : w3.cell? ⟨w1.heap.size, 2, none⟩ = some (.int .i64 c) := (by rw [in_block HK3.out 2]; rfl)
    have y3 : w3.cell? ⟨w1.heap.size, 3, none⟩ = some (.int .i64 d) := (by rw [in_block HK3.out 3]; rfl)
    have y4 : w3.cell? ⟨w1.heap.size, 4, none⟩ = some (.int .i64 e) := (by rw [in_block HK3.out 4]; rfl)
    have y5 : w3.cell? ⟨w1.heap.size, 5, none⟩ = some (.slice o1 V.length c1) := (by rw [in_block HK3.out 5]; rfl)
    have y6 : w3.cell? ⟨w1.heap.size, 6, none⟩ = some (.slice o2 L.length c2) := (by rw [in_block HK3.out 6]; rfl)
    go_wp2_with fail
    refine (CQ.out _ HB3.out).mono ?_
    rintro ee w4 ⟨rfl, hb⟩
    have HB4 := hid (HB3.out.trans (hb.mono HB3.out.size))
    have HK4 : Hid (w4.heap[w1.heap.size]? = some (.cells #[.int .i64 a, .int .i64 b, .int .i64 c, .int .i64 d, .int .i64 e, .slice o1 V.length c1, .slice o2 L.length c2] 26 (0, 0))) := by show _ = _; rw [hb.block _ (Array.getElem?_eq_some_iff.1 HK3.out).1]; exact HK3.out
    clear hb y0 y1 y2 y3 y4 y5 y6
    by_cases hl0 : len1 = 0
    · have hlI : ¬ (0 : Int) < (len1 : Int) := by omega
      clear HCM hl0
      obtain ⟨b8, hb8⟩ : ∃ b8 : UInt8, b8 = 1 := ⟨_, rfl⟩
      have hbx : bits .xor .u8 (t[k].toNat : Int) 1 = ((t[k] ^^^ b8).toNat : Int) := by
        have := u8_xor_nat t[k].toNat 1 t[k].toNat_lt (by decide)
        rw [show (1 : Int) = ((1 : Nat) : Int) from rfl, this, hb8, UInt8.toNat_xor]; rfl
      have hbn : b8 ≠ 0 := by rw [hb8]; decide
      clear hb8
      have hcn : t[k] ^^^ b8 ≠ t[k] := xor_ne _ _ hbn
      obtain ⟨c9, hc9⟩ : ∃ c9, c9 = t[k] ^^^ b8 := ⟨_, rfl⟩
      rw [← hc9] at hbx hcn
      have CX := hid (OTH.out c9 hcn)
      clear hc9 hcn hbn
      go_wp2_with fail
      refine wp_region_any (by kernel_rfl) ?_
      change wpAny _ _ _ _ _ _ _ (World.drew _)
      obtain ⟨w5, hw5⟩ : ∃ w5, w5 = w4.drew := ⟨_, rfl⟩
      rw [← hw5]
      have HB5 : Hid (Below w1.heap.size w1 w5) := by rw [hw5]; exact HB4.out.drew
      clear hw5
      refine take_on 0 (v := ?_) rfl rfl (by kernel_rfl) (by kernel_rfl) (by kernel_rfl) (fun _ _ _ h => h) (by rfl) (fun w => ?_) ?_
      rotate_left
      · (go_simp; try with_reducible rfl)
      simp only [List.setIfInBounds_toArray, List.set_cons_zero, List.set_cons_succ]
      refine take_on 1 (v := ?_) rfl rfl (by kernel_rfl) (by kernel_rfl) (by kernel_rfl) (fun _ _ _ h => h) (by rfl) (fun w => ?_) ?_
      rotate_left
      · (go_simp; try with_reducible rfl)
      simp only [List.setIfInBounds_toArray, List.set_cons_zero, List.set_cons_succ]
      refine take_on 2 (v := ?_) rfl rfl (by kernel_rfl) (by kernel_rfl) (by kernel_rfl) (fun _ _ _ h => h) (by rfl) (fun w => ?_) ?_
      rotate_left
      · (go_simp; try with_reducible rfl)
      simp only [List.setIfInBounds_toArray, List.set_cons_zero, List.set_cons_succ]
      refine take_on 3 (v := ?_) rfl rfl (by kernel_rfl) (by kernel_rfl) (by kernel_rfl) (fun _ _ _ h => h) (by rfl) (fun w => ?_) ?_
      rotate_left
      · (go_simp; try with_reducible rfl)
      simp only [List.setIfInBounds_toArray, List.set_cons_zero, List.set_cons_succ]
      refine take_on 4 (v := ?_) rfl rfl (by kernel_rfl) (by kernel_rfl) (by kernel_rfl) (fun _ _ _ h => h) (by rfl) (fun w => ?_) ?_
      rotate_left
      · (go_simp; try with_reducible rfl)
      simp only [List.setIfInBounds_toArray, List.set_cons_zero, List.set_cons_succ]
      refine take_on 5 (v := ?_) rfl rfl (by kernel_rfl) (by kernel_rfl) (by kernel_rfl) (fun _ _ _ h => h) (by rfl) (fun w => ?_) ?_
      rotate_left
      · (go_simp; try with_reducible rfl)
      simp only [List.setIfInBounds_toArray, List.set_cons_zero, List.set_cons_succ]
      refine take_on 6 (v := ?_) rfl rfl (by kernel_rfl) (by kernel_rfl) (by kernel_rfl) (fun _ _ _ h => h) (by rfl) (fun w => ?_) ?_
      rotate_left
      · (go_simp; try with_reducible rfl)
      simp only [List.setIfInBounds_toArray, List.set_cons_zero, List.set_cons_succ]
      refine take_on 7 (v := .int .u8 (c9.toNat : Int)) rfl rfl (by kernel_rfl) (by kernel_rfl) (by kernel_rfl) (fun _ _ _ h => h) (by rfl) (fun w => ?_) ?_
      · (go_simp; try (rw [hbx]))
      simp only [List.setIfInBounds_toArray, List.set_cons_zero, List.set_cons_succ]
      refine take_on 11 (v := ?_) rfl rfl (by kernel_rfl) (by kernel_rfl) (by kernel_rfl) (fun _ _ _ h => h) (by rfl) (fun w => ?_) ?_
      rotate_left
      · (go_simp; try with_reducible rfl)
      simp only [List.setIfInBounds_toArray, List.set_cons_zero, List.set_cons_succ]
      refine take_on 12 (v := ?_) rfl rfl (by kernel_rfl) (by kernel_rfl) (by kernel_rfl) (fun _ _ _ h => h) (by rfl) (fun w => ?_) ?_
      rotate_left
      · (go_simp; try with_reducible rfl)
      simp only [List.setIfInBounds_toArray, List.set_cons_zero, List.set_cons_succ]
      refine take_on 13 (v := .int .i64 ((k : Int) + 1)) rfl rfl (by kernel_rfl) (by kernel_rfl) (by kernel_rfl) (fun _ _ _ h => h) (by rfl) (fun w => ?_) ?_
      · (go_simp; try (rw [hwr]))
      simp only [List.setIfInBounds_toArray, List.set_cons_zero, List.set_cons_succ]
      refine take_on 14 (v := .string (t.extract (k + 1) t.size)) rfl rfl (by kernel_rfl) (by kernel_rfl) (by kernel_rfl) (fun _ _ _ h => h) (by rfl) (fun w => ?_) ?_
      · (go_simp; (intro hh; have := hh (by omega); omega))
      simp only [List.setIfInBounds_toArray, List.set_cons_zero, List.set_cons_succ]
      refine wpAny_ready (rs := [8, 20]) (by kernel_rfl) (by simp) (AllReady.cons rfl (fun K hK => ?_) (AllReady.cons rfl (fun K hK => ?_) AllReady.nil))
      · go_simp
        obtain ⟨w6, hw6⟩ : ∃ w6, w6 = w5.alloc (.cells #[.int .u8 (c9.toNat : Int)] 5) := ⟨_, rfl⟩
        rw [← hw6]
        have hal : Below w5.heap.size w5 w6 := by rw [hw6]; exact (Below.refl _ _).alloc (Nat.le_refl _) _
        have HB6 := hid (HB5.out.trans (hal.mono HB5.out.size))
        have HC6 : Hid (w6.cell? ⟨w5.heap.size, 0, none⟩ = some (.int .u8 (c9.toNat : Int))) := by rw [hw6]; show _ = _; simp
        clear hal hw6
        refine hK _ _ ?_
        clear hK K
        refine wpAny_ready (rs := [9, 20]) (by kernel_rfl) (by simp) (AllReady.cons rfl (fun K hK => ?_) (AllReady.cons rfl (fun K hK => ?_) AllReady.nil))
        · have hcv := conv2 w6 w5.heap.size c9 HC6.out
          go_simp
          refine hK _ _ ?_
          clear hK K hcv
          have hb1 := fun W => run_string_add_sum (P := Tryd.prog) (w := W) (t.extract 0 k) ⟨#[c9]⟩ (by rw [ByteArray.size_extract, sz1']; omega)
          have hb2 := fun W => run_string_add_sum (P := Tryd.prog) (w := W) (t.extract 0 k ++ ⟨#[c9]⟩) (t.extract (k + 1) t.size) (by rw [ByteArray.size_append, ByteArray.size_extract, ByteArray.size_extract, sz1']; omega)
          refine take_on 10 (v := ?_) rfl rfl (by kernel_rfl) (by kernel_rfl) (by kernel_rfl) (fun _ _ _ h => h) (by rfl) (fun w => ?_) ?_
          rotate_left
          · (go_simp; try with_reducible rfl)
          simp only [List.setIfInBounds_toArray, List.set_cons_zero, List.set_cons_succ]
          refine take_on 15 (v := .string (otherByte t k c9)) rfl rfl (by kernel_rfl) (by kernel_rfl) (by kernel_rfl) (fun _ _ _ h => h) (by rfl) (fun w => ?_) ?_
          · (go_simp; rfl)
          simp only [List.setIfInBounds_toArray, List.set_cons_zero, List.set_cons_succ]
          clear hb1 hb2
          refine wpAny_ready (rs := [16, 20]) (by kernel_rfl) (by simp) (AllReady.cons rfl (fun K hK => ?_) (AllReady.cons rfl (fun K hK => ?_) AllReady.nil))
          · go_simp
            go_wp2_with fail
            refine (CX.out _ HB6.out).mono ?_
            rintro ee w7 ⟨rfl, hb⟩
            have HB7 := hid (HB6.out.trans (hb.mono HB6.out.size))
            clear hb
            refine hK _ _ ?_
            clear hK K
            refine take_on 17 (v := ?_) rfl rfl (by kernel_rfl) (by kernel_rfl) (by kernel_rfl) (fun _ _ _ h => h) (by rfl) (fun w => ?_) ?_
            rotate_left
            · (go_simp; try with_reducible rfl)
            simp only [List.setIfInBounds_toArray, List.set_cons_zero, List.set_cons_succ]
            refine take_on 18 (v := ?_) rfl rfl (by kernel_rfl) (by kernel_rfl) (by kernel_rfl) (fun _ _ _ h => h) (by rfl) (fun w => ?_) ?_
            rotate_left
            · (go_simp; try with_reducible rfl)
            simp only [List.setIfInBounds_toArray, List.set_cons_zero, List.set_cons_succ]
            refine take_on 19 (v := ?_) rfl rfl (by kernel_rfl) (by kernel_rfl) (by kernel_rfl) (fun _ _ _ h => h) (by rfl) (fun w => ?_) ?_
            rotate_left
            · (go_simp; try with_reducible rfl)
            simp only [List.setIfInBounds_toArray, List.set_cons_zero, List.set_cons_succ]
            refine wpAny_ready (rs := [20]) (by kernel_rfl) (by simp) (AllReady.cons rfl (fun K hK => ?_) AllReady.nil)
            go_simp
            obtain ⟨w8, hw8⟩ : ∃ w8, w8 = w7.alloc (.cells #[.int .i64 0, .int .i64 0, .int .i64 0, .int .i64 0, .int .i64 0, .slice none 0 0, .slice none 0 0] 26) := ⟨_, rfl⟩
            rw [← hw8]
            have hal : Below w7.heap.size w7 w8 := by rw [hw8]; exact (Below.refl _ _).alloc (Nat.le_refl _) _
            have HB8 := hid (HB7.out.trans (hal.mono HB7.out.size))
            have HX8 : Hid (w8.heap[w7.heap.size]? = some (.cells #[.int .i64 0, .int .i64 0, .int .i64 0, .int .i64 0, .int .i64 0, .slice none 0 0, .slice none 0 0] 26 (0, 0))) := by rw [hw8]; exact alloc_new _ _
            clear hal hw8
            refine hK _ _ ?_
            clear hK K
            refine wpAny_ready (rs := [21]) (by kernel_rfl) (by simp) (AllReady.cons rfl (fun K hK => ?_) AllReady.nil)
            have z0 : w8.cell? ⟨w7.heap.size, 0, none⟩ = some (.int .i64 0) := by rw [in_block HX8.out 0]; rfl
            have z1 : w8.cell? ⟨w7.heap.size, 1, none⟩ = some (.int .i64 0) := by rw [in_block HX8.out 1]; rfl
            have z2 : w8.cell? ⟨w7.heap.size, 2, none⟩ = some (.int .i64 0) := by rw [in_block HX8.out 2]; rfl
            have z3 : w8.cell? ⟨w7.heap.size, 3, none⟩ = some (.int .i64 0) := by rw [in_block HX8.out 3]; rfl
            have z4 : w8.cell? ⟨w7.heap.size, 4, none⟩ = some (.int .i64 0) := by rw [in_block HX8.out 4]; rfl
            have z5 : w8.cell? ⟨w7.heap.size, 5, none⟩ = some (.slice none 0 0) := by rw [in_block HX8.out 5]; rfl
            have z6 : w8.cell? ⟨w7.heap.size, 6, none⟩ = some (.slice none 0 0) := by rw [in_block HX8.out 6]; rfl
            have fz0 : w8.frozen? ⟨w7.heap.size, 0, none⟩ = false := free_block HX8.out 0
            have fz1 : w8.frozen? ⟨w7.heap.size, 1, none⟩ = false := free_block HX8.out 1
            have fz2 : w8.frozen? ⟨w7.heap.size, 2, none⟩ = false := free_block HX8.out 2
            have fz3 : w8.frozen? ⟨w7.heap.size, 3, none⟩ = false := free_block HX8.out 3
            have fz4 : w8.frozen? ⟨w7.heap.size, 4, none⟩ = false := free_block HX8.out 4
            have fz5 : w8.frozen? ⟨w7.heap.size, 5, none⟩ = false := free_block HX8.out 5
            have fz6 : w8.frozen? ⟨w7.heap.size, 6, none⟩ = false := free_block HX8.out 6
            go_simp
            obtain ⟨w20, hw20⟩ : ∃ w20, w20 = (((((((w8.setCell ⟨w7.heap.size, 0, none⟩ (.int .i64 0)).setCell ⟨w7.heap.size, 1, none⟩ (.int .i64 0)).setCell ⟨w7.heap.size, 2, none⟩ (.int .i64 0)).setCell ⟨w7.heap.size, 3, none⟩ (.int .i64 0)).setCell ⟨w7.heap.size, 4, none⟩ (.int .i64 0)).setCell ⟨w7.heap.size, 5, none⟩ (.slice none 0 0)).setCell ⟨w7.heap.size, 6, none⟩ (.slice none 0 0)) := ⟨_, rfl⟩
            rw [← hw20]
            have HB20 : Hid (Below w1.heap.size w1 w20) := by rw [hw20]; exact (((((((HB8.out).setCell (p := ⟨w7.heap.size, 0, none⟩) HB7.out.size (.int .i64 0)).setCell (p := ⟨w7.heap.size, 1, none⟩) HB7.out.size (.int .i64 0)).setCell (p := ⟨w7.heap.size, 2, none⟩) HB7.out.size (.int .i64 0)).setCell (p := ⟨w7.heap.size, 3, none⟩) HB7.out.size (.int .i64 0)).setCell (p := ⟨w7.heap.size, 4, none⟩) HB7.out.size (.int .i64 0)).setCell (p := ⟨w7.heap.size, 5, none⟩) HB7.out.size (.slice none 0 0)).setCell (p := ⟨w7.heap.size, 6, none⟩) HB7.out.size (.slice none 0 0)
            clear hw20 z0 fz0 z1 fz1 z2 fz2 z3 fz3 z4 fz4 z5 fz5 z6 fz6
            refine hK _ _ ?_
            clear hK K
            refine take_on 22 (v := ?_) rfl rfl (by kernel_rfl) (by kernel_rfl) (by kernel_rfl) (fun _ _ _ h => h) (by rfl) (fun w => ?_) ?_
            rotate_left
            · (go_simp; try with_reducible rfl)
            simp only [List.setIfInBounds_toArray, List.set_cons_zero, List.set_cons_succ]
            refine wpAny_done (by kernel_rfl) ?_ _
            go_wp2_with fail
            refine (CUT.out _ HB20.out).mono ?_
            rintro ee w21 ⟨rfl, hb⟩
            have HB21 := hid (HB20.out.trans (hb.mono HB20.out.size))
            clear hb
            go_wp2
            go_ret
            exact ⟨rfl, HB.out.trans ((HB21.out.alloc HB21.out.size _).mono HB.out.size)⟩
          · go_simp
            obtain ⟨w7, hw7⟩ : ∃ w7, w7 = w6.alloc (.cells #[.int .i64 0, .int .i64 0, .int .i64 0, .int .i64 0, .int .i64 0, .slice none 0 0, .slice none 0 0] 26) := ⟨_, rfl⟩
            rw [← hw7]
            have hal : Below w6.heap.size w6 w7 := by rw [hw7]; exact (Below.refl _ _).alloc (Nat.le_refl _) _
            have HB7 := hid (HB6.out.trans (hal.mono HB6.out.size))
            have HX7 : Hid (w7.heap[w6.heap.size]? = some (.cells #[.int .i64 0, .int .i64 0, .int .i64 0, .int .i64 0, .int .i64 0, .slice none 0 0, .slice none 0 0] 26 (0, 0))) := by rw [hw7]; exact alloc_new _ _
            clear hal hw7
            refine hK _ _ ?_
            clear hK K
            refine wpAny_ready (rs := [16]) (by kernel_rfl) (by simp) (AllReady.cons rfl (fun K hK => ?_) AllReady.nil)
            go_simp
            go_wp2_with fail
            refine (CX.out _ HB7.out).mono ?_
            rintro ee w8 ⟨rfl, hb⟩
            have HB8 := hid (HB7.out.trans (hb.mono HB7.out.size))
            have HX8 : Hid (w8.heap[w6.heap.size]? = some (.cells #[.int .i64 0, .int .i64 0, .int .i64 0, .int .i64 0, .int .i64 0, .slice none 0 0, .slice none 0 0] 26 (0, 0))) := by show _ = _; rw [hb.block _ (Array.getElem?_eq_some_iff.1 HX7.out).1]; exact HX7.out
            clear hb
            refine hK _ _ ?_
            clear hK K
            refine take_on 17 (v := ?_) rfl rfl (by kernel_rfl) (by kernel_rfl) (by kernel_rfl) (fun _ _ _ h => h) (by rfl) (fun w => ?_) ?_
            rotate_left
            · (go_simp; try with_reducible rfl)
            simp only [List.setIfInBounds_toArray, List.set_cons_zero, List.set_cons_succ]
            refine take_on 18 (v := ?_) rfl rfl (by kernel_rfl) (by kernel_rfl) (by kernel_rfl) (fun _ _ _ h => h) (by rfl) (fun w => ?_) ?_
            rotate_left
            · (go_simp; try with_reducible rfl)
            simp only [List.setIfInBounds_toArray, List.set_cons_zero, List.set_cons_succ]
            refine take_on 19 (v := ?_) rfl rfl (by kernel_rfl) (by kernel_rfl) (by kernel_rfl) (fun _ _ _ h => h) (by rfl) (fun w => ?_) ?_
            rotate_left
            · (go_simp; try with_reducible rfl)
            simp only [List.setIfInBounds_toArray, List.set_cons_zero, List.set_cons_succ]
            refine wpAny_ready (rs := [21]) (by kernel_rfl) (by simp) (AllReady.cons rfl (fun K hK => ?_) AllReady.nil)
            have z0 : w8.cell? ⟨w6.heap.size, 0, none⟩ = some (.int .i64 0) := by rw [in_block HX8.out 0]; rfl
            have z1 : w8.cell? ⟨w6.heap.size, 1, none⟩ = some (.int .i64 0) := by rw [in_block HX8.out 1]; rfl
            have z2 : w8.cell? ⟨w6.heap.size, 2, none⟩ = some (.int .i64 0) := by rw [in_block HX8.out 2]; rfl
            have z3 : w8.cell? ⟨w6.heap.size, 3, none⟩ = some (.int .i64 0) := by rw [in_block HX8.out 3]; rfl
            have z4 : w8.cell? ⟨w6.heap.size, 4, none⟩ = some (.int .i64 0) := by rw [in_block HX8.out 4]; rfl
            have z5 : w8.cell? ⟨w6.heap.size, 5, none⟩ = some (.slice none 0 0) := by rw [in_block HX8.out 5]; rfl
            have z6 : w8.cell? ⟨w6.heap.size, 6, none⟩ = some (.slice none 0 0) := by rw [in_block HX8.out 6]; rfl
            have fz0 : w8.frozen? ⟨w6.heap.size, 0, none⟩ = false := free_block HX8.out 0
            have fz1 : w8.frozen? ⟨w6.heap.size, 1, none⟩ = false := free_block HX8.out 1
            have fz2 : w8.frozen? ⟨w6.heap.size, 2, none⟩ = false := free_block HX8.out 2
            have fz3 : w8.frozen? ⟨w6.heap.size, 3, none⟩ = false := free_block HX8.out 3
            have fz4 : w8.frozen? ⟨w6.heap.size, 4, none⟩ = false := free_block HX8.out 4
            have fz5 : w8.frozen? ⟨w6.heap.size, 5, none⟩ = false := free_block HX8.out 5
            have fz6 : w8.frozen? ⟨w6.heap.size, 6, none⟩ = false := free_block HX8.out 6
            go_simp
            obtain ⟨w20, hw20⟩ : ∃ w20, w20 = (((((((w8.setCell ⟨w6.heap.size, 0, none⟩ (.int .i64 0)).setCell ⟨w6.heap.size, 1, none⟩ (.int .i64 0)).setCell ⟨w6.heap.size, 2, none⟩ (.int .i64 0)).setCell ⟨w6.heap.size, 3, none⟩ (.int .i64 0)).setCell ⟨w6.heap.size, 4, none⟩ (.int .i64 0)).setCell ⟨w6.heap.size, 5, none⟩ (.slice none 0 0)).setCell ⟨w6.heap.size, 6, none⟩ (.slice none 0 0)) := ⟨_, rfl⟩
            rw [← hw20]
            have HB20 : Hid (Below w1.heap.size w1 w20) := by rw [hw20]; exact (((((((HB8.out).setCell (p := ⟨w6.heap.size, 0, none⟩) HB6.out.size (.int .i64 0)).setCell (p := ⟨w6.heap.size, 1, none⟩) HB6.out.size (.int .i64 0)).setCell (p := ⟨w6.heap.size, 2, none⟩) HB6.out.size (.int .i64 0)).setCell (p := ⟨w6.heap.size, 3, none⟩) HB6.out.size (.int .i64 0)).setCell (p := ⟨w6.heap.size, 4, none⟩) HB6.out.size (.int .i64 0)).setCell (p := ⟨w6.heap.size, 5, none⟩) HB6.out.size (.slice none 0 0)).setCell (p := ⟨w6.heap.size, 6, none⟩) HB6.out.size (.slice none 0 0)
            clear hw20 z0 fz0 z1 fz1 z2 fz2 z3 fz3 z4 fz4 z5 fz5 z6 fz6
            refine hK _ _ ?_
            clear hK K
            refine take_on 22 (v := ?_) rfl rfl (by kernel_rfl) (by kernel_rfl) (by kernel_rfl) (fun _ _ _ h => h) (by rfl) (fun w => ?_) ?_
            rotate_left
            · (go_simp; try with_reducible rfl)
            simp only [List.setIfInBounds_toArray, List.set_cons_zero, List.set_cons_succ]
            refine wpAny_done (by kernel_rfl) ?_ _
            go_wp2_with fail
            refine (CUT.out _ HB20.out).mono ?_
            rintro ee w21 ⟨rfl, hb⟩
            have HB21 := hid (HB20.out.trans (hb.mono HB20.out.size))
            clear hb
            go_wp2
            go_ret
            exact ⟨rfl, HB.out.trans ((HB21.out.alloc HB21.out.size _).mono HB.out.size)⟩
        · go_simp
          obtain ⟨w7, hw7⟩ : ∃ w7, w7 = w6.alloc (.cells #[.int .i64 0, .int .i64 0, .int .i64 0, .int .i64 0, .int .i64 0, .slice none 0 0, .slice none 0 0] 26) := ⟨_, rfl⟩
          rw [← hw7]
          have hal : Below w6.heap.size w6 w7 := by rw [hw7]; exact (Below.refl _ _).alloc (Nat.le_refl _) _
          have HB7 := hid (HB6.out.trans (hal.mono HB6.out.size))
          have HC7 : Hid (w7.cell? ⟨w5.heap.size, 0, none⟩ = some (.int .u8 (c9.toNat : Int))) := by show _ = _; rw [hal.cell (p := ⟨w5.heap.size, 0, none⟩) (World.block_lt_of_cell? _ _ HC6.out)]; exact HC6.out
          have HX7 : Hid (w7.heap[w6.heap.size]? = some (.cells #[.int .i64 0, .int .i64 0, .int .i64 0, .int .i64 0, .int .i64 0, .slice none 0 0, .slice none 0 0] 26 (0, 0))) := by rw [hw7]; exact alloc_new _ _
          clear hal hw7
          refine hK _ _ ?_
          clear hK K
          refine wpAny_ready (rs := [9]) (by kernel_rfl) (by simp) (AllReady.cons rfl (fun K hK => ?_) AllReady.nil)
          have hcv := conv2 w7 w5.heap.size c9 HC7.out
          go_simp
          refine hK _ _ ?_
          clear hK K hcv
          have hb1 := fun W => run_string_add_sum (P := Tryd.prog) (w := W) (t.extract 0 k) ⟨#[c9]⟩ (by rw [ByteArray.size_extract, sz1']; omega)
          have hb2 := fun W => run_string_add_sum (P := Tryd.prog) (w := W) (t.extract 0 k ++ ⟨#[c9]⟩) (t.extract (k + 1) t.size) (by rw [ByteArray.size_append, ByteArray.size_extract, ByteArray.size_extract, sz1']; omega)
          refine take_on 10 (v := ?_) rfl rfl (by kernel_rfl) (by kernel_rfl) (by kernel_rfl) (fun _ _ _ h => h) (by rfl) (fun w => ?_) ?_
          rotate_left
          · (go_simp; try with_reducible rfl)
          simp only [List.setIfInBounds_toArray, List.set_cons_zero, List.set_cons_succ]
          refine take_on 15 (v := .string (otherByte t k c9)) rfl rfl (by kernel_rfl) (by kernel_rfl) (by kernel_rfl) (fun _ _ _ h => h) (by rfl) (fun w => ?_) ?_
          · (go_simp; rfl)
          simp only [List.setIfInBounds_toArray, List.set_cons_zero, List.set_cons_succ]
          clear hb1 hb2
          refine wpAny_ready (rs := [16]) (by kernel_rfl) (by simp) (AllReady.cons rfl (fun K hK => ?_) AllReady.nil)
          go_simp
          go_wp2_with fail
          refine (CX.out _ HB7.out).mono ?_
          rintro ee w8 ⟨rfl, hb⟩
          have HB8 := hid (HB7.out.trans (hb.mono HB7.out.size))
          have HX8 : Hid (w8.heap[w6.heap.size]? = some (.cells #[.int .i64 0, .int .i64 0, .int .i64 0, .int .i64 0, .int .i64 0, .slice none 0 0, .slice none 0 0] 26 (0, 0))) := by show _ = _; rw [hb.block _ (Array.getElem?_eq_some_iff.1 HX7.out).1]; exact HX7.out
          clear hb
          refine hK _ _ ?_
          clear hK K
          refine take_on 17 (v := ?_) rfl rfl (by kernel_rfl) (by kernel_rfl) (by kernel_rfl) (fun _ _ _ h => h) (by rfl) (fun w => ?_) ?_
          rotate_left
          · (go_simp; try with_reducible rfl)
          simp only [List.setIfInBounds_toArray, List.set_cons_zero, List.set_cons_succ]
          refine take_on 18 (v := ?_) rfl rfl (by kernel_rfl) (by kernel_rfl) (by kernel_rfl) (fun _ _ _ h => h) (by rfl) (fun w => ?_) ?_
          rotate_left
          · (go_simp; try with_reducible rfl)
          simp only [List.setIfInBounds_toArray, List.set_cons_zero, List.set_cons_succ]
          refine take_on 19 (v := ?_) rfl rfl (by kernel_rfl) (by kernel_rfl) (by kernel_rfl) (fun _ _ _ h => h) (by rfl) (fun w => ?_) ?_
          rotate_left
          · (go_simp; try with_reducible rfl)
          simp only [List.setIfInBounds_toArray, List.set_cons_zero, List.set_cons_succ]
          refine wpAny_ready (rs := [21]) (by kernel_rfl) (by simp) (AllReady.cons rfl (fun K hK => ?_) AllReady.nil)
          have z0 : w8.cell? ⟨w6.heap.size, 0, none⟩ = some (.int .i64 0) := by rw [in_block HX8.out 0]; rfl
          have z1 : w8.cell? ⟨w6.heap.size, 1, none⟩ = some (.int .i64 0) := by rw [in_block HX8.out 1]; rfl
          have z2 : w8.cell? ⟨w6.heap.size, 2, none⟩ = some (.int .i64 0) := by rw [in_block HX8.out 2]; rfl
          have z3 : w8.cell? ⟨w6.heap.size, 3, none⟩ = some (.int .i64 0) := by rw [in_block HX8.out 3]; rfl
          have z4 : w8.cell? ⟨w6.heap.size, 4, none⟩ = some (.int .i64 0) := by rw [in_block HX8.out 4]; rfl
          have z5 : w8.cell? ⟨w6.heap.size, 5, none⟩ = some (.slice none 0 0) := by rw [in_block HX8.out 5]; rfl
          have z6 : w8.cell? ⟨w6.heap.size, 6, none⟩ = some (.slice none 0 0) := by rw [in_block HX8.out 6]; rfl
          have fz0 : w8.frozen? ⟨w6.heap.size, 0, none⟩ = false := free_block HX8.out 0
          have fz1 : w8.frozen? ⟨w6.heap.size, 1, none⟩ = false := free_block HX8.out 1
          have fz2 : w8.frozen? ⟨w6.heap.size, 2, none⟩ = false := free_block HX8.out 2
          have fz3 : w8.frozen? ⟨w6.heap.size, 3, none⟩ = false := free_block HX8.out 3
          have fz4 : w8.frozen? ⟨w6.heap.size, 4, none⟩ = false := free_block HX8.out 4
          have fz5 : w8.frozen? ⟨w6.heap.size, 5, none⟩ = false := free_block HX8.out 5
          have fz6 : w8.frozen? ⟨w6.heap.size, 6, none⟩ = false := free_block HX8.out 6
          go_simp
          obtain ⟨w20, hw20⟩ : ∃ w20, w20 = (((((((w8.setCell ⟨w6.heap.size, 0, none⟩ (.int .i64 0)).setCell ⟨w6.heap.size, 1, none⟩ (.int .i64 0)).setCell ⟨w6.heap.size, 2, none⟩ (.int .i64 0)).setCell ⟨w6.heap.size, 3, none⟩ (.int .i64 0)).setCell ⟨w6.heap.size, 4, none⟩ (.int .i64 0)).setCell ⟨w6.heap.size, 5, none⟩ (.slice none 0 0)).setCell ⟨w6.heap.size, 6, none⟩ (.slice none 0 0)) := ⟨_, rfl⟩
          rw [← hw20]
          have HB20 : Hid (Below w1.heap.size w1 w20) := by rw [hw20]; exact (((((((HB8.out).setCell (p := ⟨w6.heap.size, 0, none⟩) HB6.out.size (.int .i64 0)).setCell (p := ⟨w6.heap.size, 1, none⟩) HB6.out.size (.int .i64 0)).setCell (p := ⟨w6.heap.size, 2, none⟩) HB6.out.size (.int .i64 0)).setCell (p := ⟨w6.heap.size, 3, none⟩) HB6.out.size (.int .i64 0)).setCell (p := ⟨w6.heap.size, 4, none⟩) HB6.out.size (.int .i64 0)).setCell (p := ⟨w6.heap.size, 5, none⟩) HB6.out.size (.slice none 0 0)).setCell (p := ⟨w6.heap.size, 6, none⟩) HB6.out.size (.slice none 0 0)
          clear hw20 z0 fz0 z1 fz1 z2 fz2 z3 fz3 z4 fz4 z5 fz5 z6 fz6
          refine hK _ _ ?_
          clear hK K
          refine take_on 22 (v := ?_) rfl rfl (by kernel_rfl) (by kernel_rfl) (by kernel_rfl) (fun _ _ _ h => h) (by rfl) (fun w => ?_) ?_
          rotate_left
          · (go_simp; try with_reducible rfl)
          simp only [List.setIfInBounds_toArray, List.set_cons_zero, List.set_cons_succ]
          refine wpAny_done (by kernel_rfl) ?_ _
          go_wp2_with fail
          refine (CUT.out _ HB20.out).mono ?_
          rintro ee w21 ⟨rfl, hb⟩
          have HB21 := hid (HB20.out.trans (hb.mono HB20.out.size))
          clear hb
          go_wp2
          go_ret
          exact ⟨rfl, HB.out.trans ((HB21.out.alloc HB21.out.size _).mono HB.out.size)⟩
      · go_simp
        obtain ⟨w6, hw6⟩ : ∃ w6, w6 = w5.alloc (.cells #[.int .i64 0, .int .i64 0, .int .i64 0, .int .i64 0, .int .i64 0, .slice none 0 0, .slice none 0 0] 26) := ⟨_, rfl⟩
        rw [← hw6]
        have hal : Below w5.heap.size w5 w6 := by rw [hw6]; exact (Below.refl _ _).alloc (Nat.le_refl _) _
        have HB6 := hid (HB5.out.trans (hal.mono HB5.out.size))
        have HX6 : Hid (w6.heap[w5.heap.size]? = some (.cells #[.int .i64 0, .int .i64 0, .int .i64 0, .int .i64 0, .int .i64 0, .slice none 0 0, .slice none 0 0] 26 (0, 0))) := by rw [hw6]; exact alloc_new _ _
        clear hal hw6
        refine hK _ _ ?_
        clear hK K
        refine wpAny_ready (rs := [8]) (by kernel_rfl) (by simp) (AllReady.cons rfl (fun K hK => ?_) AllReady.nil)
        go_simp
        obtain ⟨w7, hw7⟩ : ∃ w7, w7 = w6.alloc (.cells #[.int .u8 (c9.toNat : Int)] 5) := ⟨_, rfl⟩
        rw [← hw7]
        have hal : Below w6.heap.size w6 w7 := by rw [hw7]; exact (Below.refl _ _).alloc (Nat.le_refl _) _
        have HB7 := hid (HB6.out.trans (hal.mono HB6.out.size))
        have HC7 : Hid (w7.cell? ⟨w6.heap.size, 0, none⟩ = some (.int .u8 (c9.toNat : Int))) := by rw [hw7]; show _ = _; simp
        have HX7 : Hid (w7.heap[w5.heap.size]? = some (.cells #[.int .i64 0, .int .i64 0, .int .i64 0, .int .i64 0, .int .i64 0, .slice none 0 0, .slice none 0 0] 26 (0, 0))) := by rw [hw7]; exact alloc_keep HX6.out
        clear hal hw7
        refine hK _ _ ?_
        clear hK K
        refine wpAny_ready (rs := [9]) (by kernel_rfl) (by simp) (AllReady.cons rfl (fun K hK => ?_) AllReady.nil)
        have hcv := conv2 w7 w6.heap.size c9 HC7.out
        go_simp
        refine hK _ _ ?_
        clear hK K hcv
        have hb1 := fun W => run_string_add_sum (P := Tryd.prog) (w := W) (t.extract 0 k) ⟨#[c9]⟩ (by rw [ByteArray.size_extract, sz1']; omega)
        have hb2 := fun W => run_string_add_sum (P := Tryd.prog) (w := W) (t.extract 0 k ++ ⟨#[c9]⟩) (t.extract (k + 1) t.size) (by rw [ByteArray.size_append, ByteArray.size_extract, ByteArray.size_extract, sz1']; omega)
        refine take_on 10 (v := ?_) rfl rfl (by kernel_rfl) (by kernel_rfl) (by kernel_rfl) (fun _ _ _ h => h) (by rfl) (fun w => ?_) ?_
        rotate_left
        · (go_simp; try with_reducible rfl)
        simp only [List.setIfInBounds_toArray, List.set_cons_zero, List.set_cons_succ]
        refine take_on 15 (v := .string (otherByte t k c9)) rfl rfl (by kernel_rfl) (by kernel_rfl) (by kernel_rfl) (fun _ _ _ h => h) (by rfl) (fun w => ?_) ?_
        · (go_simp; rfl)
        simp only [List.setIfInBounds_toArray, List.set_cons_zero, List.set_cons_succ]
        clear hb1 hb2
        refine wpAny_ready (rs := [16]) (by kernel_rfl) (by simp) (AllReady.cons rfl (fun K hK => ?_) AllReady.nil)
        go_simp
        go_wp2_with fail
        refine (CX.out _ HB7.out).mono ?_
        rintro ee w8 ⟨rfl, hb⟩
        have HB8 := hid (HB7.out.trans (hb.mono HB7.out.size))
        have HX8 : Hid (w8.heap[w5.heap.size]? = some (.cells #[.int .i64 0, .int .i64 0, .int .i64 0, .int .i64 0, .int .i64 0, .slice none 0 0, .slice none 0 0] 26 (0, 0))) := by show _ = _; rw [hb.block _ (Array.getElem?_eq_some_iff.1 HX7.out).1]; exact HX7.out
        clear hb
        refine hK _ _ ?_
        clear hK K
        refine take_on 17 (v := ?_) rfl rfl (by kernel_rfl) (by kernel_rfl) (by kernel_rfl) (fun _ _ _ h => h) (by rfl) (fun w => ?_) ?_
        rotate_left
        · (go_simp; try with_reducible rfl)
        simp only [List.setIfInBounds_toArray, List.set_cons_zero, List.set_cons_succ]
        refine take_on 18 (v := ?_) rfl rfl (by kernel_rfl) (by kernel_rfl) (by kernel_rfl) (fun _ _ _ h => h) (by rfl) (fun w => ?_) ?_
        rotate_left
        · (go_simp; try with_reducible rfl)
        simp only [List.setIfInBounds_toArray, List.set_cons_zero, List.set_cons_succ]
        refine take_on 19 (v := ?_) rfl rfl (by kernel_rfl) (by kernel_rfl) (by kernel_rfl) (fun _ _ _ h => h) (by rfl) (fun w => ?_) ?_
        rotate_left
        · (go_simp; try with_reducible rfl)
        simp only [List.setIfInBounds_toArray, List.set_cons_zero, List.set_cons_succ]
        refine wpAny_ready (rs := [21]) (by kernel_rfl) (by simp) (AllReady.cons rfl (fun K hK => ?_) AllReady.nil)
        have z0 : w8.cell? ⟨w5.heap.size, 0, none⟩ = some (.int .i64 0) := by rw [in_block HX8.out 0]; rfl
        have z1 : w8.cell? ⟨w5.heap.size, 1, none⟩ = some (.int .i64 0) := by rw [in_block HX8.out 1]; rfl
        have z2 : w8.cell? ⟨w5.heap.size, 2, none⟩ = some (.int .i64 0) := by rw [in_block HX8.out 2]; rfl
        have z3 : w8.cell? ⟨w5.heap.size, 3, none⟩ = some (.int .i64 0) := by rw [in_block HX8.out 3]; rfl
        have z4 : w8.cell? ⟨w5.heap.size, 4, none⟩ = some (.int .i64 0) := by rw [in_block HX8.out 4]; rfl
        have z5 : w8.cell? ⟨w5.heap.size, 5, none⟩ = some (.slice none 0 0) := by rw [in_block HX8.out 5]; rfl
        have z6 : w8.cell? ⟨w5.heap.size, 6, none⟩ = some (.slice none 0 0) := by rw [in_block HX8.out 6]; rfl
        have fz0 : w8.frozen? ⟨w5.heap.size, 0, none⟩ = false := free_block HX8.out 0
        have fz1 : w8.frozen? ⟨w5.heap.size, 1, none⟩ = false := free_block HX8.out 1
        have fz2 : w8.frozen? ⟨w5.heap.size, 2, none⟩ = false := free_block HX8.out 2
        have fz3 : w8.frozen? ⟨w5.heap.size, 3, none⟩ = false := free_block HX8.out 3
        have fz4 : w8.frozen? ⟨w5.heap.size, 4, none⟩ = false := free_block HX8.out 4
        have fz5 : w8.frozen? ⟨w5.heap.size, 5, none⟩ = false := free_block HX8.out 5
        have fz6 : w8.frozen? ⟨w5.heap.size, 6, none⟩ = false := free_block HX8.out 6
        go_simp
        obtain ⟨w20, hw20⟩ : ∃ w20, w20 = (((((((w8.setCell ⟨w5.heap.size, 0, none⟩ (.int .i64 0)).setCell ⟨w5.heap.size, 1, none⟩ (.int .i64 0)).setCell ⟨w5.heap.size, 2, none⟩ (.int .i64 0)).setCell ⟨w5.heap.size, 3, none⟩ (.int .i64 0)).setCell ⟨w5.heap.size, 4, none⟩ (.int .i64 0)).setCell ⟨w5.heap.size, 5, none⟩ (.slice none 0 0)).setCell ⟨w5.heap.size, 6, none⟩ (.slice none 0 0)) := ⟨_, rfl⟩
        rw [← hw20]
        have HB20 : Hid (Below w1.heap.size w1 w20) := by rw [hw20]; exact (((((((HB8.out).setCell (p := ⟨w5.heap.size, 0, none⟩) HB5.out.size (.int .i64 0)).setCell (p := ⟨w5.heap.size, 1, none⟩) HB5.out.size (.int .i64 0)).setCell (p := ⟨w5.heap.size, 2, none⟩) HB5.out.size (.int .i64 0)).setCell (p := ⟨w5.heap.size, 3, none⟩) HB5.out.size (.int .i64 0)).setCell (p := ⟨w5.heap.size, 4, none⟩) HB5.out.size (.int .i64 0)).setCell (p := ⟨w5.heap.size, 5, none⟩) HB5.out.size (.slice none 0 0)).setCell (p := ⟨w5.heap.size, 6, none⟩) HB5.out.size (.slice none 0 0)
        clear hw20 z0 fz0 z1 fz1 z2 fz2 z3 fz3 z4 fz4 z5 fz5 z6 fz6
        refine hK _ _ ?_
        clear hK K
        refine take_on 22 (v := ?_) rfl rfl (by kernel_rfl) (by kernel_rfl) (by kernel_rfl) (fun _ _ _ h => h) (by rfl) (fun w => ?_) ?_
        rotate_left
        · (go_simp; try with_reducible rfl)
        simp only [List.setIfInBounds_toArray, List.set_cons_zero, List.set_cons_succ]
        refine wpAny_done (by kernel_rfl) ?_ _
        go_wp2_with fail
        refine (CUT.out _ HB20.out).mono ?_
        rintro ee w21 ⟨rfl, hb⟩
        have HB21 := hid (HB20.out.trans (hb.mono HB20.out.size))
        clear hb
        go_wp2
        go_ret
        exact ⟨rfl, HB.out.trans ((HB21.out.alloc HB21.out.size _).mono HB.out.size)⟩
    · have hlp : (0 : Int) < (len1 : Int) := by omega
      obtain ⟨bb, bo, bx, rfl, hbl, hbc, hb0, hb255⟩ := HCM.out 0 (by omega)
      have yb : w4.cell? ⟨bb, bo, none⟩ = some (.int .u8 bx) := by rw [HB4.out.cell (p := ⟨bb, bo, none⟩) hbl]; simpa using hbc
      clear HCM hbc hbl
      by_cases hbp : 0 < bx
      · obtain ⟨b8, rfl⟩ : ∃ b8 : UInt8, bx = (b8.toNat : Int) := ⟨UInt8.ofNat bx.toNat, by rw [UInt8.toNat_ofNat', Nat.mod_eq_of_lt (by omega)]; omega⟩
        have hbx : bits .xor .u8 (t[k].toNat : Int) (b8.toNat : Int) = ((t[k] ^^^ b8).toNat : Int) := by
          rw [u8_xor_nat t[k].toNat b8.toNat t[k].toNat_lt b8.toNat_lt, UInt8.toNat_xor]
        have hbn : b8 ≠ 0 := by rintro rfl; simp at hbp
        have hcn : t[k] ^^^ b8 ≠ t[k] := xor_ne _ _ hbn
        obtain ⟨c9, hc9⟩ : ∃ c9, c9 = t[k] ^^^ b8 := ⟨_, rfl⟩
        rw [← hc9] at hbx hcn
        have CX := hid (OTH.out c9 hcn)
        clear hc9 hcn hbn
        go_wp2_with fail
        refine wp_region_any (by kernel_rfl) ?_
        change wpAny _ _ _ _ _ _ _ (World.drew _)
        obtain ⟨w5, hw5⟩ : ∃ w5, w5 = w4.drew := ⟨_, rfl⟩
        rw [← hw5]
        have HB5 : Hid (Below w1.heap.size w1 w5) := by rw [hw5]; exact HB4.out.drew
        clear hw5
        refine take_on 0 (v := ?_) rfl rfl (by kernel_rfl) (by kernel_rfl) (by kernel_rfl) (fun _ _ _ h => h) (by rfl) (fun w => ?_) ?_
        rotate_left
        · (go_simp; try with_reducible rfl)
        simp only [List.setIfInBounds_toArray, List.set_cons_zero, List.set_cons_succ]
        refine take_on 1 (v := ?_) rfl rfl (by kernel_rfl) (by kernel_rfl) (by kernel_rfl) (fun _ _ _ h => h) (by rfl) (fun w => ?_) ?_
        rotate_left
        · (go_simp; try with_reducible rfl)
        simp only [List.setIfInBounds_toArray, List.set_cons_zero, List.set_cons_succ]
        refine take_on 2 (v := ?_) rfl rfl (by kernel_rfl) (by kernel_rfl) (by kernel_rfl) (fun _ _ _ h => h) (by rfl) (fun w => ?_) ?_
        rotate_left
        · (go_simp; try with_reducible rfl)
        simp only [List.setIfInBounds_toArray, List.set_cons_zero, List.set_cons_succ]
        refine take_on 3 (v := ?_) rfl rfl (by kernel_rfl) (by kernel_rfl) (by kernel_rfl) (fun _ _ _ h => h) (by rfl) (fun w => ?_) ?_
        rotate_left
        · (go_simp; try with_reducible rfl)
        simp only [List.setIfInBounds_toArray, List.set_cons_zero, List.set_cons_succ]
        refine take_on 4 (v := ?_) rfl rfl (by kernel_rfl) (by kernel_rfl) (by kernel_rfl) (fun _ _ _ h => h) (by rfl) (fun w => ?_) ?_
        rotate_left
        · (go_simp; try with_reducible rfl)
        simp only [List.setIfInBounds_toArray, List.set_cons_zero, List.set_cons_succ]
        refine take_on 5 (v := ?_) rfl rfl (by kernel_rfl) (by kernel_rfl) (by kernel_rfl) (fun _ _ _ h => h) (by rfl) (fun w => ?_) ?_
        rotate_left
        · (go_simp; try with_reducible rfl)
        simp only [List.setIfInBounds_toArray, List.set_cons_zero, List.set_cons_succ]
        refine take_on 6 (v := ?_) rfl rfl (by kernel_rfl) (by kernel_rfl) (by kernel_rfl) (fun _ _ _ h => h) (by rfl) (fun w => ?_) ?_
        rotate_left
        · (go_simp; try with_reducible rfl)
        simp only [List.setIfInBounds_toArray, List.set_cons_zero, List.set_cons_succ]
        refine take_on 7 (v := .int .u8 (c9.toNat : Int)) rfl rfl (by kernel_rfl) (by kernel_rfl) (by kernel_rfl) (fun _ _ _ h => h) (by rfl) (fun w => ?_) ?_
        · (go_simp; try (rw [hbx]))
        simp only [List.setIfInBounds_toArray, List.set_cons_zero, List.set_cons_succ]
        refine take_on 11 (v := ?_) rfl rfl (by kernel_rfl) (by kernel_rfl) (by kernel_rfl) (fun _ _ _ h => h) (by rfl) (fun w => ?_) ?_
        rotate_left
        · (go_simp; try with_reducible rfl)
        simp only [List.setIfInBounds_toArray, List.set_cons_zero, List.set_cons_succ]
        refine take_on 12 (v := ?_) rfl rfl (by kernel_rfl) (by kernel_rfl) (by kernel_rfl) (fun _ _ _ h => h) (by rfl) (fun w => ?_) ?_
        rotate_left
        · (go_simp; try with_reducible rfl)
        simp only [List.setIfInBounds_toArray, List.set_cons_zero, List.set_cons_succ]
        refine take_on 13 (v := .int .i64 ((k : Int) + 1)) rfl rfl (by kernel_rfl) (by kernel_rfl) (by kernel_rfl) (fun _ _ _ h => h) (by rfl) (fun w => ?_) ?_
        · (go_simp; try (rw [hwr]))
        simp only [List.setIfInBounds_toArray, List.set_cons_zero, List.set_cons_succ]
        refine take_on 14 (v := .string (t.extract (k + 1) t.size)) rfl rfl (by kernel_rfl) (by kernel_rfl) (by kernel_rfl) (fun _ _ _ h => h) (by rfl) (fun w => ?_) ?_
        · (go_simp; (intro hh; have := hh (by omega); omega))
        simp only [List.setIfInBounds_toArray, List.set_cons_zero, List.set_cons_succ]
        refine wpAny_ready (rs := [8, 20]) (by kernel_rfl) (by simp) (AllReady.cons rfl (fun K hK => ?_) (AllReady.cons rfl (fun K hK => ?_) AllReady.nil))
        · go_simp
          obtain ⟨w6, hw6⟩ : ∃ w6, w6 = w5.alloc (.cells #[.int .u8 (c9.toNat : Int)] 5) := ⟨_, rfl⟩
          rw [← hw6]
          have hal : Below w5.heap.size w5 w6 := by rw [hw6]; exact (Below.refl _ _).alloc (Nat.le_refl _) _
          have HB6 := hid (HB5.out.trans (hal.mono HB5.out.size))
          have HC6 : Hid (w6.cell? ⟨w5.heap.size, 0, none⟩ = some (.int .u8 (c9.toNat : Int))) := by rw [hw6]; show _ = _; simp
          clear hal hw6
          refine hK _ _ ?_
          clear hK K
          refine wpAny_ready (rs := [9, 20]) (by kernel_rfl) (by simp) (AllReady.cons rfl (fun K hK => ?_) (AllReady.cons rfl (fun K hK => ?_) AllReady.nil))
          · have hcv := conv2 w6 w5.heap.size c9 HC6.out
            go_simp
            refine hK _ _ ?_
            clear hK K hcv
            have hb1 := fun W => run_string_add_sum (P := Tryd.prog) (w := W) (t.extract 0 k) ⟨#[c9]⟩ (by rw [ByteArray.size_extract, sz1']; omega)
            have hb2 := fun W => run_string_add_sum (P := Tryd.prog) (w := W) (t.extract 0 k ++ ⟨#[c9]⟩) (t.extract (k + 1) t.size) (by rw [ByteArray.size_append, ByteArray.size_extract, ByteArray.size_extract, sz1']; omega)
            refine take_on 10 (v := ?_) rfl rfl (by kernel_rfl) (by kernel_rfl) (by kernel_rfl) (fun _ _ _ h => h) (by rfl) (fun w => ?_) ?_
            rotate_left
            · (go_simp; try with_reducible rfl)
            simp only [List.setIfInBounds_toArray, List.set_cons_zero, List.set_cons_succ]
            refine take_on 15 (v := .string (otherByte t k c9)) rfl rfl (by kernel_rfl) (by kernel_rfl) (by kernel_rfl) (fun _ _ _ h => h) (by rfl) (fun w => ?_) ?_
            · (go_simp; rfl)
            simp only [List.setIfInBounds_toArray, List.set_cons_zero, List.set_cons_succ]
            clear hb1 hb2
            refine wpAny_ready (rs := [16, 20]) (by kernel_rfl) (by simp) (AllReady.cons rfl (fun K hK => ?_) (AllReady.cons rfl (fun K hK => ?_) AllReady.nil))
            · go_simp
              go_wp2_with fail
              refine (CX.out _ HB6.out).mono ?_
              rintro ee w7 ⟨rfl, hb⟩
              have HB7 := hid (HB6.out.trans (hb.mono HB6.out.size))
              clear hb
              refine hK _ _ ?_
              clear hK K
              refine take_on 17 (v := ?_) rfl rfl (by kernel_rfl) (by kernel_rfl) (by kernel_rfl) (fun _ _ _ h => h) (by rfl) (fun w => ?_) ?_
              rotate_left
              · (go_simp; try with_reducible rfl)
              simp only [List.setIfInBounds_toArray, List.set_cons_zero, List.set_cons_succ]
              refine take_on 18 (v := ?_) rfl rfl (by kernel_rfl) (by kernel_rfl) (by kernel_rfl) (fun _ _ _ h => h) (by rfl) (fun w => ?_) ?_
              rotate_left
              · (go_simp; try with_reducible rfl)
              simp only [List.setIfInBounds_toArray, List.set_cons_zero, List.set_cons_succ]
              refine take_on 19 (v := ?_) rfl rfl (by kernel_rfl) (by kernel_rfl) (by kernel_rfl) (fun _ _ _ h => h) (by rfl) (fun w => ?_) ?_
              rotate_left
              · (go_simp; try with_reducible rfl)
              simp only [List.setIfInBounds_toArray, List.set_cons_zero, List.set_cons_succ]
              refine wpAny_ready (rs := [20]) (by kernel_rfl) (by simp) (AllReady.cons rfl (fun K hK => ?_) AllReady.nil)
              go_simp
              obtain ⟨w8, hw8⟩ : ∃ w8, w8 = w7.alloc (.cells #[.int .i64 0, .int .i64 0, .int .i64 0, .int .i64 0, .int .i64 0, .slice none 0 0, .slice none 0 0] 26) := ⟨_, rfl⟩
              rw [← hw8]
              have hal : Below w7.heap.size w7 w8 := by rw [hw8]; exact (Below.refl _ _).alloc (Nat.le_refl _) _
              have HB8 := hid (HB7.out.trans (hal.mono HB7.out.size))
              have HX8 : Hid (w8.heap[w7.heap.size]? = some (.cells #[.int .i64 0, .int .i64 0, .int .i64 0, .int .i64 0, .int .i64 0, .slice none 0 0, .slice none 0 0] 26 (0, 0))) := by rw [hw8]; exact alloc_new _ _
              clear hal hw8
              refine hK _ _ ?_
              clear hK K
              refine wpAny_ready (rs := [21]) (by kernel_rfl) (by simp) (AllReady.cons rfl (fun K hK => ?_) AllReady.nil)
              have z0 : w8.cell? ⟨w7.heap.size, 0, none⟩ = some (.int .i64 0) := by rw [in_block HX8.out 0]; rfl
              have z1 : w8.cell? ⟨w7.heap.size, 1, none⟩ = some (.int .i64 0) := by rw [in_block HX8.out 1]; rfl
              have z2 : w8.cell? ⟨w7.heap.size, 2, none⟩ = some (.int .i64 0) := by rw [in_block HX8.out 2]; rfl
              have z3 : w8.cell? ⟨w7.heap.size, 3, none⟩ = some (.int .i64 0) := by rw [in_block HX8.out 3]; rfl
              have z4 : w8.cell? ⟨w7.heap.size, 4, none⟩ = some (.int .i64 0) := by rw [in_block HX8.out 4]; rfl
              have z5 : w8.cell? ⟨w7.heap.size, 5, none⟩ = some (.slice none 0 0) := by rw [in_block HX8.out 5]; rfl
              have z6 : w8.cell? ⟨w7.heap.size, 6, none⟩ = some (.slice none 0 0) := by rw [in_block HX8.out 6]; rfl
              have fz0 : w8.frozen? ⟨w7.heap.size, 0, none⟩ = false := free_block HX8.out 0
              have fz1 : w8.frozen? ⟨w7.heap.size, 1, none⟩ = false := free_block HX8.out 1
              have fz2 : w8.frozen? ⟨w7.heap.size, 2, none⟩ = false := free_block HX8.out 2
              have fz3 : w8.frozen? ⟨w7.heap.size, 3, none⟩ = false := free_block HX8.out 3
              have fz4 : w8.frozen? ⟨w7.heap.size, 4, none⟩ = false := free_block HX8.out 4
              have fz5 : w8.frozen? ⟨w7.heap.size, 5, none⟩ = false := free_block HX8.out 5
              have fz6 : w8.frozen? ⟨w7.heap.size, 6, none⟩ = false := free_block HX8.out 6
              go_simp
              obtain ⟨w20, hw20⟩ : ∃ w20, w20 = (((((((w8.setCell ⟨w7.heap.size, 0, none⟩ (.int .i64 0)).setCell ⟨w7.heap.size, 1, none⟩ (.int .i64 0)).setCell ⟨w7.heap.size, 2, none⟩ (.int .i64 0)).setCell ⟨w7.heap.size, 3, none⟩ (.int .i64 0)).setCell ⟨w7.heap.size, 4, none⟩ (.int .i64 0)).setCell ⟨w7.heap.size, 5, none⟩ (.slice none 0 0)).setCell ⟨w7.heap.size, 6, none⟩ (.slice none 0 0)) := ⟨_, rfl⟩
              rw [← hw20]
              have HB20 : Hid (Below w1.heap.size w1 w20) := by rw [hw20]; exact (((((((HB8.out).setCell (p := ⟨w7.heap.size, 0, none⟩) HB7.out.size (.int .i64 0)).setCell (p := ⟨w7.heap.size, 1, none⟩) HB7.out.size (.int .i64 0)).setCell (p := ⟨w7.heap.size, 2, none⟩) HB7.out.size (.int .i64 0)).setCell (p := ⟨w7.heap.size, 3, none⟩) HB7.out.size (.int .i64 0)).setCell (p := ⟨w7.heap.size, 4, none⟩) HB7.out.size (.int .i64 0)).setCell (p := ⟨w7.heap.size, 5, none⟩) HB7.out.size (.slice none 0 0)).setCell (p := ⟨w7.heap.size, 6, none⟩) HB7.out.size (.slice none 0 0)
              clear hw20 z0 fz0 z1 fz1 z2 fz2 z3 fz3 z4 fz4 z5 fz5 z6 fz6
              refine hK _ _ ?_
              clear hK K
              refine take_on 22 (v := ?_) rfl rfl (by kernel_rfl) (by kernel_rfl) (by kernel_rfl) (fun _ _ _ h => h) (by rfl) (fun w => ?_) ?_
              rotate_left
              · (go_simp; try with_reducible rfl)
              simp only [List.setIfInBounds_toArray, List.set_cons_zero, List.set_cons_succ]
              refine wpAny_done (by kernel_rfl) ?_ _
              go_wp2_with fail
              refine (CUT.out _ HB20.out).mono ?_
              rintro ee w21 ⟨rfl, hb⟩
              have HB21 := hid (HB20.out.trans (hb.mono HB20.out.size))
              clear hb
              go_wp2
              go_ret
              exact ⟨rfl, HB.out.trans ((HB21.out.alloc HB21.out.size _).mono HB.out.size)⟩
            · go_simp
              obtain ⟨w7, hw7⟩ : ∃ w7, w7 = w6.alloc (.cells #[.int .i64 0, .int .i64 0, .int .i64 0, .int .i64 0, .int .i64 0, .slice none 0 0, .slice none 0 0] 26) := ⟨_, rfl⟩
              rw [← hw7]
              have hal : Below w6.heap.size w6 w7 := by rw [hw7]; exact (Below.refl _ _).alloc (Nat.le_refl _) _
              have HB7 := hid (HB6.out.trans (hal.mono HB6.out.size))
              have HX7 : Hid (w7.heap[w6.heap.size]? = some (.cells #[.int .i64 0, .int .i64 0, .int .i64 0, .int .i64 0, .int .i64 0, .slice none 0 0, .slice none 0 0] 26 (0, 0))) := by rw [hw7]; exact alloc_new _ _
              clear hal hw7
              refine hK _ _ ?_
              clear hK K
              refine wpAny_ready (rs := [16]) (by kernel_rfl) (by simp) (AllReady.cons rfl (fun K hK => ?_) AllReady.nil)
              go_simp
              go_wp2_with fail
              refine (CX.out _ HB7.out).mono ?_
              rintro ee w8 ⟨rfl, hb⟩
              have HB8 := hid (HB7.out.trans (hb.mono HB7.out.size))
              have HX8 : Hid (w8.heap[w6.heap.size]? = some (.cells #[.int .i64 0, .int .i64 0, .int .i64 0, .int .i64 0, .int .i64 0, .slice none 0 0, .slice none 0 0] 26 (0, 0))) := by show _ = _; rw [hb.block _ (Array.getElem?_eq_some_iff.1 HX7.out).1]; exact HX7.out
              clear hb
              refine hK _ _ ?_
              clear hK K
              refine take_on 17 (v := ?_) rfl rfl (by kernel_rfl) (by kernel_rfl) (by kernel_rfl) (fun _ _ _ h => h) (by rfl) (fun w => ?_) ?_
              rotate_left
              · (go_simp; try with_reducible rfl)
              simp only [List.setIfInBounds_toArray, List.set_cons_zero, List.set_cons_succ]
              refine take_on 18 (v := ?_) rfl rfl (by kernel_rfl) (by kernel_rfl) (by kernel_rfl) (fun _ _ _ h => h) (by rfl) (fun w => ?_) ?_
              rotate_left
              · (go_simp; try with_reducible rfl)
              simp only [List.setIfInBounds_toArray, List.set_cons_zero, List.set_cons_succ]
              refine take_on 19 (v := ?_) rfl rfl (by kernel_rfl) (by kernel_rfl) (by kernel_rfl) (fun _ _ _ h => h) (by rfl) (fun w => ?_) ?_
              rotate_left
              · (go_simp; try with_reducible rfl)
              simp only [List.setIfInBounds_toArray, List.set_cons_zero, List.set_cons_succ]
              refine wpAny_ready (rs := [21]) (by kernel_rfl) (by simp) (AllReady.cons rfl (fun K hK => ?_) AllReady.nil)
              have z0 : w8.cell? ⟨w6.heap.size, 0, none⟩ = some (.int .i64 0) := by rw [in_block HX8.out 0]; rfl
              have z1 : w8.cell? ⟨w6.heap.size, 1, none⟩ = some (.int .i64 0) := by rw [in_block HX8.out 1]; rfl
              have z2 : w8.cell? ⟨w6.heap.size, 2, none⟩ = some (.int .i64 0) := by rw [in_block HX8.out 2]; rfl
              have z3 : w8.cell? ⟨w6.heap.size, 3, none⟩ = some (.int .i64 0) := by rw [in_block HX8.out 3]; rfl
              have z4 : w8.cell? ⟨w6.heap.size, 4, none⟩ = some (.int .i64 0) := by rw [in_block HX8.out 4]; rfl
              have z5 : w8.cell? ⟨w6.heap.size, 5, none⟩ = some (.slice none 0 0) := by rw [in_block HX8.out 5]; rfl
              have z6 : w8.cell? ⟨w6.heap.size, 6, none⟩ = some (.slice none 0 0) := by rw [in_block HX8.out 6]; rfl
              have fz0 : w8.frozen? ⟨w6.heap.size, 0, none⟩ = false := free_block HX8.out 0
              have fz1 : w8.frozen? ⟨w6.heap.size, 1, none⟩ = false := free_block HX8.out 1
              have fz2 : w8.frozen? ⟨w6.heap.size, 2, none⟩ = false := free_block HX8.out 2
              have fz3 : w8.frozen? ⟨w6.heap.size, 3, none⟩ = false := free_block HX8.out 3
              have fz4 : w8.frozen? ⟨w6.heap.size, 4, none⟩ = false := free_block HX8.out 4
              have fz5 : w8.frozen? ⟨w6.heap.size, 5, none⟩ = false := free_block HX8.out 5
              have fz6 : w8.frozen? ⟨w6.heap.size, 6, none⟩ = false := free_block HX8.out 6
              go_simp
              obtain ⟨w20, hw20⟩ : ∃ w20, w20 = (((((((w8.setCell ⟨w6.heap.size, 0, none⟩ (.int .i64 0)).setCell ⟨w6.heap.size, 1, none⟩ (.int .i64 0)).setCell ⟨w6.heap.size, 2, none⟩ (.int .i64 0)).setCell ⟨w6.heap.size, 3, none⟩ (.int .i64 0)).setCell ⟨w6.heap.size, 4, none⟩ (.int .i64 0)).setCell ⟨w6.heap.size, 5, none⟩ (.slice none 0 0)).setCell ⟨w6.heap.size, 6, none⟩ (.slice none 0 0)) := ⟨_, rfl⟩
              rw [← hw20]
              have HB20 : Hid (Below w1.heap.size w1 w20) := by rw [hw20]; exact (((((((HB8.out).setCell (p := ⟨w6.heap.size, 0, none⟩) HB6.out.size (.int .i64 0)).setCell (p := ⟨w6.heap.size, 1, none⟩) HB6.out.size (.int .i64 0)).setCell (p := ⟨w6.heap.size, 2, none⟩) HB6.out.size (.int .i64 0)).setCell (p := ⟨w6.heap.size, 3, none⟩) HB6.out.size (.int .i64 0)).setCell (p := ⟨w6.heap.size, 4, none⟩) HB6.out.size (.int .i64 0)).setCell (p := ⟨w6.heap.size, 5, none⟩) HB6.out.size (.slice none 0 0)).setCell (p := ⟨w6.heap.size, 6, none⟩) HB6.out.size (.slice none 0 0)
              clear hw20 z0 fz0 z1 fz1 z2 fz2 z3 fz3 z4 fz4 z5 fz5 z6 fz6
              refine hK _ _ ?_
              clear hK K
              refine take_on 22 (v := ?_) rfl rfl (by kernel_rfl) (by kernel_rfl) (by kernel_rfl) (fun _ _ _ h => h) (by rfl) (fun w => ?_) ?_
              rotate_left
              · (go_simp; try with_reducible rfl)
              simp only [List.setIfInBounds_toArray, List.set_cons_zero, List.set_cons_succ]
              refine wpAny_done (by kernel_rfl) ?_ _
              go_wp2_with fail
              refine (CUT.out _ HB20.out).mono ?_
              rintro ee w21 ⟨rfl, hb⟩
              have HB21 := hid (HB20.out.trans (hb.mono HB20.out.size))
              clear hb
              go_wp2
              go_ret
              exact ⟨rfl, HB.out.trans ((HB21.out.alloc HB21.out.size _).mono HB.out.size)⟩
          · go_simp
            obtain ⟨w7, hw7⟩ : ∃ w7, w7 = w6.alloc (.cells #[.int .i64 0, .int .i64 0, .int .i64 0, .int .i64 0, .int .i64 0, .slice none 0 0, .slice none 0 0] 26) := ⟨_, rfl⟩
            rw [← hw7]
            have hal : Below w6.heap.size w6 w7 := by rw [hw7]; exact (Below.refl _ _).alloc (Nat.le_refl _) _
            have HB7 := hid (HB6.out.trans (hal.mono HB6.out.size))
            have HC7 : Hid (w7.cell? ⟨w5.heap.size, 0, none⟩ = some (.int .u8 (c9.toNat : Int))) := by show _ = _; rw [hal.cell (p := ⟨w5.heap.size, 0, none⟩) (World.block_lt_of_cell? _ _ HC6.out)]; exact HC6.out
            have HX7 : Hid (w7.heap[w6.heap.size]? = some (.cells #[.int .i64 0, .int .i64 0, .int .i64 0, .int .i64 0, .int .i64 0, .slice none 0 0, .slice none 0 0] 26 (0, 0))) := by rw [hw7]; exact alloc_new _ _
            clear hal hw7
            refine hK _ _ ?_
            clear hK K
            refine wpAny_ready (rs := [9]) (by kernel_rfl) (by simp) (AllReady.cons rfl (fun K hK => ?_) AllReady.nil)
            have hcv := conv2 w7 w5.heap.size c9 HC7.out
            go_simp
            refine hK _ _ ?_
            clear hK K hcv
            have hb1 := fun W => run_string_add_sum (P := Tryd.prog) (w := W) (t.extract 0 k) ⟨#[c9]⟩ (by rw [ByteArray.size_extract, sz1']; omega)
            have hb2 := fun W => run_string_add_sum (P := Tryd.prog) (w := W) (t.extract 0 k ++ ⟨#[c9]⟩) (t.extract (k + 1) t.size) (by rw [ByteArray.size_append, ByteArray.size_extract, ByteArray.size_extract, sz1']; omega)
            refine take_on 10 (v := ?_) rfl rfl (by kernel_rfl) (by kernel_rfl) (by kernel_rfl) (fun _ _ _ h => h) (by rfl) (fun w => ?_) ?_
            rotate_left
            · (go_simp; try with_reducible rfl)
            simp only [List.setIfInBounds_toArray, List.set_cons_zero, List.set_cons_succ]
            refine take_on 15 (v := .string (otherByte t k c9)) rfl rfl (by kernel_rfl) (by kernel_rfl) (by kernel_rfl) (fun _ _ _ h => h) (by rfl) (fun w => ?_) ?_
            · (go_simp; rfl)
            simp only [List.setIfInBounds_toArray, List.set_cons_zero, List.set_cons_succ]
            clear hb1 hb2
            refine wpAny_ready (rs := [16]) (by kernel_rfl) (by simp) (AllReady.cons rfl (fun K hK => ?_) AllReady.nil)
            go_simp
            go_wp2_with fail
            refine (CX.out _ HB7.out).mono ?_
            rintro ee w8 ⟨rfl, hb⟩
            have HB8 := hid (HB7.out.trans (hb.mono HB7.out.size))
            have HX8 : Hid (w8.heap[w6.heap.size]? = some (.cells #[.int .i64 0, .int .i64 0, .int .i64 0, .int .i64 0, .int .i64 0, .slice none 0 0, .slice none 0 0] 26 (0, 0))) := by show _ = _; rw [hb.block _ (Array.getElem?_eq_some_iff.1 HX7.out).1]; exact HX7.out
            clear hb
            refine hK _ _ ?_
            clear hK K
            refine take_on 17 (v := ?_) rfl rfl (by kernel_rfl) (by kernel_rfl) (by kernel_rfl) (fun _ _ _ h => h) (by rfl) (fun w => ?_) ?_
            rotate_left
            · (go_simp; try with_reducible rfl)
            simp only [List.setIfInBounds_toArray, List.set_cons_zero, List.set_cons_succ]
            refine take_on 18 (v := ?_) rfl rfl (by kernel_rfl) (by kernel_rfl) (by kernel_rfl) (fun _ _ _ h => h) (by rfl) (fun w => ?_) ?_
            rotate_left
            · (go_simp; try with_reducible rfl)
            simp only [List.setIfInBounds_toArray, List.set_cons_zero, List.set_cons_succ]
            refine take_on 19 (v := ?_) rfl rfl (by kernel_rfl) (by kernel_rfl) (by kernel_rfl) (fun _ _ _ h => h) (by rfl) (fun w => ?_) ?_
            rotate_left
            · (go_simp; try with_reducible rfl)
            simp only [List.setIfInBounds_toArray, List.set_cons_zero, List.set_cons_succ]
            refine wpAny_ready (rs := [21]) (by kernel_rfl) (by simp) (AllReady.cons rfl (fun K hK => ?_) AllReady.nil)
            have z0 : w8.cell? ⟨w6.heap.size, 0, none⟩ = some (.int .i64 0) := by rw [in_block HX8.out 0]; rfl
            have z1 : w8.cell? ⟨w6.heap.size, 1, none⟩ = some (.int .i64 0) := by rw [in_block HX8.out 1]; rfl
            have z2 : w8.cell? ⟨w6.heap.size, 2, none⟩ = some (.int .i64 0) := by rw [in_block HX8.out 2]; rfl
            have z3 : w8.cell? ⟨w6.heap.size, 3, none⟩ = some (.int .i64 0) := by rw [in_block HX8.out 3]; rfl
            have z4 : w8.cell? ⟨w6.heap.size, 4, none⟩ = some (.int .i64 0) := by rw [in_block HX8.out 4]; rfl
            have z5 : w8.cell? ⟨w6.heap.size, 5, none⟩ = some (.slice none 0 0) := by rw [in_block HX8.out 5]; rfl
            have z6 : w8.cell? ⟨w6.heap.size, 6, none⟩ = some (.slice none 0 0) := by rw [in_block HX8.out 6]; rfl
            have fz0 : w8.frozen? ⟨w6.heap.size, 0, none⟩ = false := free_block HX8.out 0
            have fz1 : w8.frozen? ⟨w6.heap.size, 1, none⟩ = false := free_block HX8.out 1
            have fz2 : w8.frozen? ⟨w6.heap.size, 2, none⟩ = false := free_block HX8.out 2
            have fz3 : w8.frozen? ⟨w6.heap.size, 3, none⟩ = false := free_block HX8.out 3
            have fz4 : w8.frozen? ⟨w6.heap.size, 4, none⟩ = false := free_block HX8.out 4
            have fz5 : w8.frozen? ⟨w6.heap.size, 5, none⟩ = false := free_block HX8.out 5
            have fz6 : w8.frozen? ⟨w6.heap.size, 6, none⟩ = false := free_block HX8.out 6
            go_simp
            obtain ⟨w20, hw20⟩ : ∃ w20, w20 = (((((((w8.setCell ⟨w6.heap.size, 0, none⟩ (.int .i64 0)).setCell ⟨w6.heap.size, 1, none⟩ (.int .i64 0)).setCell ⟨w6.heap.size, 2, none⟩ (.int .i64 0)).setCell ⟨w6.heap.size, 3, none⟩ (.int .i64 0)).setCell ⟨w6.heap.size, 4, none⟩ (.int .i64 0)).setCell ⟨w6.heap.size, 5, none⟩ (.slice none 0 0)).setCell ⟨w6.heap.size, 6, none⟩ (.slice none 0 0)) := ⟨_, rfl⟩
            rw [← hw20]
            have HB20 : Hid (Below w1.heap.size w1 w20) := by rw [hw20]; exact (((((((HB8.out).setCell (p := ⟨w6.heap.size, 0, none⟩) HB6.out.size (.int .i64 0)).setCell (p := ⟨w6.heap.size, 1, none⟩) HB6.out.size (.int .i64 0)).setCell (p := ⟨w6.heap.size, 2, none⟩) HB6.out.size (.int .i64 0)).setCell (p := ⟨w6.heap.size, 3, none⟩) HB6.out.size (.int .i64 0)).setCell (p := ⟨w6.heap.size, 4, none⟩) HB6.out.size (.int .i64 0)).setCell (p := ⟨w6.heap.size, 5, none⟩) HB6.out.size (.slice none 0 0)).setCell (p := ⟨w6.heap.size, 6, none⟩) HB6.out.size (.slice none 0 0)
            clear hw20 z0 fz0 z1 fz1 z2 fz2 z3 fz3 z4 fz4 z5 fz5 z6 fz6
            refine hK _ _ ?_
            clear hK K
            refine take_on 22 (v := ?_) rfl rfl (by kernel_rfl) (by kernel_rfl) (by kernel_rfl) (fun _ _ _ h => h) (by rfl) (fun w => ?_) ?_
            rotate_left
            · (go_simp; try with_reducible rfl)
            simp only [List.setIfInBounds_toArray, List.set_cons_zero, List.set_cons_succ]
            refine wpAny_done (by kernel_rfl) ?_ _
            go_wp2_with fail
            refine (CUT.out _ HB20.out).mono ?_
            rintro ee w21 ⟨rfl, hb⟩
            have HB21 := hid (HB20.out.trans (hb.mono HB20.out.size))
            clear hb
            go_wp2
            go_ret
            exact ⟨rfl, HB.out.trans ((HB21.out.alloc HB21.out.size _).mono HB.out.size)⟩
        · go_simp
          obtain ⟨w6, hw6⟩ : ∃ w6, w6 = w5.alloc (.cells #[.int .i64 0, .int .i64 0, .int .i64 0, .int .i64 0, .int .i64 0, .slice none 0 0, .slice none 0 0] 26) := ⟨_, rfl⟩
          rw [← hw6]
          have hal : Below w5.heap.size w5 w6 := by rw [hw6]; exact (Below.refl _ _).alloc (Nat.le_refl _) _
          have HB6 := hid (HB5.out.trans (hal.mono HB5.out.size))
          have HX6 : Hid (w6.heap[w5.heap.size]? = some (.cells #[.int .i64 0, .int .i64 0, .int .i64 0, .int .i64 0, .int .i64 0, .slice none 0 0, .slice none 0 0] 26 (0, 0))) := by rw [hw6]; exact alloc_new _ _
          clear hal hw6
          refine hK _ _ ?_
          clear hK K
          refine wpAny_ready (rs := [8]) (by kernel_rfl) (by simp) (AllReady.cons rfl (fun K hK => ?_) AllReady.nil)
          go_simp
          obtain ⟨w7, hw7⟩ : ∃ w7, w7 = w6.alloc (.cells #[.int .u8 (c9.toNat : Int)] 5) := ⟨_, rfl⟩
          rw [← hw7]
          have hal : Below w6.heap.size w6 w7 := by rw [hw7]; exact (Below.refl _ _).alloc (Nat.le_refl _) _
          have HB7 := hid (HB6.out.trans (hal.mono HB6.out.size))
          have HC7 : Hid (w7.cell? ⟨w6.heap.size, 0, none⟩ = some (.int .u8 (c9.toNat : Int))) := by rw [hw7]; show _ = _; simp
          have HX7 : Hid (w7.heap[w5.heap.size]? = some (.cells #[.int .i64 0, .int .i64 0, .int .i64 0, .int .i64 0, .int .i64 0, .slice none 0 0, .slice none 0 0] 26 (0, 0))) := by rw [hw7]; exact alloc_keep HX6.out
          clear hal hw7
          refine hK _ _ ?_
          clear hK K
          refine wpAny_ready (rs := [9]) (by kernel_rfl) (by simp) (AllReady.cons rfl (fun K hK => ?_) AllReady.nil)
          have hcv := conv2 w7 w6.heap.size c9 HC7.out
          go_simp
          refine hK _ _ ?_
          clear hK K hcv
          have hb1 := fun W => run_string_add_sum (P := Tryd.prog) (w := W) (t.extract 0 k) ⟨#[c9]⟩ (by rw [ByteArray.size_extract, sz1']; omega)
          have hb2 := fun W => run_string_add_sum (P := Tryd.prog) (w := W) (t.extract 0 k ++ ⟨#[c9]⟩) (t.extract (k + 1) t.size) (by rw [ByteArray.size_append, ByteArray.size_extract, ByteArray.size_extract, sz1']; omega)
          refine take_on 10 (v := ?_) rfl rfl (by kernel_rfl) (by kernel_rfl) (by kernel_rfl) (fun _ _ _ h => h) (by rfl) (fun w => ?_) ?_
          rotate_left
          · (go_simp; try with_reducible rfl)
          simp only [List.setIfInBounds_toArray, List.set_cons_zero, List.set_cons_succ]
          refine take_on 15 (v := .string (otherByte t k c9)) rfl rfl (by kernel_rfl) (by kernel_rfl) (by kernel_rfl) (fun _ _ _ h => h) (by rfl) (fun w => ?_) ?_
          · (go_simp; rfl)
          simp only [List.setIfInBounds_toArray, List.set_cons_zero, List.set_cons_succ]
          clear hb1 hb2
          refine wpAny_ready (rs := [16]) (by kernel_rfl) (by simp) (AllReady.cons rfl (fun K hK => ?_) AllReady.nil)
          go_simp
          go_wp2_with fail
          refine (CX.out _ HB7.out).mono ?_
          rintro ee w8 ⟨rfl, hb⟩
          have HB8 := hid (HB7.out.trans (hb.mono HB7.out.size))
          have HX8 : Hid (w8.heap[w5.heap.size]? = some (.cells #[.int .i64 0, .int .i64 0, .int .i64 0, .int .i64 0, .int .i64 0, .slice none 0 0, .slice none 0 0] 26 (0, 0))) := by show _ = _; rw [hb.block _ (Array.getElem?_eq_some_iff.1 HX7.out).1]; exact HX7.out
          clear hb
          refine hK _ _ ?_
          clear hK K
          refine take_on 17 (v := ?_) rfl rfl (by kernel_rfl) (by kernel_rfl) (by kernel_rfl) (fun _ _ _ h => h) (by rfl) (fun w => ?_) ?_
          rotate_left
          · (go_simp; try with_reducible rfl)
          simp only [List.setIfInBounds_toArray, List.set_cons_zero, List.set_cons_succ]
          refine take_on 18 (v := ?_) rfl rfl (by kernel_rfl) (by kernel_rfl) (by kernel_rfl) (fun _ _ _ h => h) (by rfl) (fun w => ?_) ?_
          rotate_left
          · (go_simp; try with_reducible rfl)
          simp only [List.setIfInBounds_toArray, List.set_cons_zero, List.set_cons_succ]
          refine take_on 19 (v := ?_) rfl rfl (by kernel_rfl) (by kernel_rfl) (by kernel_rfl) (fun _ _ _ h => h) (by rfl) (fun w => ?_) ?_
          rotate_left
          · (go_simp; try with_reducible rfl)
          simp only [List.setIfInBounds_toArray, List.set_cons_zero, List.set_cons_succ]
          refine wpAny_ready (rs := [21]) (by kernel_rfl) (by simp) (AllReady.cons rfl (fun K hK => ?_) AllReady.nil)
          have z0 : w8.cell? ⟨w5.heap.size, 0, none⟩ = some (.int .i64 0) := by rw [in_block HX8.out 0]; rfl
          have z1 : w8.cell? ⟨w5.heap.size, 1, none⟩ = some (.int .i64 0) := by rw [in_block HX8.out 1]; rfl
          have z2 : w8.cell? ⟨w5.heap.size, 2, none⟩ = some (.int .i64 0) := by rw [in_block HX8.out 2]; rfl
          have z3 : w8.cell? ⟨w5.heap.size, 3, none⟩ = some (.int .i64 0) := by rw [in_block HX8.out 3]; rfl
          have z4 : w8.cell? ⟨w5.heap.size, 4, none⟩ = some (.int .i64 0) := by rw [in_block HX8.out 4]; rfl
          have z5 : w8.cell? ⟨w5.heap.size, 5, none⟩ = some (.slice none 0 0) := by rw [in_block HX8.out 5]; rfl
          have z6 : w8.cell? ⟨w5.heap.size, 6, none⟩ = some (.slice none 0 0) := by rw [in_block HX8.out 6]; rfl
          have fz0 : w8.frozen? ⟨w5.heap.size, 0, none⟩ = false := free_block HX8.out 0
          have fz1 : w8.frozen? ⟨w5.heap.size, 1, none⟩ = false := free_block HX8.out 1
          have fz2 : w8.frozen? ⟨w5.heap.size, 2, none⟩ = false := free_block HX8.out 2
          have fz3 : w8.frozen? ⟨w5.heap.size, 3, none⟩ = false := free_block HX8.out 3
          have fz4 : w8.frozen? ⟨w5.heap.size, 4, none⟩ = false := free_block HX8.out 4
          have fz5 : w8.frozen? ⟨w5.heap.size, 5, none⟩ = false := free_block HX8.out 5
          have fz6 : w8.frozen? ⟨w5.heap.size, 6, none⟩ = false := free_block HX8.out 6
          go_simp
          obtain ⟨w20, hw20⟩ : ∃ w20, w20 = (((((((w8.setCell ⟨w5.heap.size, 0, none⟩ (.int .i64 0)).setCell ⟨w5.heap.size, 1, none⟩ (.int .i64 0)).setCell ⟨w5.heap.size, 2, none⟩ (.int .i64 0)).setCell ⟨w5.heap.size, 3, none⟩ (.int .i64 0)).setCell ⟨w5.heap.size, 4, none⟩ (.int .i64 0)).setCell ⟨w5.heap.size, 5, none⟩ (.slice none 0 0)).setCell ⟨w5.heap.size, 6, none⟩ (.slice none 0 0)) := ⟨_, rfl⟩
          rw [← hw20]
          have HB20 : Hid (Below w1.heap.size w1 w20) := by rw [hw20]; exact (((((((HB8.out).setCell (p := ⟨w5.heap.size, 0, none⟩) HB5.out.size (.int .i64 0)).setCell (p := ⟨w5.heap.size, 1, none⟩) HB5.out.size (.int .i64 0)).setCell (p := ⟨w5.heap.size, 2, none⟩) HB5.out.size (.int .i64 0)).setCell (p := ⟨w5.heap.size, 3, none⟩) HB5.out.size (.int .i64 0)).setCell (p := ⟨w5.heap.size, 4, none⟩) HB5.out.size (.int .i64 0)).setCell (p := ⟨w5.heap.size, 5, none⟩) HB5.out.size (.slice none 0 0)).setCell (p := ⟨w5.heap.size, 6, none⟩) HB5.out.size (.slice none 0 0)
          clear hw20 z0 fz0 z1 fz1 z2 fz2 z3 fz3 z4 fz4 z5 fz5 z6 fz6
          refine hK _ _ ?_
          clear hK K
          refine take_on 22 (v := ?_) rfl rfl (by kernel_rfl) (by kernel_rfl) (by kernel_rfl) (fun _ _ _ h => h) (by rfl) (fun w => ?_) ?_
          rotate_left
          · (go_simp; try with_reducible rfl)
          simp only [List.setIfInBounds_toArray, List.set_cons_zero, List.set_cons_succ]
          refine wpAny_done (by kernel_rfl) ?_ _
          go_wp2_with fail
          refine (CUT.out _ HB20.out).mono ?_
          rintro ee w21 ⟨rfl, hb⟩
          have HB21 := hid (HB20.out.trans (hb.mono HB20.out.size))
          clear hb
          go_wp2
          go_ret
          exact ⟨rfl, HB.out.trans ((HB21.out.alloc HB21.out.size _).mono HB.out.size)⟩
      · obtain rfl : bx = 0 := by omega
        obtain ⟨b8, hb8⟩ : ∃ b8 : UInt8, b8 = 1 := ⟨_, rfl⟩
        have hbx : bits .xor .u8 (t[k].toNat : Int) 1 = ((t[k] ^^^ b8).toNat : Int) := by
          have := u8_xor_nat t[k].toNat 1 t[k].toNat_lt (by decide)
          rw [show (1 : Int) = ((1 : Nat) : Int) from rfl, this, hb8, UInt8.toNat_xor]; rfl
        have hbn : b8 ≠ 0 := by rw [hb8]; decide
        clear hb8
        have hcn : t[k] ^^^ b8 ≠ t[k] := xor_ne _ _ hbn
        obtain ⟨c9, hc9⟩ : ∃ c9, c9 = t[k] ^^^ b8 := ⟨_, rfl⟩
        rw [← hc9] at hbx hcn
        have CX := hid (OTH.out c9 hcn)
        clear hc9 hcn hbn
        go_wp2_with fail
        refine wp_region_any (by kernel_rfl) ?_
        change wpAny _ _ _ _ _ _ _ (World.drew _)
        obtain ⟨w5, hw5⟩ : ∃ w5, w5 = w4.drew := ⟨_, rfl⟩
        rw [← hw5]
        have HB5 : Hid (Below w1.heap.size w1 w5) := by rw [hw5]; exact HB4.out.drew
        clear hw5
        refine take_on 0 (v := ?_) rfl rfl (by kernel_rfl) (by kernel_rfl) (by kernel_rfl) (fun _ _ _ h => h) (by rfl) (fun w => ?_) ?_
        rotate_left
        · (go_simp; try with_reducible rfl)
        simp only [List.setIfInBounds_toArray, List.set_cons_zero, List.set_cons_succ]
        refine take_on 1 (v := ?_) rfl rfl (by kernel_rfl) (by kernel_rfl) (by kernel_rfl) (fun _ _ _ h => h) (by rfl) (fun w => ?_) ?_
        rotate_left
        · (go_simp; try with_reducible rfl)
        simp only [List.setIfInBounds_toArray, List.set_cons_zero, List.set_cons_succ]
        refine take_on 2 (v := ?_) rfl rfl (by kernel_rfl) (by kernel_rfl) (by kernel_rfl) (fun _ _ _ h => h) (by rfl) (fun w => ?_) ?_
        rotate_left
        · (go_simp; try with_reducible rfl)
        simp only [List.setIfInBounds_toArray, List.set_cons_zero, List.set_cons_succ]
        refine take_on 3 (v := ?_) rfl rfl (by kernel_rfl) (by kernel_rfl) (by kernel_rfl) (fun _ _ _ h => h) (by rfl) (fun w => ?_) ?_
        rotate_left
        · (go_simp; try with_reducible rfl)
        simp only [List.setIfInBounds_toArray, List.set_cons_zero, List.set_cons_succ]
        refine take_on 4 (v := ?_) rfl rfl (by kernel_rfl) (by kernel_rfl) (by kernel_rfl) (fun _ _ _ h => h) (by rfl) (fun w => ?_) ?_
        rotate_left
        · (go_simp; try with_reducible rfl)
        simp only [List.setIfInBounds_toArray, List.set_cons_zero, List.set_cons_succ]
        refine take_on 5 (v := ?_) rfl rfl (by kernel_rfl) (by kernel_rfl) (by kernel_rfl) (fun _ _ _ h => h) (by rfl) (fun w => ?_) ?_
        rotate_left
        · (go_simp; try with_reducible rfl)
        simp only [List.setIfInBounds_toArray, List.set_cons_zero, List.set_cons_succ]
        refine take_on 6 (v := ?_) rfl rfl (by kernel_rfl) (by kernel_rfl) (by kernel_rfl) (fun _ _ _ h => h) (by rfl) (fun w => ?_) ?_
        rotate_left
        · (go_simp; try with_reducible rfl)
        simp only [List.setIfInBounds_toArray, List.set_cons_zero, List.set_cons_succ]
        refine take_on 7 (v := .int .u8 (c9.toNat : Int)) rfl rfl (by kernel_rfl) (by kernel_rfl) (by kernel_rfl) (fun _ _ _ h => h) (by rfl) (fun w => ?_) ?_
        · (go_simp; try (rw [hbx]))
        simp only [List.setIfInBounds_toArray, List.set_cons_zero, List.set_cons_succ]
        refine take_on 11 (v := ?_) rfl rfl (by kernel_rfl) (by kernel_rfl) (by kernel_rfl) (fun _ _ _ h => h) (by rfl) (fun w => ?_) ?_
        rotate_left
        · (go_simp; try with_reducible rfl)
        simp only [List.setIfInBounds_toArray, List.set_cons_zero, List.set_cons_succ]
        refine take_on 12 (v := ?_) rfl rfl (by kernel_rfl) (by kernel_rfl) (by kernel_rfl) (fun _ _ _ h => h) (by rfl) (fun w => ?_) ?_
        rotate_left
        · (go_simp; try with_reducible rfl)
        simp only [List.setIfInBounds_toArray, List.set_cons_zero, List.set_cons_succ]
        refine take_on 13 (v := .int .i64 ((k : Int) + 1)) rfl rfl (by kernel_rfl) (by kernel_rfl) (by kernel_rfl) (fun _ _ _ h => h) (by rfl) (fun w => ?_) ?_
        · (go_simp; try (rw [hwr]))
        simp only [List.setIfInBounds_toArray, List.set_cons_zero, List.set_cons_succ]
        refine take_on 14 (v := .string (t.extract (k + 1) t.size)) rfl rfl (by kernel_rfl) (by kernel_rfl) (by kernel_rfl) (fun _ _ _ h => h) (by rfl) (fun w => ?_) ?_
        · (go_simp; (intro hh; have := hh (by omega); omega))
        simp only [List.setIfInBounds_toArray, List.set_cons_zero, List.set_cons_succ]
        refine wpAny_ready (rs := [8, 20]) (by kernel_rfl) (by simp) (AllReady.cons rfl (fun K hK => ?_) (AllReady.cons rfl (fun K hK => ?_) AllReady.nil))
        · go_simp
          obtain ⟨w6, hw6⟩ : ∃ w6, w6 = w5.alloc (.cells #[.int .u8 (c9.toNat : Int)] 5) := ⟨_, rfl⟩
          rw [← hw6]
          have hal : Below w5.heap.size w5 w6 := by rw [hw6]; exact (Below.refl _ _).alloc (Nat.le_refl _) _
          have HB6 := hid (HB5.out.trans (hal.mono HB5.out.size))
          have HC6 : Hid (w6.cell? ⟨w5.heap.size, 0, none⟩ = some (.int .u8 (c9.toNat : Int))) := by rw [hw6]; show _ = _; simp
          clear hal hw6
          refine hK _ _ ?_
          clear hK K
          refine wpAny_ready (rs := [9, 20]) (by kernel_rfl) (by simp) (AllReady.cons rfl (fun K hK => ?_) (AllReady.cons rfl (fun K hK => ?_) AllReady.nil))
          · have hcv := conv2 w6 w5.heap.size c9 HC6.out
            go_simp
            refine hK _ _ ?_
            clear hK K hcv
            have hb1 := fun W => run_string_add_sum (P := Tryd.prog) (w := W) (t.extract 0 k) ⟨#[c9]⟩ (by rw [ByteArray.size_extract, sz1']; omega)
            have hb2 := fun W => run_string_add_sum (P := Tryd.prog) (w := W) (t.extract 0 k ++ ⟨#[c9]⟩) (t.extract (k + 1) t.size) (by rw [ByteArray.size_append, ByteArray.size_extract, ByteArray.size_extract, sz1']; omega)
            refine take_on 10 (v := ?_) rfl rfl (by kernel_rfl) (by kernel_rfl) (by kernel_rfl) (fun _ _ _ h => h) (by rfl) (fun w => ?_) ?_
            rotate_left
            · (go_simp; try with_reducible rfl)
            simp only [List.setIfInBounds_toArray, List.set_cons_zero, List.set_cons_succ]
            refine take_on 15 (v := .string (otherByte t k c9)) rfl rfl (by kernel_rfl) (by kernel_rfl) (by kernel_rfl) (fun _ _ _ h => h) (by rfl) (fun w => ?_) ?_
            · (go_simp; rfl)
            simp only [List.setIfInBounds_toArray, List.set_cons_zero, List.set_cons_succ]
            clear hb1 hb2
            refine wpAny_ready (rs := [16, 20]) (by kernel_rfl) (by simp) (AllReady.cons rfl (fun K hK => ?_) (AllReady.cons rfl (fun K hK => ?_) AllReady.nil))
            · go_simp
              go_wp2_with fail
              refine (CX.out _ HB6.out).mono ?_
              rintro ee w7 ⟨rfl, hb⟩
              have HB7 := hid (HB6.out.trans (hb.mono HB6.out.size))
              clear hb
              refine hK _ _ ?_
              clear hK K
              refine take_on 17 (v := ?_) rfl rfl (by kernel_rfl) (by kernel_rfl) (by kernel_rfl) (fun _ _ _ h => h) (by rfl) (fun w => ?_) ?_
              rotate_left
              · (go_simp; try with_reducible rfl)
              simp only [List.setIfInBounds_toArray, List.set_cons_zero, List.set_cons_succ]
              refine take_on 18 (v := ?_) rfl rfl (by kernel_rfl) (by kernel_rfl) (by kernel_rfl) (fun _ _ _ h => h) (by rfl) (fun w => ?_) ?_
              rotate_left
              · (go_simp; try with_reducible rfl)
              simp only [List.setIfInBounds_toArray, List.set_cons_zero, List.set_cons_succ]
              refine take_on 19 (v := ?_) rfl rfl (by kernel_rfl) (by kernel_rfl) (by kernel_rfl) (fun _ _ _ h => h) (by rfl) (fun w => ?_) ?_
              rotate_left
              · (go_simp; try with_reducible rfl)
              simp only [List.setIfInBounds_toArray, List.set_cons_zero, List.set_cons_succ]
              refine wpAny_ready (rs := [20]) (by kernel_rfl) (by simp) (AllReady.cons rfl (fun K hK => ?_) AllReady.nil)
              go_simp
              obtain ⟨w8, hw8⟩ : ∃ w8, w8 = w7.alloc (.cells #[.int .i64 0, .int .i64 0, .int .i64 0, .int .i64 0, .int .i64 0, .slice none 0 0, .slice none 0 0] 26) := ⟨_, rfl⟩
              rw [← hw8]
              have hal : Below w7.heap.size w7 w8 := by rw [hw8]; exact (Below.refl _ _).alloc (Nat.le_refl _) _
              have HB8 := hid (HB7.out.trans (hal.mono HB7.out.size))
              have HX8 : Hid (w8.heap[w7.heap.size]? = some (.cells #[.int .i64 0, .int .i64 0, .int .i64 0, .int .i64 0, .int .i64 0, .slice none 0 0, .slice none 0 0] 26 (0, 0))) := by rw [hw8]; exact alloc_new _ _
              clear hal hw8
              refine hK _ _ ?_
              clear hK K
              refine wpAny_ready (rs := [21]) (by kernel_rfl) (by simp) (AllReady.cons rfl (fun K hK => ?_) AllReady.nil)
              have z0 : w8.cell? ⟨w7.heap.size, 0, none⟩ = some (.int .i64 0) := by rw [in_block HX8.out 0]; rfl
              have z1 : w8.cell? ⟨w7.heap.size, 1, none⟩ = some (.int .i64 0) := by rw [in_block HX8.out 1]; rfl
              have z2 : w8.cell? ⟨w7.heap.size, 2, none⟩ = some (.int .i64 0) := by rw [in_block HX8.out 2]; rfl
              have z3 : w8.cell? ⟨w7.heap.size, 3, none⟩ = some (.int .i64 0) := by rw [in_block HX8.out 3]; rfl
              have z4 : w8.cell? ⟨w7.heap.size, 4, none⟩ = some (.int .i64 0) := by rw [in_block HX8.out 4]; rfl
              have z5 : w8.cell? ⟨w7.heap.size, 5, none⟩ = some (.slice none 0 0) := by rw [in_block HX8.out 5]; rfl
              have z6 : w8.cell? ⟨w7.heap.size, 6, none⟩ = some (.slice none 0 0) := by rw [in_block HX8.out 6]; rfl
              have fz0 : w8.frozen? ⟨w7.heap.size, 0, none⟩ = false := free_block HX8.out 0
              have fz1 : w8.frozen? ⟨w7.heap.size, 1, none⟩ = false := free_block HX8.out 1
              have fz2 : w8.frozen? ⟨w7.heap.size, 2, none⟩ = false := free_block HX8.out 2
              have fz3 : w8.frozen? ⟨w7.heap.size, 3, none⟩ = false := free_block HX8.out 3
              have fz4 : w8.frozen? ⟨w7.heap.size, 4, none⟩ = false := free_block HX8.out 4
              have fz5 : w8.frozen? ⟨w7.heap.size, 5, none⟩ = false := free_block HX8.out 5
              have fz6 : w8.frozen? ⟨w7.heap.size, 6, none⟩ = false := free_block HX8.out 6
              go_simp
              obtain ⟨w20, hw20⟩ : ∃ w20, w20 = (((((((w8.setCell ⟨w7.heap.size, 0, none⟩ (.int .i64 0)).setCell ⟨w7.heap.size, 1, none⟩ (.int .i64 0)).setCell ⟨w7.heap.size, 2, none⟩ (.int .i64 0)).setCell ⟨w7.heap.size, 3, none⟩ (.int .i64 0)).setCell ⟨w7.heap.size, 4, none⟩ (.int .i64 0)).setCell ⟨w7.heap.size, 5, none⟩ (.slice none 0 0)).setCell ⟨w7.heap.size, 6, none⟩ (.slice none 0 0)) := ⟨_, rfl⟩
              rw [← hw20]
              have HB20 : Hid (Below w1.heap.size w1 w20) := by rw [hw20]; exact (((((((HB8.out).setCell (p := ⟨w7.heap.size, 0, none⟩) HB7.out.size (.int .i64 0)).setCell (p := ⟨w7.heap.size, 1, none⟩) HB7.out.size (.int .i64 0)).setCell (p := ⟨w7.heap.size, 2, none⟩) HB7.out.size (.int .i64 0)).setCell (p := ⟨w7.heap.size, 3, none⟩) HB7.out.size (.int .i64 0)).setCell (p := ⟨w7.heap.size, 4, none⟩) HB7.out.size (.int .i64 0)).setCell (p := ⟨w7.heap.size, 5, none⟩) HB7.out.size (.slice none 0 0)).setCell (p := ⟨w7.heap.size, 6, none⟩) HB7.out.size (.slice none 0 0)
              clear hw20 z0 fz0 z1 fz1 z2 fz2 z3 fz3 z4 fz4 z5 fz5 z6 fz6
              refine hK _ _ ?_
              clear hK K
              refine take_on 22 (v := ?_) rfl rfl (by kernel_rfl) (by kernel_rfl) (by kernel_rfl) (fun _ _ _ h => h) (by rfl) (fun w => ?_) ?_
              rotate_left
              · (go_simp; try with_reducible rfl)
              simp only [List.setIfInBounds_toArray, List.set_cons_zero, List.set_cons_succ]
              refine wpAny_done (by kernel_rfl) ?_ _
              go_wp2_with fail
              refine (CUT.out _ HB20.out).mono ?_
              rintro ee w21 ⟨rfl, hb⟩
              have HB21 := hid (HB20.out.trans (hb.mono HB20.out.size))
              clear hb
              go_wp2
              go_ret
              exact ⟨rfl, HB.out.trans ((HB21.out.alloc HB21.out.size _).mono HB.out.size)⟩
            · go_simp
              obtain ⟨w7, hw7⟩ : ∃ w7, w7 = w6.alloc (.cells #[.int .i64 0, .int .i64 0, .int .i64 0, .int .i64 0, .int .i64 0, .slice none 0 0, .slice none 0 0] 26) := ⟨_, rfl⟩
              rw [← hw7]
              have hal : Below w6.heap.size w6 w7 := by rw [hw7]; exact (Below.refl _ _).alloc (Nat.le_refl _) _
              have HB7 := hid (HB6.out.trans (hal.mono HB6.out.size))
              have HX7 : Hid (w7.heap[w6.heap.size]? = some (.cells #[.int .i64 0, .int .i64 0, .int .i64 0, .int .i64 0, .int .i64 0, .slice none 0 0, .slice none 0 0] 26 (0, 0))) := by rw [hw7]; exact alloc_new _ _
              clear hal hw7
              refine hK _ _ ?_
              clear hK K
              refine wpAny_ready (rs := [16]) (by kernel_rfl) (by simp) (AllReady.cons rfl (fun K hK => ?_) AllReady.nil)
              go_simp
              go_wp2_with fail
              refine (CX.out _ HB7.out).mono ?_
              rintro ee w8 ⟨rfl, hb⟩
              have HB8 := hid (HB7.out.trans (hb.mono HB7.out.size))
              have HX8 : Hid (w8.heap[w6.heap.size]? = some (.cells #[.int .i64 0, .int .i64 0, .int .i64 0, .int .i64 0, .int .i64 0, .slice none 0 0, .slice none 0 0] 26 (0, 0))) := by show _ = _; rw [hb.block _ (Array.getElem?_eq_some_iff.1 HX7.out).1]; exact HX7.out
              clear hb
              refine hK _ _ ?_
              clear hK K
              refine take_on 17 (v := ?_) rfl rfl (by kernel_rfl) (by kernel_rfl) (by kernel_rfl) (fun _ _ _ h => h) (by rfl) (fun w => ?_) ?_
              rotate_left
              · (go_simp; try with_reducible rfl)
              simp only [List.setIfInBounds_toArray, List.set_cons_zero, List.set_cons_succ]
              refine take_on 18 (v := ?_) rfl rfl (by kernel_rfl) (by kernel_rfl) (by kernel_rfl) (fun _ _ _ h => h) (by rfl) (fun w => ?_) ?_
              rotate_left
              · (go_simp; try with_reducible rfl)
              simp only [List.setIfInBounds_toArray, List.set_cons_zero, List.set_cons_succ]
              refine take_on 19 (v := ?_) rfl rfl (by kernel_rfl) (by kernel_rfl) (by kernel_rfl) (fun _ _ _ h => h) (by rfl) (fun w => ?_) ?_
              rotate_left
              · (go_simp; try with_reducible rfl)
              simp only [List.setIfInBounds_toArray, List.set_cons_zero, List.set_cons_succ]
              refine wpAny_ready (rs := [21]) (by kernel_rfl) (by simp) (AllReady.cons rfl (fun K hK => ?_) AllReady.nil)
              have z0 : w8.cell? ⟨w6.heap.size, 0, none⟩ = some (.int .i64 0) := by rw [in_block HX8.out 0]; rfl
              have z1 : w8.cell? ⟨w6.heap.size, 1, none⟩ = some (.int .i64 0) := by rw [in_block HX8.out 1]; rfl
              have z2 : w8.cell? ⟨w6.heap.size, 2, none⟩ = some (.int .i64 0) := by rw [in_block HX8.out 2]; rfl
              have z3 : w8.cell? ⟨w6.heap.size, 3, none⟩ = some (.int .i64 0) := by rw [in_block HX8.out 3]; rfl
              have z4 : w8.cell? ⟨w6.heap.size, 4, none⟩ = some (.int .i64 0) := by rw [in_block HX8.out 4]; rfl
              have z5 : w8.cell? ⟨w6.heap.size, 5, none⟩ = some (.slice none 0 0) := by rw [in_block HX8.out 5]; rfl
              have z6 : w8.cell? ⟨w6.heap.size, 6, none⟩ = some (.slice none 0 0) := by rw [in_block HX8.out 6]; rfl
              have fz0 : w8.frozen? ⟨w6.heap.size, 0, none⟩ = false := free_block HX8.out 0
              have fz1 : w8.frozen? ⟨w6.heap.size, 1, none⟩ = false := free_block HX8.out 1
              have fz2 : w8.frozen? ⟨w6.heap.size, 2, none⟩ = false := free_block HX8.out 2
              have fz3 : w8.frozen? ⟨w6.heap.size, 3, none⟩ = false := free_block HX8.out 3
              have fz4 : w8.frozen? ⟨w6.heap.size, 4, none⟩ = false := free_block HX8.out 4
              have fz5 : w8.frozen? ⟨w6.heap.size, 5, none⟩ = false := free_block HX8.out 5
              have fz6 : w8.frozen? ⟨w6.heap.size, 6, none⟩ = false := free_block HX8.out 6
              go_simp
              obtain ⟨w20, hw20⟩ : ∃ w20, w20 = (((((((w8.setCell ⟨w6.heap.size, 0, none⟩ (.int .i64 0)).setCell ⟨w6.heap.size, 1, none⟩ (.int .i64 0)).setCell ⟨w6.heap.size, 2, none⟩ (.int .i64 0)).setCell ⟨w6.heap.size, 3, none⟩ (.int .i64 0)).setCell ⟨w6.heap.size, 4, none⟩ (.int .i64 0)).setCell ⟨w6.heap.size, 5, none⟩ (.slice none 0 0)).setCell ⟨w6.heap.size, 6, none⟩ (.slice none 0 0)) := ⟨_, rfl⟩
              rw [← hw20]
              have HB20 : Hid (Below w1.heap.size w1 w20) := by rw [hw20]; exact (((((((HB8.out).setCell (p := ⟨w6.heap.size, 0, none⟩) HB6.out.size (.int .i64 0)).setCell (p := ⟨w6.heap.size, 1, none⟩) HB6.out.size (.int .i64 0)).setCell (p := ⟨w6.heap.size, 2, none⟩) HB6.out.size (.int .i64 0)).setCell (p := ⟨w6.heap.size, 3, none⟩) HB6.out.size (.int .i64 0)).setCell (p := ⟨w6.heap.size, 4, none⟩) HB6.out.size (.int .i64 0)).setCell (p := ⟨w6.heap.size, 5, none⟩) HB6.out.size (.slice none 0 0)).setCell (p := ⟨w6.heap.size, 6, none⟩) HB6.out.size (.slice none 0 0)
              clear hw20 z0 fz0 z1 fz1 z2 fz2 z3 fz3 z4 fz4 z5 fz5 z6 fz6
              refine hK _ _ ?_
              clear hK K
              refine take_on 22 (v := ?_) rfl rfl (by kernel_rfl) (by kernel_rfl) (by kernel_rfl) (fun _ _ _ h => h) (by rfl) (fun w => ?_) ?_
              rotate_left
              · (go_simp; try with_reducible rfl)
              simp only [List.setIfInBounds_toArray, List.set_cons_zero, List.set_cons_succ]
              refine wpAny_done (by kernel_rfl) ?_ _
              go_wp2_with fail
              refine (CUT.out _ HB20.out).mono ?_
              rintro ee w21 ⟨rfl, hb⟩
              have HB21 := hid (HB20.out.trans (hb.mono HB20.out.size))
              clear hb
              go_wp2
              go_ret
              exact ⟨rfl, HB.out.trans ((HB21.out.alloc HB21.out.size _).mono HB.out.size)⟩
          · go_simp
            obtain ⟨w7, hw7⟩ : ∃ w7, w7 = w6.alloc (.cells #[.int .i64 0, .int .i64 0, .int .i64 0, .int .i64 0, .int .i64 0, .slice none 0 0, .slice none 0 0] 26) := ⟨_, rfl⟩
            rw [← hw7]
            have hal : Below w6.heap.size w6 w7 := by rw [hw7]; exact (Below.refl _ _).alloc (Nat.le_refl _) _
            have HB7 := hid (HB6.out.trans (hal.mono HB6.out.size))
            have HC7 : Hid (w7.cell? ⟨w5.heap.size, 0, none⟩ = some (.int .u8 (c9.toNat : Int))) := by show _ = _; rw [hal.cell (p := ⟨w5.heap.size, 0, none⟩) (World.block_lt_of_cell? _ _ HC6.out)]; exact HC6.out
            have HX7 : Hid (w7.heap[w6.heap.size]? = some (.cells #[.int .i64 0, .int .i64 0, .int .i64 0, .int .i64 0, .int .i64 0, .slice none 0 0, .slice none 0 0] 26 (0, 0))) := by rw [hw7]; exact alloc_new _ _
            clear hal hw7
            refine hK _ _ ?_
            clear hK K
            refine wpAny_ready (rs := [9]) (by kernel_rfl) (by simp) (AllReady.cons rfl (fun K hK => ?_) AllReady.nil)
            have hcv := conv2 w7 w5.heap.size c9 HC7.out
            go_simp
            refine hK _ _ ?_
            clear hK K hcv
            have hb1 := fun W => run_string_add_sum (P := Tryd.prog) (w := W) (t.extract 0 k) ⟨#[c9]⟩ (by rw [ByteArray.size_extract, sz1']; omega)
            have hb2 := fun W => run_string_add_sum (P := Tryd.prog) (w := W) (t.extract 0 k ++ ⟨#[c9]⟩) (t.extract (k + 1) t.size) (by rw [ByteArray.size_append, ByteArray.size_extract, ByteArray.size_extract, sz1']; omega)
            refine take_on 10 (v := ?_) rfl rfl (by kernel_rfl) (by kernel_rfl) (by kernel_rfl) (fun _ _ _ h => h) (by rfl) (fun w => ?_) ?_
            rotate_left
            · (go_simp; try with_reducible rfl)
            simp only [List.setIfInBounds_toArray, List.set_cons_zero, List.set_cons_succ]
            refine take_on 15 (v := .string (otherByte t k c9)) rfl rfl (by kernel_rfl) (by kernel_rfl) (by kernel_rfl) (fun _ _ _ h => h) (by rfl) (fun w => ?_) ?_
            · (go_simp; rfl)
            simp only [List.setIfInBounds_toArray, List.set_cons_zero, List.set_cons_succ]
            clear hb1 hb2
            refine wpAny_ready (rs := [16]) (by kernel_rfl) (by simp) (AllReady.cons rfl (fun K hK => ?_) AllReady.nil)
            go_simp
            go_wp2_with fail
            refine (CX.out _ HB7.out).mono ?_
            rintro ee w8 ⟨rfl, hb⟩
            have HB8 := hid (HB7.out.trans (hb.mono HB7.out.size))
            have HX8 : Hid (w8.heap[w6.heap.size]? = some (.cells #[.int .i64 0, .int .i64 0, .int .i64 0, .int .i64 0, .int .i64 0, .slice none 0 0, .slice none 0 0] 26 (0, 0))) := by show _ = _; rw [hb.block _ (Array.getElem?_eq_some_iff.1 HX7.out).1]; exact HX7.out
            clear hb
            refine hK _ _ ?_
            clear hK K
            refine take_on 17 (v := ?_) rfl rfl (by kernel_rfl) (by kernel_rfl) (by kernel_rfl) (fun _ _ _ h => h) (by rfl) (fun w => ?_) ?_
            rotate_left
            · (go_simp; try with_reducible rfl)
            simp only [List.setIfInBounds_toArray, List.set_cons_zero, List.set_cons_succ]
            refine take_on 18 (v := ?_) rfl rfl (by kernel_rfl) (by kernel_rfl) (by kernel_rfl) (fun _ _ _ h => h) (by rfl) (fun w => ?_) ?_
            rotate_left
            · (go_simp; try with_reducible rfl)
            simp only [List.setIfInBounds_toArray, List.set_cons_zero, List.set_cons_succ]
            refine take_on 19 (v := ?_) rfl rfl (by kernel_rfl) (by kernel_rfl) (by kernel_rfl) (fun _ _ _ h => h) (by rfl) (fun w => ?_) ?_
            rotate_left
            · (go_simp; try with_reducible rfl)
            simp only [List.setIfInBounds_toArray, List.set_cons_zero, List.set_cons_succ]
            refine wpAny_ready (rs := [21]) (by kernel_rfl) (by simp) (AllReady.cons rfl (fun K hK => ?_) AllReady.nil)
            have z0 : w8.cell? ⟨w6.heap.size, 0, none⟩ = some (.int .i64 0) := by rw [in_block HX8.out 0]; rfl
            have z1 : w8.cell? ⟨w6.heap.size, 1, none⟩ = some (.int .i64 0) := by rw [in_block HX8.out 1]; rfl
            have z2 : w8.cell? ⟨w6.heap.size, 2, none⟩ = some (.int .i64 0) := by rw [in_block HX8.out 2]; rfl
            have z3 : w8.cell? ⟨w6.heap.size, 3, none⟩ = some (.int .i64 0) := by rw [in_block HX8.out 3]; rfl
            have z4 : w8.cell? ⟨w6.heap.size, 4, none⟩ = some (.int .i64 0) := by rw [in_block HX8.out 4]; rfl
            have z5 : w8.cell? ⟨w6.heap.size, 5, none⟩ = some (.slice none 0 0) := by rw [in_block HX8.out 5]; rfl
            have z6 : w8.cell? ⟨w6.heap.size, 6, none⟩ = some (.slice none 0 0) := by rw [in_block HX8.out 6]; rfl
            have fz0 : w8.frozen? ⟨w6.heap.size, 0, none⟩ = false := free_block HX8.out 0
            have fz1 : w8.frozen? ⟨w6.heap.size, 1, none⟩ = false := free_block HX8.out 1
            have fz2 : w8.frozen? ⟨w6.heap.size, 2, none⟩ = false := free_block HX8.out 2
            have fz3 : w8.frozen? ⟨w6.heap.size, 3, none⟩ = false := free_block HX8.out 3
            have fz4 : w8.frozen? ⟨w6.heap.size, 4, none⟩ = false := free_block HX8.out 4
            have fz5 : w8.frozen? ⟨w6.heap.size, 5, none⟩ = false := free_block HX8.out 5
            have fz6 : w8.frozen? ⟨w6.heap.size, 6, none⟩ = false := free_block HX8.out 6
            go_simp
            obtain ⟨w20, hw20⟩ : ∃ w20, w20 = (((((((w8.setCell ⟨w6.heap.size, 0, none⟩ (.int .i64 0)).setCell ⟨w6.heap.size, 1, none⟩ (.int .i64 0)).setCell ⟨w6.heap.size, 2, none⟩ (.int .i64 0)).setCell ⟨w6.heap.size, 3, none⟩ (.int .i64 0)).setCell ⟨w6.heap.size, 4, none⟩ (.int .i64 0)).setCell ⟨w6.heap.size, 5, none⟩ (.slice none 0 0)).setCell ⟨w6.heap.size, 6, none⟩ (.slice none 0 0)) := ⟨_, rfl⟩
            rw [← hw20]
            have HB20 : Hid (Below w1.heap.size w1 w20) := by rw [hw20]; exact (((((((HB8.out).setCell (p := ⟨w6.heap.size, 0, none⟩) HB6.out.size (.int .i64 0)).setCell (p := ⟨w6.heap.size, 1, none⟩) HB6.out.size (.int .i64 0)).setCell (p := ⟨w6.heap.size, 2, none⟩) HB6.out.size (.int .i64 0)).setCell (p := ⟨w6.heap.size, 3, none⟩) HB6.out.size (.int .i64 0)).setCell (p := ⟨w6.heap.size, 4, none⟩) HB6.out.size (.int .i64 0)).setCell (p := ⟨w6.heap.size, 5, none⟩) HB6.out.size (.slice none 0 0)).setCell (p := ⟨w6.heap.size, 6, none⟩) HB6.out.size (.slice none 0 0)
            clear hw20 z0 fz0 z1 fz1 z2 fz2 z3 fz3 z4 fz4 z5 fz5 z6 fz6
            refine hK _ _ ?_
            clear hK K
            refine take_on 22 (v := ?_) rfl rfl (by kernel_rfl) (by kernel_rfl) (by kernel_rfl) (fun _ _ _ h => h) (by rfl) (fun w => ?_) ?_
            rotate_left
            · (go_simp; try with_reducible rfl)
            simp only [List.setIfInBounds_toArray, List.set_cons_zero, List.set_cons_succ]
            refine wpAny_done (by kernel_rfl) ?_ _
            go_wp2_with fail
            refine (CUT.out _ HB20.out).mono ?_
            rintro ee w21 ⟨rfl, hb⟩
            have HB21 := hid (HB20.out.trans (hb.mono HB20.out.size))
            clear hb
            go_wp2
            go_ret
            exact ⟨rfl, HB.out.trans ((HB21.out.alloc HB21.out.size _).mono HB.out.size)⟩
        · go_simp
          obtain ⟨w6, hw6⟩ : ∃ w6, w6 = w5.alloc (.cells #[.int .i64 0, .int .i64 0, .int .i64 0, .int .i64 0, .int .i64 0, .slice none 0 0, .slice none 0 0] 26) := ⟨_, rfl⟩
          rw [← hw6]
          have hal : Below w5.heap.size w5 w6 := by rw [hw6]; exact (Below.refl _ _).alloc (Nat.le_refl _) _
          have HB6 := hid (HB5.out.trans (hal.mono HB5.out.size))
          have HX6 : Hid (w6.heap[w5.heap.size]? = some (.cells #[.int .i64 0, .int .i64 0, .int .i64 0, .int .i64 0, .int .i64 0, .slice none 0 0, .slice none 0 0] 26 (0, 0))) := by rw [hw6]; exact alloc_new _ _
          clear hal hw6
          refine hK _ _ ?_
          clear hK K
          refine wpAny_ready (rs := [8]) (by kernel_rfl) (by simp) (AllReady.cons rfl (fun K hK => ?_) AllReady.nil)
          go_simp
          obtain ⟨w7, hw7⟩ : ∃ w7, w7 = w6.alloc (.cells #[.int .u8 (c9.toNat : Int)] 5) := ⟨_, rfl⟩
          rw [← hw7]
          have hal : Below w6.heap.size w6 w7 := by rw [hw7]; exact (Below.refl _ _).alloc (Nat.le_refl _) _
          have HB7 := hid (HB6.out.trans (hal.mono HB6.out.size))
          have HC7 : Hid (w7.cell? ⟨w6.heap.size, 0, none⟩ = some (.int .u8 (c9.toNat : Int))) := by rw [hw7]; show _ = _; simp
          have HX7 : Hid (w7.heap[w5.heap.size]? = some (.cells #[.int .i64 0, .int .i64 0, .int .i64 0, .int .i64 0, .int .i64 0, .slice none 0 0, .slice none 0 0] 26 (0, 0))) := by rw [hw7]; exact alloc_keep HX6.out
          clear hal hw7
          refine hK _ _ ?_
          clear hK K
          refine wpAny_ready (rs := [9]) (by kernel_rfl) (by simp) (AllReady.cons rfl (fun K hK => ?_) AllReady.nil)
          have hcv := conv2 w7 w6.heap.size c9 HC7.out
          go_simp
          refine hK _ _ ?_
          clear hK K hcv
          have hb1 := fun W => run_string_add_sum (P := Tryd.prog) (w := W) (t.extract 0 k) ⟨#[c9]⟩ (by rw [ByteArray.size_extract, sz1']; omega)
          have hb2 := fun W => run_string_add_sum (P := Tryd.prog) (w := W) (t.extract 0 k ++ ⟨#[c9]⟩) (t.extract (k + 1) t.size) (by rw [ByteArray.size_append, ByteArray.size_extract, ByteArray.size_extract, sz1']; omega)
          refine take_on 10 (v := ?_) rfl rfl (by kernel_rfl) (by kernel_rfl) (by kernel_rfl) (fun _ _ _ h => h) (by rfl) (fun w => ?_) ?_
          rotate_left
          · (go_simp; try with_reducible rfl)
          simp only [List.setIfInBounds_toArray, List.set_cons_zero, List.set_cons_succ]
          refine take_on 15 (v := .string (otherByte t k c9)) rfl rfl (by kernel_rfl) (by kernel_rfl) (by kernel_rfl) (fun _ _ _ h => h) (by rfl) (fun w => ?_) ?_
          · (go_simp; rfl)
          simp only [List.setIfInBounds_toArray, List.set_cons_zero, List.set_cons_succ]
          clear hb1 hb2
          refine wpAny_ready (rs := [16]) (by kernel_rfl) (by simp) (AllReady.cons rfl (fun K hK => ?_) AllReady.nil)
          go_simp
          go_wp2_with fail
          refine (CX.out _ HB7.out).mono ?_
          rintro ee w8 ⟨rfl, hb⟩
          have HB8 := hid (HB7.out.trans (hb.mono HB7.out.size))
          have HX8 : Hid (w8.heap[w5.heap.size]? = some (.cells #[.int .i64 0, .int .i64 0, .int .i64 0, .int .i64 0, .int .i64 0, .slice none 0 0, .slice none 0 0] 26 (0, 0))) := by show _ = _; rw [hb.block _ (Array.getElem?_eq_some_iff.1 HX7.out).1]; exact HX7.out
          clear hb
          refine hK _ _ ?_
          clear hK K
          refine take_on 17 (v := ?_) rfl rfl (by kernel_rfl) (by kernel_rfl) (by kernel_rfl) (fun _ _ _ h => h) (by rfl) (fun w => ?_) ?_
          rotate_left
          · (go_simp; try with_reducible rfl)
          simp only [List.setIfInBounds_toArray, List.set_cons_zero, List.set_cons_succ]
          refine take_on 18 (v := ?_) rfl rfl (by kernel_rfl) (by kernel_rfl) (by kernel_rfl) (fun _ _ _ h => h) (by rfl) (fun w => ?_) ?_
          rotate_left
          · (go_simp; try with_reducible rfl)
          simp only [List.setIfInBounds_toArray, List.set_cons_zero, List.set_cons_succ]
          refine take_on 19 (v := ?_) rfl rfl (by kernel_rfl) (by kernel_rfl) (by kernel_rfl) (fun _ _ _ h => h) (by rfl) (fun w => ?_) ?_
          rotate_left
          · (go_simp; try with_reducible rfl)
          simp only [List.setIfInBounds_toArray, List.set_cons_zero, List.set_cons_succ]
          refine wpAny_ready (rs := [21]) (by kernel_rfl) (by simp) (AllReady.cons rfl (fun K hK => ?_) AllReady.nil)
          have z0 : w8.cell? ⟨w5.heap.size, 0, none⟩ = some (.int .i64 0) := by rw [in_block HX8.out 0]; rfl
          have z1 : w8.cell? ⟨w5.heap.size, 1, none⟩ = some (.int .i64 0) := by rw [in_block HX8.out 1]; rfl
          have z2 : w8.cell? ⟨w5.heap.size, 2, none⟩ = some (.int .i64 0) := by rw [in_block HX8.out 2]; rfl
          have z3 : w8.cell? ⟨w5.heap.size, 3, none⟩ = some (.int .i64 0) := by rw [in_block HX8.out 3]; rfl
          have z4 : w8.cell? ⟨w5.heap.size, 4, none⟩ = some (.int .i64 0) := by rw [in_block HX8.out 4]; rfl
          have z5 : w8.cell? ⟨w5.heap.size, 5, none⟩ = some (.slice none 0 0) := by rw [in_block HX8.out 5]; rfl
          have z6 : w8.cell? ⟨w5.heap.size, 6, none⟩ = some (.slice none 0 0) := by rw [in_block HX8.out 6]; rfl
          have fz0 : w8.frozen? ⟨w5.heap.size, 0, none⟩ = false := free_block HX8.out 0
          have fz1 : w8.frozen? ⟨w5.heap.size, 1, none⟩ = false := free_block HX8.out 1
          have fz2 : w8.frozen? ⟨w5.heap.size, 2, none⟩ = false := free_block HX8.out 2
          have fz3 : w8.frozen? ⟨w5.heap.size, 3, none⟩ = false := free_block HX8.out 3
          have fz4 : w8.frozen? ⟨w5.heap.size, 4, none⟩ = false := free_block HX8.out 4
          have fz5 : w8.frozen? ⟨w5.heap.size, 5, none⟩ = false := free_block HX8.out 5
          have fz6 : w8.frozen? ⟨w5.heap.size, 6, none⟩ = false := free_block HX8.out 6
          go_simp
          obtain ⟨w20, hw20⟩ : ∃ w20, w20 = (((((((w8.setCell ⟨w5.heap.size, 0, none⟩ (.int .i64 0)).setCell ⟨w5.heap.size, 1, none⟩ (.int .i64 0)).setCell ⟨w5.heap.size, 2, none⟩ (.int .i64 0)).setCell ⟨w5.heap.size, 3, none⟩ (.int .i64 0)).setCell ⟨w5.heap.size, 4, none⟩ (.int .i64 0)).setCell ⟨w5.heap.size, 5, none⟩ (.slice none 0 0)).setCell ⟨w5.heap.size, 6, none⟩ (.slice none 0 0)) := ⟨_, rfl⟩
          rw [← hw20]
          have HB20 : Hid (Below w1.heap.size w1 w20) := by rw [hw20]; exact (((((((HB8.out).setCell (p := ⟨w5.heap.size, 0, none⟩) HB5.out.size (.int .i64 0)).setCell (p := ⟨w5.heap.size, 1, none⟩) HB5.out.size (.int .i64 0)).setCell (p := ⟨w5.heap.size, 2, none⟩) HB5.out.size (.int .i64 0)).setCell (p := ⟨w5.heap.size, 3, none⟩) HB5.out.size (.int .i64 0)).setCell (p := ⟨w5.heap.size, 4, none⟩) HB5.out.size (.int .i64 0)).setCell (p := ⟨w5.heap.size, 5, none⟩) HB5.out.size (.slice none 0 0)).setCell (p := ⟨w5.heap.size, 6, none⟩) HB5.out.size (.slice none 0 0)
          clear hw20 z0 fz0 z1 fz1 z2 fz2 z3 fz3 z4 fz4 z5 fz5 z6 fz6
          refine hK _ _ ?_
          clear hK K
          refine take_on 22 (v := ?_) rfl rfl (by kernel_rfl) (by kernel_rfl) (by kernel_rfl) (fun _ _ _ h => h) (by rfl) (fun w => ?_) ?_
          rotate_left
          · (go_simp; try with_reducible rfl)
          simp only [List.setIfInBounds_toArray, List.set_cons_zero, List.set_cons_succ]
          refine wpAny_done (by kernel_rfl) ?_ _
          go_wp2_with fail
          refine (CUT.out _ HB20.out).mono ?_
          rintro ee w21 ⟨rfl, hb⟩
          have HB21 := hid (HB20.out.trans (hb.mono HB20.out.size))
          clear hb
          go_wp2
          go_ret
          exact ⟨rfl, HB.out.trans ((HB21.out.alloc HB21.out.size _).mono HB.out.size)⟩

end Go.Proofs.YtijdjplajhcilabDoor

