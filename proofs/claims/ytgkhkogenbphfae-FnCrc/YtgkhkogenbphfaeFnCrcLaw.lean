/- DERIVED. The law FnCrc at every code. -/
import Derived.Test.YtgkhkogenbphfaeCrcWalks
import Derived.Test.YtgkhkogenbphfaeCrcDiff
import Derived.Test.YtgkhkogenbphfaeDrawHost2
import Derived.Laws.IdiomStrings
namespace Go.Proofs.Ytgkhkogenbphfae
open Go.RowKit

set_option maxHeartbeats 800000 in
theorem drawCrc_any (oa : Option Addr) (len cap : Nat) (w : World) (h : CodeAt w oa len) (hc : len ≤ cap) (hm : cap ≤ maxLen) :
    Calls Try.prog 4 #[.slice oa len cap] w fun e w' => ∃ s : ByteArray, e = .returned (.string s) ∧ s.size ≤ 20 ∧ Below w.heap.size w w' := by
  have HC := hid h
  clear h
  go_enter Try.func4, Try.ntmps4
  go_wp2_with fail
  refine (open_any oa len cap _ HC.out hc hm).mono ?_
  rintro e w1 ⟨rfl, ⟨l, c, hr⟩, hb⟩
  have HR := hid hr
  have HB := hid hb
  have hRo := hr.old
  clear hr hb
  go_wp2_with fail
  refine (of_any w.heap.size _ 5 16 oa l c 0 _ (HR.out.keep ((Below.refl _ _).alloc (Nat.le_refl _) _)) (by omega) (by decide) (by decide) ?_ ?_ ?_).mono ?_
  · simp
  · omega
  · exact strs_new _ _ _ 16 _ 5 (by simp) (by rfl) (by kernel_rfl)
  rintro e w2 ⟨⟨p, rfl, hp⟩, hd⟩
  have HD := hid hd
  have hz2 := hd.2.size
  simp at hz2
  clear hd
  go_wp2_with fail
  refine (of_any w.heap.size _ 3 1 oa l c 1 _ (HD.out.1.keep ((Below.refl _ _).alloc (Nat.le_refl _) _)) (by omega) (by decide) (by decide) ?_ ?_ ?_).mono ?_
  · simp
  · omega
  · exact strs_new _ _ _ 1 _ 3 (by simp) (by rfl) (by kernel_rfl)
  rintro e w3 ⟨⟨s, rfl, hs⟩, hd⟩
  have HD3 := hid hd
  clear hd
  have hadd := fun W => run_string_add_sum (P := Try.prog) (w := W) p s (by omega)
  go_wp2
  refine bodyPost_ret (v := .string (p ++ s)) (by simp [results, Try.results4, go_sem]) rfl ⟨p ++ s, rfl, by rw [ByteArray.size_append]; omega, ?_⟩
  refine HD3.out.2.below _ _ (Nat.le_refl _) ?_
  refine Below.alloc ?_ (by omega) _
  refine HD.out.2.below _ _ (Nat.le_refl _) ?_
  exact HB.out.alloc (by omega) _

theorem sz1 (c : UInt8) : (⟨#[c]⟩ : ByteArray).size = 1 := rfl
theorem conv_one (W : World) (c : UInt8) : (convert 22 9 (.slice (some ⟨W.heap.size, 0, none⟩) 1 1)).run Try.prog ((W.alloc (.cells #[.int .u8 (c.toNat : Int)] 5)).drew) = .ok (.string ⟨#[c]⟩) ((W.alloc (.cells #[.int .u8 (c.toNat : Int)] 5)).drew) :=
  run_convert_bytes_back (P := Try.prog) ((W.alloc (.cells #[.int .u8 (c.toNat : Int)] 5)).drew) 22 9 5 ⟨W.heap.size, 0, none⟩ 1 [c] Try.underlying22 Try.underlying5 Try.underlying9 (by
    intro j hj
    have h0 : j = 0 := by simpa using hj
    subst h0
    simp [Addr.add])

theorem crc_nine : crcP ⟨#[49, 50, 51, 52, 53, 54, 55, 56, 57]⟩ = 3421780262 := by kernel_rfl
theorem crc_empty : crcP ⟨#[]⟩ = 0 := by kernel_rfl

set_option maxHeartbeats 1600000 in
theorem law_any (oa o1 : Option Addr) (len cap len1 cap1 : Nat) (w : World) (h : CodeAt w oa len) (_h1 : CodeAt w o1 len1) (hc : len ≤ cap) (hm : cap ≤ maxLen) (_hc1 : len1 ≤ cap1) (hm1 : cap1 ≤ maxLen) :
    Calls Try.prog 3 #[.slice oa len cap, .slice o1 len1 cap1] w fun e w' => e = .returned (.bool true) ∧ Below w.heap.size w w' := by
  have hm' : cap ≤ 2 ^ 63 - 1 := hm
  have hm1' : cap1 ≤ 2 ^ 63 - 1 := hm1
  have HC := hid h
  clear h
  by_cases hl : 1048576 < (len : Int)
  · go_enter Try.func3, Try.ntmps3
    go_wp2
    go_ret
    exact ⟨rfl, Below.refl _ _⟩
  by_cases hl1 : 1048576 < (len1 : Int)
  · go_enter Try.func3, Try.ntmps3
    go_wp2
    go_ret
    exact ⟨rfl, Below.refl _ _⟩
  go_enter Try.func3, Try.ntmps3
  go_wp2_with fail
  refine (drawCrc_any oa len cap _ HC.out hc hm).mono ?_
  rintro e w1 ⟨s, rfl, hs, hb⟩
  have HB := hid hb
  clear hb
  have hmx : s.size ≤ maxLen := by unfold maxLen; omega
  have C1 : Hid (∀ w, Calls Try.prog 5 #[.string s] w fun e w' => e = .returned (.int .i64 (crcP s : Nat)) ∧ w' = w) := fun w => implCrc_any s w hmx
  have C2 : Hid (∀ w, Calls Try.prog 6 #[.string s] w fun e w' => e = .returned (.int .i64 (crcP s : Nat)) ∧ w' = w) := fun w => specCrc_any s w hmx
  have C3 : Hid (∀ w, Calls Try.prog 5 #[.string ⟨#[49, 50, 51, 52, 53, 54, 55, 56, 57]⟩] w fun e w' => e = .returned (.int .i64 3421780262) ∧ w' = w) := fun w => by have := implCrc_any ⟨#[49, 50, 51, 52, 53, 54, 55, 56, 57]⟩ w (by unfold maxLen; decide); rw [crc_nine] at this; exact this
  have C4 : Hid (∀ w, Calls Try.prog 5 #[.string ⟨#[]⟩] w fun e w' => e = .returned (.int .i64 0) ∧ w' = w) := fun w => by have := implCrc_any ⟨#[]⟩ w (by unfold maxLen; decide); rw [crc_empty] at this; exact this
  have hcl := crcP_lt s
  obtain ⟨n, hn⟩ : ∃ n, n = crcP s := ⟨_, rfl⟩
  rw [← hn] at C1 C2 hcl
  have HN := hid hn
  clear hn
  go_wp2_with fail
  refine (C1.out _).mono ?_
  rintro e w2 ⟨rfl, rfl⟩
  go_wp2_with fail
  refine (C2.out _).mono ?_
  rintro e w2 ⟨rfl, rfl⟩
  go_wp2_with fail
  refine (C3.out _).mono ?_
  rintro e w2 ⟨rfl, rfl⟩
  go_wp2_with fail
  refine (C4.out _).mono ?_
  rintro e w2 ⟨rfl, rfl⟩
  by_cases h0 : s.toList.isEmpty = true
  · go_wp2
    go_ret
    exact ⟨rfl, HB.out⟩
  have h0' : s.toList.isEmpty = false := by simpa using h0
  have hz : 0 < s.size := by
    rcases Nat.eq_zero_or_pos s.size with e | e
    · rw [← len_toList] at e; simp at e; simp [e] at h0'
    · exact e
  have hzI : ((s.size : Int) == 0) = false := by rw [beq_eq_false_iff_ne]; omega
  obtain ⟨k, hk⟩ : ∃ k, k = len1 % s.size := ⟨_, rfl⟩
  have hks : k < s.size := by rw [hk]; exact Nat.mod_lt _ hz
  have hmod : (len1 : Int).tmod s.size = (k : Int) := by rw [Int.tmod_eq_emod_of_nonneg (by omega), hk]; simp
  clear hk h0
  have hksI : (k : Int) < s.size := by omega
  have hkle : k ≤ s.size := by omega
  obtain ⟨c, hwc⟩ : ∃ c : UInt8, IntKind.u8.wrap ((s[k].toNat : Int) + 1) = (c.toNat : Int) := ⟨s[k] + 1, by rw [IntKind.wrap_u8']; have := s[k].toNat_lt; simp [UInt8.toNat_add]⟩
  have hcne : c ≠ s[k] := by
    intro e
    rw [e, IntKind.wrap_u8'] at hwc
    have := s[k].toNat_lt
    omega
  have hox := crcP_other s k c hks hcne
  rw [← HN.out] at hox
  have C5 : Hid (∀ w, Calls Try.prog 5 #[.string (otherByte s k c)] w fun e w' => e = .returned (.int .i64 (crcP (otherByte s k c) : Nat)) ∧ w' = w) := fun w => implCrc_any _ w (by
    have := congrArg List.length (otherByte_list s k c)
    simp at this
    unfold maxLen
    have e : (otherByte s k c).size = (otherByte s k c).data.size := rfl
    omega)
  obtain ⟨n2, hn2⟩ : ∃ n2, n2 = crcP (otherByte s k c) := ⟨_, rfl⟩
  rw [← hn2] at hox C5
  clear hn2
  have hne : ((n2 : Int) == (n : Int)) = false := by rw [beq_eq_false_iff_ne]; omega
  have hwr : IntKind.i64.wrap ((k : Int) + 1) = (k : Int) + 1 := by rw [IntKind.wrap_i64]; omega
  go_wp2_with fail
  refine wp_region_any (by kernel_rfl) ?_
  change wpAny _ _ _ _ _ _ _ (World.drew _)
  refine take_on 0 (v := ?_) rfl rfl (by kernel_rfl) (by kernel_rfl) (by kernel_rfl) (fun _ _ _ h => h) (by rfl) (fun w => ?_) ?_
  rotate_left
  · (go_simp; try with_reducible rfl)
  simp only [List.setIfInBounds_toArray, List.set_cons_zero, List.set_cons_succ]
  refine take_on 1 (v := ?_) rfl rfl (by kernel_rfl) (by kernel_rfl) (by kernel_rfl) (fun _ _ _ h => h) (by rfl) (fun w => ?_) ?_
  rotate_left
  · (go_simp; try with_reducible rfl)
  simp only [List.setIfInBounds_toArray, List.set_cons_zero, List.set_cons_succ]
  refine take_on 2 (v := ?_) rfl rfl (by kernel_rfl) (by kernel_rfl) (by kernel_rfl) (fun _ _ _ h => h) (by rfl) (fun w => ?_) ?_
  rotate_left
  · (go_simp; try with_reducible rfl)
  simp only [List.setIfInBounds_toArray, List.set_cons_zero, List.set_cons_succ]
  refine take_on 3 (v := ?_) rfl rfl (by kernel_rfl) (by kernel_rfl) (by kernel_rfl) (fun _ _ _ h => h) (by rfl) (fun w => ?_) ?_
  rotate_left
  · (go_simp; try with_reducible rfl)
  simp only [List.setIfInBounds_toArray, List.set_cons_zero, List.set_cons_succ]
  refine take_on 4 (v := ?_) rfl rfl (by kernel_rfl) (by kernel_rfl) (by kernel_rfl) (fun _ _ _ h => h) (by rfl) (fun w => ?_) ?_
  rotate_left
  · (go_simp; try with_reducible rfl)
  simp only [List.setIfInBounds_toArray, List.set_cons_zero, List.set_cons_succ]
  refine take_on 5 (v := ?_) rfl rfl (by kernel_rfl) (by kernel_rfl) (by kernel_rfl) (fun _ _ _ h => h) (by rfl) (fun w => ?_) ?_
  rotate_left
  · (go_simp; try with_reducible rfl)
  simp only [List.setIfInBounds_toArray, List.set_cons_zero, List.set_cons_succ]
  refine take_on 6 (v := .int .u8 (c.toNat : Int)) rfl rfl (by kernel_rfl) (by kernel_rfl) (by kernel_rfl) (fun _ _ _ h => h) (by rfl) (fun w => ?_) ?_
  · (go_simp; try (rw [hwc]))
  simp only [List.setIfInBounds_toArray, List.set_cons_zero, List.set_cons_succ]
  refine take_on 10 (v := ?_) rfl rfl (by kernel_rfl) (by kernel_rfl) (by kernel_rfl) (fun _ _ _ h => h) (by rfl) (fun w => ?_) ?_
  rotate_left
  · (go_simp; try with_reducible rfl)
  simp only [List.setIfInBounds_toArray, List.set_cons_zero, List.set_cons_succ]
  refine take_on 11 (v := ?_) rfl rfl (by kernel_rfl) (by kernel_rfl) (by kernel_rfl) (fun _ _ _ h => h) (by rfl) (fun w => ?_) ?_
  rotate_left
  · (go_simp; try with_reducible rfl)
  simp only [List.setIfInBounds_toArray, List.set_cons_zero, List.set_cons_succ]
  refine take_on 16 (v := ?_) rfl rfl (by kernel_rfl) (by kernel_rfl) (by kernel_rfl) (fun _ _ _ h => h) (by rfl) (fun w => ?_) ?_
  rotate_left
  · (go_simp; try with_reducible rfl)
  simp only [List.setIfInBounds_toArray, List.set_cons_zero, List.set_cons_succ]
  refine take_on 12 (v := .int .i64 ((k : Int) + 1)) rfl rfl (by kernel_rfl) (by kernel_rfl) (by kernel_rfl) (fun _ _ _ h => h) (by rfl) (fun w => ?_) ?_
  · (go_simp; try (rw [hwr]))
  simp only [List.setIfInBounds_toArray, List.set_cons_zero, List.set_cons_succ]
  refine take_on 13 (v := .string (s.extract (k + 1) s.size)) rfl rfl (by kernel_rfl) (by kernel_rfl) (by kernel_rfl) (fun _ _ _ h => h) (by rfl) (fun w => ?_) ?_
  · (go_simp; (intro hh; have := hh (by omega); omega))
  simp only [List.setIfInBounds_toArray, List.set_cons_zero, List.set_cons_succ]
  refine wpAny_ready (rs := [7]) (by kernel_rfl) (by simp) (AllReady.cons rfl (fun K hK => ?_) AllReady.nil)
  go_simp
  refine hK _ _ ?_
  clear hK K
  have hcv2 := conv_one w2 c
  refine wpAny_ready (rs := [8]) (by kernel_rfl) (by simp) (AllReady.cons rfl (fun K hK => ?_) AllReady.nil)
  go_simp
  refine hK _ _ ?_
  clear hK K
  have hb1 := fun W => run_string_add_sum (P := Try.prog) (w := W) (s.extract 0 k) ⟨#[c]⟩ (by rw [ByteArray.size_extract, sz1]; omega)
  have hb2 := fun W => run_string_add_sum (P := Try.prog) (w := W) (s.extract 0 k ++ ⟨#[c]⟩) (s.extract (k + 1) s.size) (by rw [ByteArray.size_append, ByteArray.size_extract, ByteArray.size_extract, sz1]; omega)
  refine take_on 9 (v := ?_) rfl rfl (by kernel_rfl) (by kernel_rfl) (by kernel_rfl) (fun _ _ _ h => h) (by rfl) (fun w => ?_) ?_
  rotate_left
  · (go_simp; try with_reducible rfl)
  simp only [List.setIfInBounds_toArray, List.set_cons_zero, List.set_cons_succ]
  refine take_on 14 (v := .string (otherByte s k c)) rfl rfl (by kernel_rfl) (by kernel_rfl) (by kernel_rfl) (fun _ _ _ h => h) (by rfl) (fun w => ?_) ?_
  · (go_simp; rfl)
  simp only [List.setIfInBounds_toArray, List.set_cons_zero, List.set_cons_succ]
  refine wpAny_ready (rs := [15]) (by kernel_rfl) (by simp) (AllReady.cons rfl (fun K hK => ?_) AllReady.nil)
  go_simp
  go_wp2_with fail
  refine (C5.out _).mono ?_
  rintro e w3 ⟨rfl, rfl⟩
  refine hK _ _ ?_
  clear hK K
  refine take_on 17 (v := .bool true) rfl rfl (by kernel_rfl) (by kernel_rfl) (by kernel_rfl) (fun _ _ _ h => h) (by rfl) (fun w => ?_) ?_
  · (go_simp; try omega)
  simp only [List.setIfInBounds_toArray, List.set_cons_zero, List.set_cons_succ]
  refine take_on 18 (v := ?_) rfl rfl (by kernel_rfl) (by kernel_rfl) (by kernel_rfl) (fun _ _ _ h => h) (by rfl) (fun w => ?_) ?_
  rotate_left
  · (go_simp; try with_reducible rfl)
  simp only [List.setIfInBounds_toArray, List.set_cons_zero, List.set_cons_succ]
  refine take_on 19 (v := ?_) rfl rfl (by kernel_rfl) (by kernel_rfl) (by kernel_rfl) (fun _ _ _ h => h) (by rfl) (fun w => ?_) ?_
  rotate_left
  · (go_simp; try with_reducible rfl)
  simp only [List.setIfInBounds_toArray, List.set_cons_zero, List.set_cons_succ]
  refine take_on 20 (v := .bool true) rfl rfl (by kernel_rfl) (by kernel_rfl) (by kernel_rfl) (fun _ _ _ h => h) (by rfl) (fun w => ?_) ?_
  · (go_simp; try (simp))
  simp only [List.setIfInBounds_toArray, List.set_cons_zero, List.set_cons_succ]
  refine take_on 21 (v := .bool true) rfl rfl (by kernel_rfl) (by kernel_rfl) (by kernel_rfl) (fun _ _ _ h => h) (by rfl) (fun w => ?_) ?_
  · (go_simp; try rfl)
  simp only [List.setIfInBounds_toArray, List.set_cons_zero, List.set_cons_succ]
  refine take_on 22 (v := ?_) rfl rfl (by kernel_rfl) (by kernel_rfl) (by kernel_rfl) (fun _ _ _ h => h) (by rfl) (fun w => ?_) ?_
  rotate_left
  · (go_simp; try with_reducible rfl)
  simp only [List.setIfInBounds_toArray, List.set_cons_zero, List.set_cons_succ]
  refine take_on 23 (v := ?_) rfl rfl (by kernel_rfl) (by kernel_rfl) (by kernel_rfl) (fun _ _ _ h => h) (by rfl) (fun w => ?_) ?_
  rotate_left
  · (go_simp; try with_reducible rfl)
  simp only [List.setIfInBounds_toArray, List.set_cons_zero, List.set_cons_succ]
  refine take_on 24 (v := .bool true) rfl rfl (by kernel_rfl) (by kernel_rfl) (by kernel_rfl) (fun _ _ _ h => h) (by rfl) (fun w => ?_) ?_
  · (go_simp; try omega)
  simp only [List.setIfInBounds_toArray, List.set_cons_zero, List.set_cons_succ]
  refine take_on 25 (v := .bool true) rfl rfl (by kernel_rfl) (by kernel_rfl) (by kernel_rfl) (fun _ _ _ h => h) (by rfl) (fun w => ?_) ?_
  · (go_simp; try rfl)
  simp only [List.setIfInBounds_toArray, List.set_cons_zero, List.set_cons_succ]
  refine take_on 26 (v := ?_) rfl rfl (by kernel_rfl) (by kernel_rfl) (by kernel_rfl) (fun _ _ _ h => h) (by rfl) (fun w => ?_) ?_
  rotate_left
  · (go_simp; try with_reducible rfl)
  simp only [List.setIfInBounds_toArray, List.set_cons_zero, List.set_cons_succ]
  refine wpAny_done (by kernel_rfl) ?_ _
  go_wp2
  go_ret
  exact ⟨rfl, (HB.out.alloc (Below.size HB.out) _).drew⟩

end Go.Proofs.Ytgkhkogenbphfae
