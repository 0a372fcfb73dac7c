/- DERIVED. The walk of the model's HostGet, and of the law. -/
import Derived.Test.YtahhjhhnjpbocabDoorGet
import Derived.Deep.RegionWith
namespace Go.Proofs.YtahhjhhnjpbocabDoor
open Go.RowKit

theorem l1Num_val (s : ByteArray) (n : Int) (w : World) (hs : s.size ≤ maxLen) (hn : n = numOf s.data.toList) :
    Calls Tryd.prog 60 #[.string s] w fun e w' => e = .returned (.int .i64 n) ∧ w' = w := by
  subst hn; exact l1Num_any s w hs

set_option maxHeartbeats 600000 in
theorem specGet_any (s : ByteArray) (w : World) (hs : s.size ≤ maxLen) :
    Calls Tryd.prog 38 #[.string s] w fun e w' => e = .returned (getVal s) ∧ Below w.heap.size w w' := by
  have hs' : s.size ≤ 2 ^ 63 - 1 := hs
  go_enter Tryd.func38, Tryd.ntmps38
  go_wp2
  go_loop [4] (fun i => ∃ k : Nat, k ≤ s.size ∧ i = .int .i64 k ∧ lowAll (s.data.toList.take k) = true) (fun i => s.size - (intOf i).toNat)
  case atStart => exact ⟨0, Nat.zero_le _, rfl, rfl⟩
  case round =>
    obtain ⟨k, hk, rfl, hl⟩ := hrel
    have HL : Hid (lowAll (s.data.toList.take k) = true) := hl
    clear hl
    by_cases hgo : ∃ hlt : k < s.size, lowB ((s[k]'hlt).toNat : Int) = true
    · obtain ⟨hlt, hc⟩ := hgo
      have HS : Hid (lowAll (s.data.toList.take (k + 1)) = (lowAll (s.data.toList.take k) && lowB (s[k].toNat : Int))) := lowAll_snoc s k hlt
      go_wp2_with (go_at_call 59; refine (letter_any _ _).mono ?_; rintro e w' ⟨rfl, rfl⟩)
      go_round
      case rel => exact ⟨k + 1, by omega, by go_num, by rw [HS.out, HL.out, hc]; rfl⟩
      case measure => simp [intOf]; omega
    · have HK : Hid (k = lead s.data.toList) := by
        by_cases hlt : k < s.size
        · have hc : lowB (s[k].toNat : Int) = false := by
            cases e : lowB (s[k].toNat : Int)
            · rfl
            · exact absurd ⟨hlt, e⟩ hgo
          exact (lead_none s.data.toList k (by simpa using hlt) HL.out (by exact hc)).symm
        · have e1 := HL.out
          rw [lowAll_whole s k (by omega)] at e1
          have := lead_all _ e1
          show k = _
          rw [this]; simp; omega
      obtain ⟨n, hn⟩ : ∃ n, n = numOf (s.extract k s.size).data.toList := ⟨_, rfl⟩
      have HN := hid hn
      have hxs : (s.extract k s.size).size ≤ maxLen := by rw [ByteArray.size_extract]; exact Nat.le_trans (by omega) hs
      have hrm : (s.extract 0 k).size ≤ maxLen := by rw [ByteArray.size_extract]; exact Nat.le_trans (by omega) hs
      have HG : Hid (getVal s = if okB (s.extract 0 k) n = true then .tuple #[.agg #[.string (s.extract 0 k), .int .i64 n], .bool true] else .tuple #[.agg #[.string ByteArray.empty, .int .i64 0], .bool false]) := by
        show _ = _
        rw [HN.out, HK.out]; rfl
      clear hn
      cases ho : okB (s.extract 0 k) n
      all_goals
        rw [ho] at HG
        by_cases hlt : k < s.size
        · have hc : lowB (s[k].toNat : Int) = false := by
            cases e : lowB (s[k].toNat : Int)
            · rfl
            · exact absurd ⟨hlt, e⟩ hgo
          clear hgo
          go_wp2_with (go_at_call 59; refine (letter_any _ _).mono ?_; rintro e w' ⟨rfl, rfl⟩)
          go_region_with (go_at_call 60; refine (l1Num_val _ n _ hxs HN.out).mono ?_; rintro e w' ⟨rfl, rfl⟩)
          all_goals
            go_wp2_with fail
            refine (l1Ok_below _ n _ hrm).mono ?_
            rintro e w2 ⟨rfl, hb⟩
            have B2 : Hid (Below w.heap.size w w2) := by
              refine Below.trans ?_ (hb.mono (by simp; try omega))
              repeat (first | exact Below.refl _ _ | refine Below.drew ?_ | refine below_drewN ?_ _ | refine Below.alloc ?_ (by simp; try omega) _)
            have c0 : w2.cell? ⟨w.heap.size, 0, none⟩ = some (.string { data := #[] }) := by rw [hb.cell (by simp; try omega)]; simp
            have c1 : w2.cell? ⟨w.heap.size, 1, none⟩ = some (.int .i64 0) := by rw [hb.cell (by simp; try omega)]; simp
            have f0 : w2.frozen? ⟨w.heap.size, 0, none⟩ = false := by rw [hb.frozen (by simp; try omega)]; simp
            have f1 : w2.frozen? ⟨w.heap.size, 1, none⟩ = false := by rw [hb.frozen (by simp; try omega)]; simp
            have b0 : w2.cell? ⟨w.heap.size + 1, 0, none⟩ = some (.string (s.extract 0 k)) := by rw [hb.cell (by simp; try omega)]; simp
            have b1 : w2.cell? ⟨w.heap.size + 1, 1, none⟩ = some (.int .i64 n) := by rw [hb.cell (by simp; try omega)]; simp
            clear hb
            go_wp2
            first
            | refine bodyPost_ret (v := .tuple #[.agg #[.string ByteArray.empty, .int .i64 0], .bool false]) (by simp [results, Tryd.results38, go_sem, c0, c1]; rfl) rfl ⟨by rw [HG.out]; rfl, ?_⟩
            | refine bodyPost_ret (v := .tuple #[.agg #[.string (s.extract 0 k), .int .i64 n], .bool true]) (by simp [results, Tryd.results38, go_sem, c0, c1]) rfl ⟨by rw [HG.out]; rfl, ?_⟩
            exact (B2.out.setCell (Nat.le_refl _) _).setCell (Nat.le_refl _) _
        · clear hgo
          go_wp2_with (go_at_call 59; refine (letter_any _ _).mono ?_; rintro e w' ⟨rfl, rfl⟩)
          go_region_with (go_at_call 60; refine (l1Num_val _ n _ hxs HN.out).mono ?_; rintro e w' ⟨rfl, rfl⟩)
          all_goals
            go_wp2_with fail
            refine (l1Ok_below _ n _ hrm).mono ?_
            rintro e w2 ⟨rfl, hb⟩
            have B2 : Hid (Below w.heap.size w w2) := by
              refine Below.trans ?_ (hb.mono (by simp; try omega))
              repeat (first | exact Below.refl _ _ | refine Below.drew ?_ | refine below_drewN ?_ _ | refine Below.alloc ?_ (by simp; try omega) _)
            have c0 : w2.cell? ⟨w.heap.size, 0, none⟩ = some (.string { data := #[] }) := by rw [hb.cell (by simp; try omega)]; simp
            have c1 : w2.cell? ⟨w.heap.size, 1, none⟩ = some (.int .i64 0) := by rw [hb.cell (by simp; try omega)]; simp
            have f0 : w2.frozen? ⟨w.heap.size, 0, none⟩ = false := by rw [hb.frozen (by simp; try omega)]; simp
            have f1 : w2.frozen? ⟨w.heap.size, 1, none⟩ = false := by rw [hb.frozen (by simp; try omega)]; simp
            have b0 : w2.cell? ⟨w.heap.size + 1, 0, none⟩ = some (.string (s.extract 0 k)) := by rw [hb.cell (by simp; try omega)]; simp
            have b1 : w2.cell? ⟨w.heap.size + 1, 1, none⟩ = some (.int .i64 n) := by rw [hb.cell (by simp; try omega)]; simp
            clear hb
            go_wp2
            first
            | refine bodyPost_ret (v := .tuple #[.agg #[.string ByteArray.empty, .int .i64 0], .bool false]) (by simp [results, Tryd.results38, go_sem, c0, c1]; rfl) rfl ⟨by rw [HG.out]; rfl, ?_⟩
            | refine bodyPost_ret (v := .tuple #[.agg #[.string (s.extract 0 k), .int .i64 n], .bool true]) (by simp [results, Tryd.results38, go_sem, c0, c1]) rfl ⟨by rw [HG.out]; rfl, ?_⟩
            exact (B2.out.setCell (Nat.le_refl _) _).setCell (Nat.le_refl _) _

end Go.Proofs.YtahhjhhnjpbocabDoor
