/- DERIVED. The walk of fmTexts at two lists that are the same. -/
import Derived.Test.YtmafkelegjjnfafDoorRowStr
import Derived.Deep.QuietTactic
import Derived.BigQuiet
namespace Go.Proofs.YtmafkelegjjnfafDoor
open Go.RowKit

/-- Texts lie in a row. -/
def TextsAt (w : World) (oa : Option Addr) (P : List ByteArray) : Prop := ∀ i (h : i < P.length), ∃ g, oa = some ⟨g, 0, none⟩ ∧ g < w.heap.size ∧ w.cell? ⟨g, i, none⟩ = some (.string P[i])

theorem TextsAt.below {w w' : World} {oa : Option Addr} {P : List ByteArray} (h : TextsAt w oa P) (hb : Below w.heap.size w w') : TextsAt w' oa P := by
  intro i hi
  obtain ⟨g, e, hg, hc⟩ := h i hi
  exact ⟨g, e, Nat.lt_of_lt_of_le hg hb.size, by rw [hb.cell (p := ⟨g, i, none⟩) hg]; exact hc⟩

theorem TextsAt.front {w : World} {oa : Option Addr} {P Q : List ByteArray} (h : TextsAt w oa (P ++ Q)) : TextsAt w oa P := by
  intro i hi
  obtain ⟨g, e, hg, hc⟩ := h i (by simp; omega)
  refine ⟨g, e, hg, ?_⟩
  rw [hc, List.getElem_append_left hi]

theorem texts_of {w : World} {base : Nat} {v : Value} {P : List ByteArray} (h : w.ownsRow base 9 1 v P.length (P.map Value.string)) : ∃ oa cp, v = .slice oa P.length cp ∧ P.length ≤ cp ∧ cp ≤ maxLen ∧ TextsAt w oa P := by
  rcases Nat.eq_zero_or_pos P.length with h0 | h0
  · rcases h.2 with ⟨e, _⟩ | ⟨g, cap, cur, e, _, _, hk, hm, _⟩
    · exact ⟨none, 0, by rw [h0]; exact e, by omega, Nat.zero_le _, fun i hi => by omega⟩
    · exact ⟨_, cap, e, hk, hm, fun i hi => by omega⟩
  · obtain ⟨g, cp, e, _, hg, hk, hm, hc⟩ := srow_cells h h0
    refine ⟨_, cp, e, hk, hm, fun i hi => ⟨g, rfl, hg, hc i _ ?_⟩⟩
    rw [List.getElem?_map, List.getElem?_eq_getElem hi]
    rfl

set_option maxHeartbeats 800000 in
theorem fmTexts_same (oa ob : Option Addr) (ca cb : Nat) (P : List ByteArray) (w : World) (hl : P.length ≤ 100000) (hA : TextsAt w oa P) (hB : TextsAt w ob P) :
    Calls Tryd.prog 7 #[.slice oa P.length ca, .slice ob P.length cb] w fun e w' => e = .returned (.bool true) ∧ Below w.heap.size w w' := by
  have HA := hid hA
  have HB := hid hB
  clear hA hB
  obtain ⟨n, hn⟩ : ∃ n, n = P.length := ⟨_, rfl⟩
  have HN := hid hn
  rw [← hn] at hl ⊢
  clear hn
  go_enter Tryd.func7, Tryd.ntmps7
  go_wp2
  go_loopw [5] (fun i wr => ∃ k nq : Nat, k ≤ n ∧ i = .int .i64 k ∧ wr = w.drewN nq) (fun i _ => n - (intOf i).toNat)
  case atStart => exact ⟨0, 0, Nat.zero_le _, rfl, rfl⟩
  case round =>
    obtain ⟨k, nq, hk, rfl, rfl⟩ := hrel
    by_cases hlt : k < n
    · have hltI : (k : Int) < (n : Int) := by omega
      obtain ⟨ga, rfl, _, hca⟩ := HA.out k (by have := HN.out; omega)
      obtain ⟨gb, rfl, _, hcb⟩ := HB.out k (by have := HN.out; omega)
      obtain ⟨x, hx⟩ : ∃ x, x = P[k]'(by have := HN.out; omega) := ⟨_, rfl⟩
      rw [← hx] at hca hcb
      clear hx
      go_wp2
      go_quiet (fail)
      go_wp2
      go_roundw
      case rel => exact ⟨k + 1, _, by omega, by go_num, rfl⟩
      case measure => simp [intOf]; omega
    · have hltI : ¬ (k : Int) < (n : Int) := by omega
      go_wp2
      go_ret
      exact ⟨rfl, below_drewN (Below.refl _ _) _⟩

end Go.Proofs.YtmafkelegjjnfafDoor
