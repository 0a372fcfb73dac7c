/- DERIVED. The walk of the program's HostsFold at a list of no hosts, nil or not. -/
import Derived.Test.YtahhjhhnjpbocaaDoorFoldImpl
namespace Go.Proofs.YtahhjhhnjpbocaaDoor
open Go.RowKit

set_option maxHeartbeats 400000 in
theorem hostsOk_zero (oa : Option Addr) (cap : Nat) (w : World) :
    Calls Tryd.prog 7 #[.slice oa 0 cap] w fun e w' => e = .returned (.bool true) ∧ Below w.heap.size w w' := by
  go_enter Tryd.func7, Tryd.ntmps7
  go_wp2
  go_loop [10] (fun i => i = .int .i64 0) (fun _ => 0)
  case atStart => rfl
  case round =>
    subst hrel
    go_wp2
    go_ret
    exact ⟨rfl, Below.refl _ _⟩

set_option maxRecDepth 100000 in
set_option maxHeartbeats 1000000 in
theorem runsNil (n : Nat) (oa : Option Addr) (l B1 B2 cap : Nat) (J : List (At 0) → World → Prop) (W : World)
    (c1 : W.cell? ⟨B1, 0, none⟩ = some (.slice oa 0 cap)) (c2 : W.cell? ⟨B2, 0, none⟩ = some (.func (.func 15) #[] #[])) (h0 : J [] W) :
    CallsIn Fence.wide n Tryd.prog 28 #[.func (.yield l) #[] #[], .pointer (some ⟨B1, 0, none⟩), .pointer (some ⟨B2, 0, none⟩)] W fun e W' => (∃ v, e = .returned v) ∧ J [] W' := by
  refine callsIn_of_wp Tryd.func28 rfl trivial ?_ rfl
  simp only [Tryd.ntmps28, List.size_toArray, List.length_cons, List.length_nil, Nat.reduceAdd, Nat.reduceSub, Array.replicate_succ, Array.replicate_zero, List.push_toArray, List.append_toArray, List.nil_append, List.cons_append]
  gi_wp2
  gi_loopw [4] (fun i wr => i = .int .i64 0 ∧ wr = W) (fun _ _ => 0)
  case atStart => exact ⟨rfl, rfl⟩
  case round =>
    obtain ⟨rfl, rfl⟩ := hrel
    have H0 := hid h0
    clear h0
    gi_wp2
    go_end0
    exact ⟨⟨_, rfl⟩, H0.out⟩

theorem nil_stops (n : Nat) (oa : Option Addr) (B1 B2 n₀ cap : Nat) (w : World) (hB1 : B1 < w.heap.size) (hB2 : B2 < w.heap.size)
    (c1 : w.cell? ⟨B1, 0, none⟩ = some (.slice oa 0 cap)) (c2 : w.cell? ⟨B2, 0, none⟩ = some (.func (.func 15) #[] #[])) :
    SeqStopsK Fence.wide n Tryd.prog 28 #[.pointer (some ⟨B1, 0, none⟩), .pointer (some ⟨B2, 0, none⟩)] (handed 0 0 0 cap (fun _ => false)) (KeepsRow n₀ B1 B2) (fun ys => ys.map (·.1) = startsL (fun _ => false) 0 0) (fun _ => True) 0 w :=
  fun l J Jx W hW _ _ _ h0 => (runsNil n oa l B1 B2 cap J W ((hW.cell (p := ⟨B1, 0, none⟩) hB1).trans c1) ((hW.cell (p := ⟨B2, 0, none⟩) hB2).trans c2) h0).mono
    (fun _ _ ⟨hv, hj⟩ => ⟨hv, .inl ⟨[], by rw [startsL_end _ _ _ (by omega)]; rfl, hj⟩⟩)

set_option maxRecDepth 100000 in
set_option maxHeartbeats 2000000 in
theorem foldNil_in (oa : Option Addr) (cap : Nat) (w : World) :
    CallsIn Fence.wide 9 Tryd.prog 5 #[.slice oa 0 cap] w fun e w' => e = .returned (.string ⟨#[]⟩) ∧ Below w.heap.size w w' := by
  have CO := hid (fun w' => hostsOk_zero oa cap w')
  have hmax : (9223372036854775807 : Nat) = maxLen := rfl
  refine callsIn_of_wp_marks Tryd.func5 rfl trivial ?_ rfl
  simp only [Tryd.ntmps5, List.size_toArray, List.length_cons, List.length_nil, Nat.reduceAdd, Nat.reduceSub, Array.replicate_succ, Array.replicate_zero, List.push_toArray, List.append_toArray, List.nil_append, List.cons_append]
  gi_wp2_with fail
  refine ⟨trivial, ?_⟩
  refine (callsIn_wide.2 (CO.out _)).mono ?_
  rintro e w1 ⟨rfl, hb1⟩
  have HB1 := hid hb1
  clear hb1
  gi_wp2_with (refine ⟨trivial, ?_⟩; gi_at_call 14; refine (callsIn_wide.2 (runs_any _ _ _ _ _)).mono ?_; rintro e w' ⟨rfl, rfl⟩)
  obtain ⟨W0, hW0⟩ : ∃ W0, ((w1.alloc (.cells #[.slice none 0 0] 37)).alloc (.cells #[.slice oa 0 cap] 23)).alloc (.cells #[.func (.func 15) #[] #[]] 41) = W0 := ⟨_, rfl⟩
  have bO : Boxed W0 w1.heap.size 37 (.slice none 0 0) := by rw [← hW0]; exact ((Boxed.new w1 _ _).alloc _).alloc _
  have b1 : Boxed W0 (w1.heap.size + 1) 23 (.slice oa 0 cap) := by
    rw [← hW0]
    have := (Boxed.new (w1.alloc (.cells #[.slice none 0 0] 37)) 23 (.slice oa 0 cap)).alloc (.cells #[.func (.func 15) #[] #[]] 41)
    rw [World.size_alloc] at this; exact this
  have b2 : Boxed W0 (w1.heap.size + 1 + 1) 41 (.func (.func 15) #[] #[]) := by
    rw [← hW0]
    have := Boxed.new ((w1.alloc (.cells #[.slice none 0 0] 37)).alloc (.cells #[.slice oa 0 cap] 23)) 41 (.func (.func 15) #[] #[])
    rw [World.size_alloc, World.size_alloc] at this; exact this
  have hB0 : Below w1.heap.size w1 W0 := by rw [← hW0]; exact (((Below.refl _ w1).alloc (Nat.le_refl _) _).alloc (by simp) _).alloc (by simp; omega) _
  have hsz : W0.heap.size = w1.heap.size + 3 := by rw [← hW0]; simp
  try rw [hW0]
  refine wpIn_rangeFunc_ownG rfl (by omega) (gf := 28) (lb := #[.pointer (some ⟨w1.heap.size + 1, 0, none⟩), .pointer (some ⟨w1.heap.size + 1 + 1, 0, none⟩)]) rfl trivial (enters_of Tryd.func28 (by kernel_rfl) rfl)
    (nil_stops 8 oa (w1.heap.size + 1) (w1.heap.size + 1 + 1) w1.heap.size cap W0 (by omega) (by omega) b1.cell b2.cell) KeepsRow.trans (keepsRow_b (by omega) (by omega) (by omega)) (Below.refl _ _) (fun _ => rfl)
    (Between w1 23 41 (.slice oa 0 cap) (.func (.func 15) #[] #[]) 0 (fun _ => ⟨#[]⟩))
    (fun _ _ _ => False)
    (between_own _ _ _ _ _ _ _ _ (by omega))
    (fun _ _ _ _ _ hs _ _ => hs)
    ⟨⟨_, bO, World.ownsRow_nil _ _ _ _, trivial⟩, b1, b2, hB0⟩
    (fun x => { tmps := #[.slice oa 0 cap, undef, .string ⟨#[]⟩, .pointer (some ⟨w1.heap.size, 0, none⟩), .slice (some ⟨0, 0 + x.1 * 2, none⟩) (stretch (fun _ => false) x.1 0) (cap - x.1), .slice oa 0 cap, .bool true, .bool false, .slice oa 0 cap, .func (.func 28) #[] #[.pointer (some ⟨w1.heap.size + 1, 0, none⟩), .pointer (some ⟨w1.heap.size + 1 + 1, 0, none⟩)], .slice (some ⟨0, 0 + x.1 * 2, none⟩) (stretch (fun _ => false) x.1 0) (cap - x.1), undef, undef, undef, undef, undef, undef, undef], defers := [] }) ?assign ?body ?done ?stop
  case assign =>
    intro l x W K hK
    exact absurd x.2 (Nat.not_lt_zero _)
  case body =>
    rintro l pre ⟨i, hil⟩ W _ _
    exact absurd hil (Nat.not_lt_zero _)
  case done =>
    rintro D ys W hD hS ⟨⟨v, hv, hrow, _⟩, b1W, b2W, hBW⟩ hK
    have hcv := hv.cell
    have HBW : Hid (Below w.heap.size w W) := HB1.out.trans (hBW.mono HB1.out.size)
    have HSZ := hid hBW.size
    have hDW : D < W.heap.size := (Array.getElem?_eq_some_iff.1 hK).1
    have HK := hid hK
    have HS1 := hid HB1.out.size
    clear hBW hK
    have HJ : Hid (∃ (oa : Option Addr) (n cp : Nat), v = .slice oa n cp ∧ Calls Tryd.prog 17 #[.slice oa n cp, .string ⟨#[44]⟩] W fun e w' => e = .returned (.string ⟨#[]⟩) ∧ Below W.heap.size W w') := by
      have hy0 : ys.length = 0 := by
        have := congrArg List.length hS
        rw [startsL_end _ _ _ (by omega), List.length_map, List.length_nil] at this
        exact this
      rw [hy0] at hrow
      rcases hrow.2 with ⟨e, _⟩ | ⟨g, cp, cur, e, _⟩
      · exact ⟨_, _, _, e, (Go.Proofs.Tryd.strings_Join_none none 0 ⟨#[44]⟩ W).mono (by rintro e w' ⟨rfl, rfl⟩; exact ⟨rfl, Below.refl _ _⟩)⟩
      · exact ⟨_, _, _, e, (Go.Proofs.Tryd.strings_Join_none _ cp ⟨#[44]⟩ W).mono (by rintro e w' ⟨rfl, rfl⟩; exact ⟨rfl, Below.refl _ _⟩)⟩
    obtain ⟨oa, nn, cp, rfl, hJ⟩ := HJ.out
    have HJJ := hid hJ
    clear hJ HJ hrow
    gi_wp2_with fail
    refine ⟨trivial, ?_⟩
    refine (callsIn_wide.2 HJJ.out).mono ?_
    rintro e w5 ⟨rfl, hb5⟩
    have HK5 : Hid (w5.heap[D]? = some (.deferred (some []))) := (hb5.block D hDW).trans HK.out
    have HB5 : Hid (Below w.heap.size w w5) := HBW.out.trans (hb5.mono HBW.out.size)
    clear hb5 HJJ
    gi_wp2
    refine ⟨by simp, .inl ⟨_, _, rfl, run_takeDeferred HK5.out, ?_⟩⟩
    refine ⟨_, results_tmp rfl _ _ _, rfl, ?_⟩
    exact HB5.out.trans (belowK_b (w := w) (Nat.le_refl _) w5 D _ _ (by have := HS1.out; omega) HK5.out rfl rfl)
  case stop =>
    rintro D c pre W _ _ h _
    exact h.elim

theorem implFold_zero (oa : Option Addr) (cap : Nat) (w : World) :
    Calls Tryd.prog 5 #[.slice oa 0 cap] w fun e w' => e = .returned (.string ⟨#[]⟩) ∧ Below w.heap.size w w' :=
  callsIn_wide.1 (foldNil_in oa cap w)

end Go.Proofs.YtahhjhhnjpbocaaDoor
