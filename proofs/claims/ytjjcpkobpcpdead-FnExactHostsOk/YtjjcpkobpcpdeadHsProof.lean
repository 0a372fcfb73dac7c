/-
  For every list of hosts the law FnExactHostsOk returns true: HostsOk answers as its model does, writes into nothing, and the argument reads afterwards as it read before. No condition.
-/
import Derived.Test.YtjjcpkobpcpdeadHsLaw
import Derived.ProofKit
import Derived.Deep.SlicePairs
namespace Go.Proofs.Ytjjcpkobpcpdead
open Go.ChangeShapes Go.WideShapes Go.ChangeAt Go.RowKit Go.Deep

theorem Try.own : ownKnob Try.prog.godebug = none := by kernel_rfl
theorem Try.laidOut : laidOutB Try.prog = true := by kernel_rfl
theorem Try.cellsHost : Try.prog.cellsOf 31 = 2 := by kernel_rfl
theorem Try.cellsString : Try.prog.cellsOf 9 = 1 := by kernel_rfl
theorem Try.cellsInt : Try.prog.cellsOf 3 = 1 := by kernel_rfl

set_option maxRecDepth 100000 in
theorem lifted (os : Os) (started : os.Started) (H : Type) (enc : TypeId × Value → H) :
    ReturnsInHanded {} Try.checked os 3 .any (Rows.fnExactHostsOkSpec.pre6 enc Try.prog Try.f3 Rows.fnExactHostsOkRow.domain false) (Rows.fnExactHostsOkSpec.post enc Try.prog Try.f3 false true false false) := by
  refine returnsInHanded_of_change (C := Try.checked) Try.own started (by kernel_rfl) Try.func3
    (ChangeSpec.witness6 (enc := enc) (C := Try.checked) false ⟨#[], #[.slice none 0 0], []⟩ 8 (by kernel_rfl) (by kernel_rfl) (by kernel_rfl) (by kernel_rfl)) ?_
  intro W base args ds gs before hval0 hW _ _
  have hval : ∀ (j : Nat) t v, Try.f3.params[j]? = some t → args[j]? = some v → Value.okWide Try.prog W .any base t v := hval0
  have hW' := hW
  obtain ⟨p, q, hA0, hV, rfl, _, _⟩ := hW
  have hA : DataW.TrodAll enc Try.prog W 0 (fun _ => true) true Try.f3.params.toList args.toList ds p := hA0
  rw [Try.params3] at hA hval
  obtain ⟨v0, d0, rfl, rfl, h0⟩ := trodAll_one hA
  obtain ⟨rfl, rfl⟩ := trodVars_none hV
  obtain ⟨a0, len, cap, rfl⟩ := okWide_slice Try.underlying22 (hval 0 22 v0 rfl rfl)
  have h0k := h0
  obtain ⟨fuel, hf⟩ := h0
  clear hA0 hval0
  simp only [List.append_nil] at hW'
  have hlt : ∀ x ∈ p, x.block < W.heap.size := fun x hx => by simpa using hW'.lt x hx
  have hargs : ∀ (W' : World), Below W.heap.size W W' → DataW.Trod enc Try.prog W' 0 (fun b => decide (b < W.heap.size)) true 22 (.slice a0 len cap) d0 p :=
    fun W' hn => Below.trod Try.laidOut (by kernel_rfl) (of_decide_eq_true (by kernel_rfl)) h0k hn hlt
  have fin : ∀ e W', (e = Ending.returned (.bool true) ∧ Below W.heap.size W W') → ∃ v, e = Ending.returned v ∧ Rows.fnExactHostsOkSpec.post enc Try.checked.prog Try.f3 false true false false W #[.slice a0 len cap] v W' := by
    intro e W' ⟨he, hb⟩
    subst he
    exact ⟨_, rfl, _, _, _, [], p, [], hW', trodAll_mk1 (shut_bool Try.underlying4 true), trodAll_mk1 (hargs _ hb), rfl, hb.frame _, fun h => by cases h⟩
  rcases open_slice_pairs Try.underlying22 Try.underlying31 Try.cellsHost rfl rfl Try.cellsString Try.cellsInt hf with ⟨hcs, hx⟩ | ⟨a, len', cap', m, n, V0, V1, D0, D1, P0, P1, hcs, _, hl, hm, hz, hx, hcell⟩
  · simp [Value.cells] at hcs
    obtain ⟨rfl, rfl, rfl⟩ := hcs
    exact (law_any none 0 0 (fun _ => ByteArray.empty) (fun _ => 0) W (LawArg.none _ _ _ _ _)).mono fin
  · simp [Value.cells] at hcs
    obtain ⟨rfl, rfl, rfl⟩ := hcs
    simp only [if_true] at hz
    subst hz
    rcases Nat.eq_zero_or_pos len with e | hp
    · subst e
      exact (law_any _ 0 _ (fun _ => ByteArray.empty) (fun _ => 0) W (LawArg.none _ _ _ _ _)).mono fin
    · obtain ⟨b, off, spot⟩ := a
      have hspot : spot = none := by simpa [Addr.add] using World.cell?_spot (hcell 0 (by omega)).1
      subst hspot
      have hold : b < W.heap.size := by
        have := World.block_lt_of_cell? W _ (hcell 0 (by omega)).1
        simpa [Addr.add] using this
      obtain ⟨S, hS⟩ := choose_lt (α := ByteArray) (n := len) (p := fun i s => V0 i = .string s ∧ s.size ≤ maxLen) (fun i hi => by
        obtain ⟨s, e0, _, hs⟩ := DataW.trod_string Try.underlying9 (hcell i (by omega)).2.2.1
        simp at e0
        exact ⟨s, e0, hs⟩)
      obtain ⟨M, hM⟩ := choose_lt (α := Int) (n := len) (p := fun i x => V1 i = .int .i64 x) (fun i hi => by
        obtain ⟨x, e0, _, _⟩ := DataW.trod_int Try.underlying3 (hcell i (by omega)).2.2.2
        simp at e0
        exact ⟨x, e0⟩)
      have R : RowAt W b off len S M := {
        old := hold
        name := fun i hi => by
          have := (hcell i (by omega)).1
          rw [(hS i hi).1, add_plain] at this
          exact this
        num := fun i hi => by
          have := (hcell i (by omega)).2.1
          rw [hM i hi, add_plain] at this
          exact this
        small := fun i hi => (hS i hi).2 }
      exact (law_any (some ⟨b, off, none⟩) len _ S M W (LawArg.row b off len _ S M W hl hm R)).mono fin

theorem hostsok_holds : Rows.FnExactHostsOkSaid :=
  OpenClaim.holds_of_wide 3 Try.f3 rfl rfl rfl rfl rfl rfl rfl ⟨rfl, rfl, rfl, rfl, rfl⟩ rfl rfl rfl rfl rfl (by kernel_rfl) Try.func3 (by kernel_rfl)
    (of_decide_eq_true (by kernel_rfl)) (by unfold Func.isWrapper; first | (rw [if_pos (by decide +kernel)]; kernel_rfl) | (rw [if_neg (by decide +kernel)]; exact ⟨rfl, rfl⟩))
    (fun os started H enc _ => lifted os started H enc)

#print axioms hostsok_holds
end Go.Proofs.Ytjjcpkobpcpdead
