/-
  For every two lists of hosts the law FnExactHostsJoin returns true: HostsJoin answers as its model does, writes into nothing, its answer owns its memory, and the arguments read afterwards as they read before. No condition.
-/
import Derived.Test.YtahhjhhnjpbocaeJoinLaw
import Derived.ProofKit
import Derived.Deep.SlicePairs
namespace Go.Proofs.Ytahhjhhnjpbocae
open Go.ChangeShapes Go.WideShapes Go.ChangeAt Go.RowKit Go.Deep

theorem Try.own : ownKnob Try.prog.godebug = none := by kernel_rfl
theorem Try.laidOut : laidOutB Try.prog = true := by kernel_rfl
theorem Try.cellsHost : Try.prog.cellsOf 32 = 2 := by kernel_rfl
theorem Try.cellsString : Try.prog.cellsOf 9 = 1 := by kernel_rfl
theorem Try.cellsInt : Try.prog.cellsOf 3 = 1 := by kernel_rfl

/-- A list that is read as an argument. -/
theorem in_of_trod {H : Type} {enc : TypeId × Value → H} {W : World} {a0 : Option Addr} {len cap : Nat} {d0 : DataW H} {p : List MemPlace}
    (h0 : DataW.Trod enc Try.prog W 0 (fun _ => true) true 22 (.slice a0 len cap) d0 p) : ∃ o : Hs, InRow W (.slice a0 len cap) o := by
  obtain ⟨fuel, hf⟩ := h0
  rcases open_slice_pairs Try.underlying22 Try.underlying32 Try.cellsHost rfl rfl Try.cellsString Try.cellsInt hf with ⟨hcs, hx⟩ | ⟨a, len', cap', m, n, V0, V1, D0, D1, P0, P1, hcs, _, hl, hm, hz, hx, hcell⟩
  · simp [Value.cells] at hcs
    obtain ⟨rfl, rfl, rfl⟩ := hcs
    exact ⟨[], none, 0, rfl, Nat.le_refl _, Nat.zero_le _, Or.inl rfl⟩
  · simp [Value.cells] at hcs
    obtain ⟨rfl, rfl, rfl⟩ := hcs
    simp only [if_true] at hz
    subst hz
    rcases Nat.eq_zero_or_pos len with e | hp
    · subst e
      exact ⟨[], _, _, rfl, hl, hm, Or.inl rfl⟩
    · obtain ⟨b, off, spot⟩ := a
      have hspot : spot = none := by simpa [Addr.add] using World.cell?_spot (hcell 0 (by omega)).1
      subst hspot
      have hold : b < W.heap.size := by
        have := World.block_lt_of_cell? W _ (hcell 0 (by omega)).1
        simpa [Addr.add] using this
      obtain ⟨S, hS⟩ := choose_lt (α := ByteArray) (n := len) (p := fun i s => V0 i = .string s ∧ s.size ≤ maxLen) (fun i hi => by
        obtain ⟨s, e0, _, hs⟩ := DataW.trod_string Try.underlying9 (hcell i (by omega)).2.2.1
        simp at e0
        exact ⟨s, e0, hs⟩)
      obtain ⟨M, hM⟩ := choose_lt (α := Int) (n := len) (p := fun i x => V1 i = .int .i64 x) (fun i hi => by
        obtain ⟨x, e0, _, _⟩ := DataW.trod_int Try.underlying3 (hcell i (by omega)).2.2.2
        simp at e0
        exact ⟨x, e0⟩)
      have hlen : ((List.range len).map fun i => (S i, M i)).length = len := by simp
      have hSof : ∀ i, i < len → Sof ((List.range len).map fun i => (S i, M i)) i = S i := fun i hi => by simp [Sof, List.getD, hi]
      have hMof : ∀ i, i < len → Mof ((List.range len).map fun i => (S i, M i)) i = M i := fun i hi => by simp [Mof, List.getD, hi]
      refine ⟨(List.range len).map fun i => (S i, M i), some ⟨b, off, none⟩, _, by rw [hlen], by rw [hlen]; exact hl, hm, Or.inr ⟨b, off, rfl, ?_⟩⟩
      rw [hlen]
      exact {
        old := hold
        name := fun i hi => by
          have := (hcell i (by omega)).1
          rw [(hS i hi).1, add_plain] at this
          rw [hSof i hi]
          exact this
        num := fun i hi => by
          have := (hcell i (by omega)).2.1
          rw [hM i hi, add_plain] at this
          rw [hMof i hi]
          exact this
        small := fun i hi => by rw [hSof i hi]; exact (hS i hi).2 }

set_option maxRecDepth 100000 in
theorem lifted (os : Os) (started : os.Started) (H : Type) (enc : TypeId × Value → H) :
    ReturnsInHanded {} Try.checked os 3 .any (Rows.fnExactHostsJoinSpec.pre6 enc Try.prog Try.f3 Rows.fnExactHostsJoinRow.domain false) (Rows.fnExactHostsJoinSpec.post enc Try.prog Try.f3 false true false false) := by
  refine returnsInHanded_of_change (C := Try.checked) Try.own started (by kernel_rfl) Try.func3
    (ChangeSpec.witness6 (enc := enc) (C := Try.checked) false ⟨#[], #[.slice none 0 0, .slice none 0 0], []⟩ 8 (by kernel_rfl) (by kernel_rfl) (by kernel_rfl) (by kernel_rfl)) ?_
  intro W base args ds gs before hval0 hW _ _
  have hval : ∀ (j : Nat) t v, Try.f3.params[j]? = some t → args[j]? = some v → Value.okWide Try.prog W .any base t v := hval0
  have hW' := hW
  obtain ⟨p, q, hA0, hV, rfl, _, _⟩ := hW
  have hA : DataW.TrodAll enc Try.prog W 0 (fun _ => true) true Try.f3.params.toList args.toList ds p := hA0
  rw [Try.params3] at hA hval
  obtain ⟨v0, v1, d0, d1, p0, p1, rfl, rfl, rfl, h0, h1⟩ := trodAll_two hA
  obtain ⟨rfl, rfl⟩ := trodVars_none hV
  obtain ⟨a0, len0, cap0, rfl⟩ := okWide_slice Try.underlying22 (hval 0 22 v0 rfl rfl)
  obtain ⟨a1, len1, cap1, rfl⟩ := okWide_slice Try.underlying22 (hval 1 22 v1 rfl rfl)
  clear hA0 hval0
  simp only [List.append_nil] at hW'
  have hlt : ∀ x ∈ p0 ++ p1, x.block < W.heap.size := fun x hx => by simpa using hW'.lt x hx
  have hargs0 : ∀ (W' : World), Below W.heap.size W W' → DataW.Trod enc Try.prog W' 0 (fun b => decide (b < W.heap.size)) true 22 (.slice a0 len0 cap0) d0 p0 :=
    fun W' hn => Below.trod Try.laidOut (by kernel_rfl) (of_decide_eq_true (by kernel_rfl)) h0 hn (fun x hx => hlt x (List.mem_append_left _ hx))
  have hargs1 : ∀ (W' : World), Below W.heap.size W W' → DataW.Trod enc Try.prog W' 0 (fun b => decide (b < W.heap.size)) true 22 (.slice a1 len1 cap1) d1 p1 :=
    fun W' hn => Below.trod Try.laidOut (by kernel_rfl) (of_decide_eq_true (by kernel_rfl)) h1 hn (fun x hx => hlt x (List.mem_append_right _ hx))
  obtain ⟨A, hA⟩ := in_of_trod h0
  obtain ⟨B, hB⟩ := in_of_trod h1
  refine (law_any _ _ A B W hA hB).mono ?_
  intro e W' ⟨he, hb⟩
  subst he
  exact ⟨_, rfl, _, _, _, [], p0 ++ p1, [], hW', trodAll_mk1 (shut_bool Try.underlying4 true), trodAll_mk2 (hargs0 _ hb) (hargs1 _ hb), rfl, hb.frame _, fun h => by cases h⟩

theorem hostsjoin_holds : Rows.FnExactHostsJoinSaid :=
  OpenClaim.holds_of_wide 3 Try.f3 rfl rfl rfl rfl rfl rfl rfl ⟨rfl, rfl, rfl, rfl, rfl⟩ rfl rfl rfl rfl rfl (by kernel_rfl) Try.func3 (by kernel_rfl)
    (of_decide_eq_true (by kernel_rfl)) (by unfold Func.isWrapper; first | (rw [if_pos (by decide +kernel)]; kernel_rfl) | (rw [if_neg (by decide +kernel)]; exact ⟨rfl, rfl⟩))
    (fun os started H enc _ => lifted os started H enc)

#print axioms hostsjoin_holds
end Go.Proofs.Ytahhjhhnjpbocae
