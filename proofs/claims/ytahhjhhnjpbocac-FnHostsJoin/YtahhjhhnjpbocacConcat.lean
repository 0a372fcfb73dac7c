/- DERIVED. slices.Grow and slices.Concat at lists of hosts. -/
import Derived.Test.YtahhjhhnjpbocacSortRow
import Derived.Test.YtahhjhhnjpbocacJoinSpec
namespace Go.Proofs.Ytahhjhhnjpbocac
open Go.RowKit Go.Sort Go.Lib

theorem row_news {W : World} {g off : Nat} {o : Hs} (h : RowAt W g off o.length (Sof o) (Mof o)) : ∀ j u, (hcells o)[j]? = some u → W.cell? ((⟨g, off, none⟩ : Addr).add j) = some u := by
  intro j u hj
  have hjl : j < o.length * 2 := by
    rcases Nat.lt_or_ge j (o.length * 2) with h1 | h1
    · exact h1
    · rw [List.getElem?_eq_none (by rw [hcells_len]; omega)] at hj; cases hj
  have hi : j / 2 < o.length := by omega
  have h0 := hcells_at o (j / 2) hi
  rw [Go.WideShapes.add_plain]
  rw [sof_at o (j / 2) hi] at h0
  rcases Nat.mod_two_eq_zero_or_one j with hm | hm
  · have ht : j = j / 2 * 2 := by omega
    have := h.name (j / 2) hi
    rw [← ht] at this h0
    rw [this, ← hj, h0.1]
  · have ht : j = j / 2 * 2 + 1 := by omega
    have := h.num (j / 2) hi
    rw [Nat.add_assoc, ← ht] at this
    rw [← ht] at h0
    rw [this, ← hj, h0.2]

theorem grow_nil (n : Nat) (w : World) (hn : n ≤ 100) :
    Calls Try.prog 22 #[.slice none 0 0, .int .i64 (n : Int)] w fun e w' => ∃ v, e = .returned v ∧ w'.ownsRow w.heap.size 29 2 v 0 [] ∧ Below w.heap.size w w' := by
  rcases Nat.eq_zero_or_pos n with e | hp
  · subst e
    have h := Any8.slices_Grow_room Go.Proofs.Try.lgrow none 0 0 0 w (Nat.le_refl _) (by decide) (by decide) (Nat.le_refl _)
    refine Calls.mono (show Calls Try.prog 22 _ _ _ from h) ?_
    rintro e w' ⟨rfl, rfl⟩
    exact ⟨_, rfl, World.ownsRow_nil _ _ _ _, Below.refl _ _⟩
  · obtain ⟨i0, hi, hz0, hz1, hz2⟩ := info_parts infoHost
    have h := Any8.slices_Grow_grow Go.Proofs.Try.lgrow i0 (.agg #[.string ⟨#[]⟩, .int .i64 0]) hi hz0 (by omega) none 0 0 n [] w (Nat.le_refl _) (by omega) (by rw [hz2]; omega) (by omega) (by simp) (fun _ => rfl) (fun a ha => by cases ha)
    refine Calls.mono (show Calls Try.prog 22 _ _ _ from h) ?_
    rintro e w' ⟨rfl, rfl⟩
    rw [Nat.zero_add]
    have hge := grownCap_ge w n 0 29
    have hle := grownCap_le_maxLen w n 0 29 (by unfold maxLen; omega)
    refine ⟨_, rfl, ?_, ((Below.refl _ _).drew).alloc (Nat.le_refl _) _⟩
    refine World.ownsRow_made w.drew _ _ (Nat.le_refl _) hle ?_
    simp only [Array.size_append, size_zeroCells]
    show 0 + (n - 0) * 2 + (grownCap w n 0 29 - n) * 2 = grownCap w n 0 29 * 2
    omega

theorem run_append_none {P : Program} (w : World) (base : Nat) (t ty e : TypeId) (i : TypeInfo) (size : Nat) (ht : P.underlying t = some (.slice e)) (hi : P.info? e = some i)
    (v : Value) (n cp : Nat) (xs : List Value) (hown : w.ownsRow base e size v n xs) :
    (Builtin.append_ #[t, t] ty #[v, .slice none 0 cp]).run P w = .ok v w := by
  rcases hown.2 with ⟨rfl, rfl⟩ | ⟨g, cap, cur, rfl, _, _, hnc, _⟩
  · simp [Builtin.append_, run_underlying ht, sizeOf, typeInfo, hi, Builtin.lenOf, Builtin.firstCells]
  · simp [Builtin.append_, run_underlying ht, sizeOf, typeInfo, hi, Builtin.lenOf, Builtin.firstCells, hnc, storeCells]

theorem wpList_append_no {P : Program} {w : World} {ops : Array Oper} {rest : List Oper} {o : Oper} {a : Act} {Q : Exit → Act → World → Prop} (hgd : o.guard = none) (s x : Operand) (t : TypeId)
    (ho : o.op = .call { callee := .builtin .append, args := #[s, x], argTypes := #[t, t] })
    (base : Nat) (e : TypeId) (i : TypeInfo) (size : Nat) (ht : P.underlying t = some (.slice e)) (hi : P.info? e = some i)
    (v : Value) (n cp : Nat) (xs : List Value) (hs : a.eval s = v) (hown : w.ownsRow base e size v n xs) (hx : a.eval x = .slice none 0 cp)
    (h : wpList P ops Q rest (a.put o.dst v) w) : wpList P ops Q (o :: rest) a w := by
  refine wpList_plain hgd fun K hK => ?_
  have hrun := run_append_none (P := P) w base t o.type e i size ht hi v n cp xs hown
  unfold Oper.wp
  simp [execOp, ho, resolve, invoke, builtin, hs, hx, hrun, Result.andThen]
  exact hK _ _ h

/-- Where the hosts of a list lie, in this world and those that come of it. -/
def Src (w : World) (oa : Option Addr) (A : Hs) : Prop :=
  (oa = none ∧ A = []) ∨ ∃ ad, oa = some ad ∧ ∀ wr, Below w.heap.size w wr → ∀ j u, (hcells A)[j]? = some u → wr.cell? (ad.add j) = some u

theorem src_of {w : World} {oa : Option Addr} {A : Hs} {cp : Nat} (h : InRow w (.slice oa A.length cp) A) : Src w oa A := by
  obtain ⟨oa', cp', e, _, _, h3⟩ := h
  injection e with e1 e2 e3
  subst e1
  rcases h3 with h0 | ⟨g, off, rfl, R⟩
  · have : A = [] := List.eq_nil_of_length_eq_zero h0
    subst this
    cases oa with
    | none => exact Or.inl ⟨rfl, rfl⟩
    | some ad => exact Or.inr ⟨ad, rfl, fun wr _ j u hj => by simp [hcells] at hj⟩
  · exact Or.inr ⟨_, rfl, fun wr hb => row_news (R.below hb)⟩

theorem Src.below {w w' : World} {oa : Option Addr} {A : Hs} (h : Src w oa A) (hb : Below w.heap.size w w') : Src w' oa A := by
  rcases h with h | ⟨ad, e, h⟩
  · exact Or.inl h
  · exact Or.inr ⟨ad, e, fun wr hr => h wr (hb.trans (hr.mono hb.size))⟩

set_option maxRecDepth 100000 in
set_option maxHeartbeats 1600000 in
theorem concat_any (B0 c1 c2 : Nat) (oa ob : Option Addr) (A B : Hs) (w : World) (hA : A.length ≤ 30) (hB : B.length ≤ 30) (hB0 : B0 < w.heap.size)
    (k0 : w.cell? ⟨B0, 0, none⟩ = some (.slice oa A.length c1)) (k1 : w.cell? ⟨B0, 1, none⟩ = some (.slice ob B.length c2))
    (R1 : Src w oa A) (R2 : Src w ob B) :
    Calls Try.prog 11 #[.slice (some ⟨B0, 0, none⟩) 2 2] w fun e w' => ∃ v, e = .returned v ∧ w'.ownsRow w.heap.size 29 2 v (A ++ B).length (hcells (A ++ B)) ∧ Below w.heap.size w w' := by
  obtain ⟨i0, hi, hz0, hz1, hz2⟩ := info_parts infoHost
  have H1 := hid R1
  have H2 := hid R2
  clear R1 R2
  go_enter Try.func11, Try.ntmps11
  go_wp2
  go_loop [3, 11] (fun s i => ∃ k : Nat, i = .int .i64 (k : Int) ∧ (k = 0 ∧ s = .int .i64 0 ∨ k = 1 ∧ s = .int .i64 (A.length : Int) ∨ k = 2 ∧ s = .int .i64 ((A.length + B.length : Nat) : Int))) (fun _ i => 2 - (intOf i).toNat)
  case atStart => exact ⟨0, rfl, Or.inl ⟨rfl, rfl⟩⟩
  case round =>
    obtain ⟨k, rfl, hk⟩ := hrel
    rcases hk with ⟨rfl, rfl⟩ | ⟨rfl, rfl⟩ | ⟨rfl, rfl⟩
    · go_wp2
      go_round
      case rel => exact ⟨1, rfl, Or.inr (Or.inl ⟨rfl, by go_num⟩)⟩
      case measure => simp [intOf]
    · go_wp2
      go_round
      case rel => exact ⟨2, rfl, Or.inr (Or.inr ⟨rfl, by go_num⟩)⟩
      case measure => simp [intOf]
    · obtain ⟨n, hn⟩ : ∃ n, n = A.length + B.length := ⟨_, rfl⟩
      have hn60 : n ≤ 60 := by omega
      rw [← hn]
      clear hn
      go_wp2_with fail
      refine (grow_nil n _ (by omega)).mono ?_
      rintro e w1 ⟨v1, rfl, hrow1, hb1⟩
      have HB1 := hid hb1
      have HROW1 := hid hrow1
      clear hrow1 hb1
      go_wp2
      go_loopw [6, 27] (fun v i wr => Below w.heap.size w wr ∧ ∃ (k : Nat) (o : Hs), i = .int .i64 (k : Int) ∧ wr.ownsRow w.heap.size 29 2 v o.length (hcells o) ∧ (k = 0 ∧ o = [] ∨ k = 1 ∧ o = A ∨ k = 2 ∧ o = A ++ B)) (fun _ i _ => 2 - (intOf i).toNat)
      case atStart => exact ⟨HB1.out, 0, [], rfl, HROW1.out, Or.inl ⟨rfl, rfl⟩⟩
      case round =>
        obtain ⟨hB', k, o, rfl, hown, hk⟩ := hrel
        have HB := hid hB'
        have HS := hid hB'.size
        have d0 : wr.cell? ⟨B0, 0, none⟩ = some (.slice oa A.length c1) := by rw [hB'.cell (p := ⟨B0, 0, none⟩) hB0]; exact k0
        have d1 : wr.cell? ⟨B0, 1, none⟩ = some (.slice ob B.length c2) := by rw [hB'.cell (p := ⟨B0, 1, none⟩) hB0]; exact k1
        clear hB'
        obtain ⟨ov, cv, rfl⟩ := row_shape hown
        rcases hk with ⟨rfl, rfl⟩ | ⟨rfl, rfl⟩ | ⟨rfl, rfl⟩
        · rcases H1.out with ⟨rfl, rfl⟩ | ⟨ad, rfl, hn1⟩
          · go_wp2_with (at_builtin; refine wpList_append_no rfl _ _ 23 rfl w.heap.size 29 i0 2 Try.underlying23 hi _ _ _ _ rfl hown rfl ?_)
            have HOWN' := hid hown
            clear hown
            go_wp2
            go_roundw
            case rel =>
              exact ⟨HB.out, 1, [], by go_num, HOWN'.out, Or.inr (Or.inl ⟨rfl, rfl⟩)⟩
            case measure => simp [intOf]
          · have HN1 := hid (hn1 _ HB.out)
            clear hn1
            go_wp2_with (at_builtin; refine wpList_append_own _ rfl _ _ 23 rfl w.heap.size 29 i0 (.agg #[.string ⟨#[]⟩, .int .i64 0]) 2 24 Try.underlying23 hi hz0 hz1 hz2 rfl (by decide) _ _ _ rfl hown ad A.length c1 (hcells A) rfl (hcells_len A) HN1.out (hcells_one A) (by simp; unfold maxLen; omega) (by simp; omega) HS.out ?_)
            intro v' w2 hown' hgrow _
            have HB2 : Hid (Below w.heap.size w w2) := HB.out.trans (below_grown hown HS.out hgrow)
            have HOWN' := hid hown'
            clear hown' hgrow hown
            go_wp2
            go_roundw
            case rel =>
              refine ⟨HB2.out, 1, A, by go_num, ?_, Or.inr (Or.inl ⟨rfl, rfl⟩)⟩
              simpa [hcells] using HOWN'.out
            case measure => simp [intOf]
        · rcases H2.out with ⟨rfl, rfl⟩ | ⟨ad, rfl, hn2⟩
          · go_wp2_with (at_builtin; refine wpList_append_no rfl _ _ 23 rfl w.heap.size 29 i0 2 Try.underlying23 hi _ _ _ _ rfl hown rfl ?_)
            have HOWN' := hid hown
            clear hown
            go_wp2
            go_roundw
            case rel =>
              exact ⟨HB.out, 2, o ++ [], by go_num, by rw [List.append_nil]; exact HOWN'.out, Or.inr (Or.inr ⟨rfl, rfl⟩)⟩
            case measure => simp [intOf]
          · have HN2 := hid (hn2 _ HB.out)
            clear hn2
            go_wp2_with (at_builtin; refine wpList_append_own _ rfl _ _ 23 rfl w.heap.size 29 i0 (.agg #[.string ⟨#[]⟩, .int .i64 0]) 2 24 Try.underlying23 hi hz0 hz1 hz2 rfl (by decide) _ _ _ rfl hown ad B.length c2 (hcells B) rfl (hcells_len B) HN2.out (hcells_one B) (by unfold maxLen; omega) (by omega) HS.out ?_)
            intro v' w2 hown' hgrow _
            have HB2 : Hid (Below w.heap.size w w2) := HB.out.trans (below_grown hown HS.out hgrow)
            have HOWN' := hid hown'
            clear hown' hgrow hown
            go_wp2
            go_roundw
            case rel =>
              refine ⟨HB2.out, 2, o ++ B, by go_num, ?_, Or.inr (Or.inr ⟨rfl, rfl⟩)⟩
              rw [List.length_append, hcells_append]
              exact HOWN'.out
            case measure => simp [intOf]
        · have HOWN := hid hown
          clear hown
          go_wp2
          refine bodyPost_ret (v := _) (by simp [results, Try.results11, go_sem]; rfl) rfl ?_
          have h := HOWN.out
          rw [List.length_append] at h ⊢
          exact ⟨_, rfl, h, HB.out⟩

end Go.Proofs.Ytahhjhhnjpbocac
