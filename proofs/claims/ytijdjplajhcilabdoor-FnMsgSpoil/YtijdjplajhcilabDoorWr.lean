/- DERIVED. The writer of messages: the builder that is embedded in it, by contracts of this program at the writer's own block. -/
import Derived.Test.YtijdjplajhcilabDoorOk
import Derived.Below
import Derived.OwnWalk
import Derived.Lib.FrozenHead2
import Derived.Lib.OthersKept
import Derived.Lib.UnsafeStr
import Derived.Lib.Builder
import Derived.Laws.Externs
import Derived.Shelf.RegionOpenPlain
namespace Go.Proofs.YtijdjplajhcilabDoor
open Go.RowKit

/-- The writer lies in block b, and holds a text. -/
def WrAt (base b : Nat) (t : ByteArray) (w : World) : Prop := Lib.IsBuilderF 40 5 base b (Lib.strCells t) w

/-- What a call of the writer leaves: what lay there before, and all other blocks but rows of bytes. -/
def WrFrame (base b : Nat) (w w' : World) : Prop := Below base w w' ∧ Lib.OthersKept 5 (some b) w w'

theorem WrFrame.refl (base b : Nat) (w : World) : WrFrame base b w w := ⟨Below.refl _ _, Lib.OthersKept.refl _ _ _⟩

theorem WrFrame.trans {base b : Nat} {a c d : World} (h : WrFrame base b a c) (k : WrFrame base b c d) : WrFrame base b a d := ⟨h.1.trans k.1, h.2.trans k.2⟩

theorem strCells_app (s t : ByteArray) : Lib.strCells (s ++ t) = Lib.strCells s ++ Lib.strCells t := by
  simp [Lib.strCells]

theorem infoU8 : (Tryd.prog.info? 5).map (fun i => (i.zero, i.size, i.bytes)) = some (some (.int .u8 0), 1, 1) := by kernel_rfl
theorem infoBuilder : (Tryd.prog.info? 38).map (·.size) = some 2 := by kernel_rfl
theorem liesBuilder : liesAt Tryd.prog Tryd.prog.depth 40 (2 / Tryd.prog.cellsOf 40) 0 38 1 = true := by kernel_rfl

set_option maxRecDepth 100000 in
set_option maxHeartbeats 800000 in
theorem check_used (b : Nat) (w : World) (h0 : w.cell? ⟨b, 0, none⟩ = some (.pointer (some ⟨b, 0, none⟩))) :
    Calls Tryd.prog 53 #[.pointer (some ⟨b, 0, none⟩)] w fun e w' => e = .returned (.tuple #[]) ∧ w' = w := by
  obtain ⟨j, hj, _⟩ := Option.map_eq_some_iff.1 infoBuilder
  have hr := Lib.run_neq_ptr_same (P := Tryd.prog) w ⟨b, 0, none⟩ Tryd.underlying36 hj
  go_enter Tryd.func53, Tryd.ntmps53
  go_wp2
  go_end0
  exact ⟨rfl, rfl⟩

set_option maxRecDepth 100000 in
set_option maxHeartbeats 800000 in
theorem check_fresh (b : Nat) (w : World) (h0 : w.cell? ⟨b, 0, none⟩ = some (.pointer none)) (hsh : w.shape? b = some (40, 2)) (hfz : w.frozen? ⟨b, 0, none⟩ = false) :
    Calls Tryd.prog 53 #[.pointer (some ⟨b, 0, none⟩)] w fun e w' => e = .returned (.tuple #[]) ∧ w' = w.setCell ⟨b, 0, none⟩ (.pointer (some ⟨b, 0, none⟩)) := by
  obtain ⟨j, hj, hjs⟩ := Option.map_eq_some_iff.1 infoBuilder
  have hr := Lib.run_neq_ptr_same (P := Tryd.prog) (w.setCell ⟨b, 0, none⟩ (.pointer (some ⟨b, 0, none⟩))) ⟨b, 0, none⟩ Tryd.underlying36 hj
  have hto := Lib.run_to_unsafe (P := Tryd.prog) (w := w) ⟨b, 0, none⟩ Tryd.underlying36 Tryd.underlying98 hj (by rw [hjs]; decide) hsh (Nat.zero_lt_succ 1)
  have hfrom := Lib.run_from_unsafe (P := Tryd.prog) (w := w) ⟨b, 0, none⟩ Tryd.underlying98 Tryd.underlying36 hj hsh liesBuilder
  have hno : (callFunc 63 #[.pointer (some ⟨b, 0, none⟩)]).run Tryd.prog w = .ok (.value (.pointer (some ⟨b, 0, none⟩))) w := by
    rw [run_callFunc_extern (fn := Tryd.f63) (e := Extern.AbiNoEscape.same) (by kernel_rfl) (by kernel_rfl) (by kernel_rfl) (by kernel_rfl) (by kernel_rfl), Lib.run_noEscape]
    rfl
  go_enter Tryd.func53, Tryd.ntmps53
  go_wp2
  go_end0
  exact ⟨rfl, rfl⟩

/-- A writer that was written into. -/
def WrUsed (base b : Nat) (t : ByteArray) (w : World) : Prop := Lib.BuilderAtF 40 5 base b (.pointer (some ⟨b, 0, none⟩)) (Lib.strCells t) w

theorem WrUsed.at {base b : Nat} {t : ByteArray} {w : World} (h : WrUsed base b t w) : WrAt base b t w := Or.inr h

theorem check_any (base b : Nat) (t : ByteArray) (w : World) (h : WrAt base b t w) :
    Calls Tryd.prog 53 #[.pointer (some ⟨b, 0, none⟩)] w fun e w' => e = .returned (.tuple #[]) ∧ WrUsed base b t w' ∧ WrFrame base b w w' := by
  rcases h with h | h
  · refine (check_fresh b w h.cell0 h.shape h.frozen0).mono ?_
    rintro e w' ⟨rfl, rfl⟩
    exact ⟨rfl, h.used _, (Below.refl base w).setCell (p := ⟨b, 0, none⟩) h.1 _, (Lib.OthersKept.refl _ _ w).setCell ⟨b, 0, none⟩ rfl _⟩
  · refine (check_used b w h.cell0).mono ?_
    rintro e w' ⟨rfl, rfl⟩
    exact ⟨rfl, h, WrFrame.refl _ _ _⟩

theorem cell_one (w : World) (u : Value) (e : TypeId) : ∀ (j : Nat) x, [u][j]? = some x → (w.alloc (.cells #[u] e)).cell? ((⟨w.heap.size, 0, none⟩ : Addr).add j) = some x := by
  intro j x hj
  match j, hj with
  | 0, hj => simp at hj; subst hj; simp [Addr.add]
  | n + 1, hj => simp at hj

theorem neU8 : (40 : TypeId) ≠ 5 := by decide

theorem used_block {base b : Nat} {t : ByteArray} {w : World} (h : WrUsed base b t w) : ∃ v, base ≤ b ∧ b < w.heap.size ∧ w.heap[b]? = some (.cells #[.pointer (some ⟨b, 0, none⟩), v] 40 (0, 0)) ∧ w.ownsRowF base 5 1 v (Lib.strCells t).length (Lib.strCells t) ∧ v.ownBlock ≠ some b := by
  have hl := h.lt
  obtain ⟨hB, v, hbk, hown, hne⟩ := h
  exact ⟨v, hB, hl, hbk, hown, hne⟩

theorem strCells_len (t : ByteArray) : (Lib.strCells t).length = t.size := Lib.strCells_length t

set_option maxRecDepth 100000 in
set_option maxHeartbeats 1600000 in
theorem byte_any (base b : Nat) (t : ByteArray) (c : UInt8) (ci : Int) (w : World) (h : WrAt base b t w) (hbw : base ≤ w.heap.size) (hsz : t.size ≤ 1000000000000) (hc : ci = (c.toNat : Int)) :
    Calls Tryd.prog 31 #[.pointer (some ⟨b, 0, none⟩), .int .u8 ci] w fun e w' => e = .returned .nilIface ∧ WrUsed base b (t ++ ⟨#[c]⟩) w' ∧ WrFrame base b w w' := by
  obtain ⟨i0, hi, hz0, hz1, hz2⟩ := info_parts infoU8
  have CK := hid (check_any base b t w h)
  have HC := hid hc
  have HSZ := hid hsz
  clear h hc hsz
  go_enter Tryd.func31, Tryd.ntmps31
  go_wp2_with fail
  refine CK.out.mono ?_
  rintro e w1 ⟨rfl, hu, hf⟩
  obtain ⟨v, hB, hlt, hbk, hown, hne⟩ := used_block hu
  have HF := hid hf
  have HBK := hid hbk
  have HS1 : Hid (base ≤ w1.heap.size) := Nat.le_trans hbw hf.1.size
  have HLT := hid hlt
  have c0 : w1.cell? ⟨b, 0, none⟩ = some (.pointer (some ⟨b, 0, none⟩)) := by rw [Lib.cell_of_heap hbk]; rfl
  have c1 : w1.cell? ⟨b, 1, none⟩ = some v := by rw [Lib.cell_of_heap hbk]; rfl
  have HNE := hid hne
  have hfb : WrFrame base b w (w1.alloc (.cells #[.int .u8 ci] 5)) := ⟨hf.1.alloc HS1.out _, hf.2.alloc _⟩
  have HFB := hid hfb
  have hl : (Lib.strCells t).length ≤ 1000000000000 := by rw [strCells_len]; exact HSZ.out
  clear hu hf hbk hlt hne hfb
  go_wp2_with (at_builtin; refine wpList_append_ownF _ rfl _ _ 22 rfl base 5 i0 (.int .u8 0) 1 1 Tryd.underlying22 hi hz0 hz1 hz2 rfl (by decide) _ _ _ rfl (hown.alloc _) ⟨w1.heap.size, 0, none⟩ 1 1 [.int .u8 ci] rfl rfl (cell_one _ _ _) (by simp [Value.oneCell']) (by unfold maxLen; omega) (by omega) (by have := HS1.out; simp; omega) ?_)
  intro v' w2 hown' hgrow _
  have hb2 : w2.heap[b]? = some (.cells #[.pointer (some ⟨b, 0, none⟩), v] 40 (0, 0)) := by
    rw [hgrow.block b (by have := HLT.out; simp; omega) (fun e => HNE.out e.symm), Lib.alloc_old w1 _ b HLT.out]
    exact HBK.out
  have d0 : w2.cell? ⟨b, 0, none⟩ = some (.pointer (some ⟨b, 0, none⟩)) := by rw [Lib.cell_of_heap hb2]; rfl
  have d1 : w2.cell? ⟨b, 1, none⟩ = some v := by rw [Lib.cell_of_heap hb2]; rfl
  have f1 : w2.frozen? ⟨b, 1, none⟩ = false := Lib.frozen_of_heap hb2 1
  obtain ⟨g, cap, rfl⟩ : ∃ g cap, v' = .slice (some ⟨g, 0, none⟩) ((Lib.strCells t).length + 1) cap := by
    rcases hown'.2 with ⟨_, h0⟩ | ⟨g, cap, cur, fz, hv, _⟩
    · omega
    · exact ⟨g, cap, hv⟩
  have HU : Hid (WrUsed base b (t ++ ⟨#[c]⟩) (w2.setCell ⟨b, 1, none⟩ (.slice (some ⟨g, 0, none⟩) ((Lib.strCells t).length + 1) cap))) := by
    have e : Lib.strCells (t ++ ⟨#[c]⟩) = Lib.strCells t ++ [.int .u8 ci] := by rw [strCells_app, HC.out]; rfl
    show Lib.BuilderAtF _ _ _ _ _ _ _
    rw [e]
    exact Lib.BuilderAtF.put hB hb2 (by simpa using hown') neU8
  have HFF : Hid (WrFrame base b w (w2.setCell ⟨b, 1, none⟩ (.slice (some ⟨g, 0, none⟩) ((Lib.strCells t).length + 1) cap))) := by
    refine ⟨?_, ?_⟩
    · exact (HFB.out.1.grown hgrow (by have := HS1.out; simp; omega) (fun k hk => (hown.lt k hk).1)).setCell (p := ⟨b, 1, none⟩) hB _
    · exact (HFB.out.2.grown hgrow (Lib.ownsRowF_kind (hown.alloc _))).setCell ⟨b, 1, none⟩ rfl _
  clear hown' hgrow hb2 hown
  go_wp2
  go_ret
  exact ⟨rfl, HU.out, HFF.out⟩

set_option maxRecDepth 100000 in
set_option maxHeartbeats 1600000 in
theorem string_any (base b : Nat) (t s : ByteArray) (w : World) (h : WrAt base b t w) (hbw : base ≤ w.heap.size) (hsz : t.size ≤ 1000000000000) (hss : s.size ≤ 1000000000000) :
    Calls Tryd.prog 27 #[.pointer (some ⟨b, 0, none⟩), .string s] w fun e w' => (∃ v, e = .returned v) ∧ WrUsed base b (t ++ s) w' ∧ WrFrame base b w w' := by
  obtain ⟨i0, hi, hz0, hz1, hz2⟩ := info_parts infoU8
  have CK := hid (check_any base b t w h)
  have HSZ := hid hsz
  have HSS := hid hss
  clear h hsz
  go_enter Tryd.func27, Tryd.ntmps27
  go_wp2_with fail
  refine CK.out.mono ?_
  rintro e w1 ⟨rfl, hu, hf⟩
  obtain ⟨v, hB, hlt, hbk, hown, hne⟩ := used_block hu
  have HF := hid hf
  have HBK := hid hbk
  have HS1 : Hid (base ≤ w1.heap.size) := Nat.le_trans hbw hf.1.size
  have HLT := hid hlt
  have c0 : w1.cell? ⟨b, 0, none⟩ = some (.pointer (some ⟨b, 0, none⟩)) := by rw [Lib.cell_of_heap hbk]; rfl
  have c1 : w1.cell? ⟨b, 1, none⟩ = some v := by rw [Lib.cell_of_heap hbk]; rfl
  have HNE := hid hne
  have hl : (Lib.strCells t).length ≤ 1000000000000 := by rw [strCells_len]; exact HSZ.out
  clear hu hf hbk hlt hne
  go_wp2_with (at_builtin; refine Lib.wpList_append_own_stringF _ rfl _ _ 22 9 rfl base 5 i0 Tryd.underlying22 Tryd.underlying9 hi hz0 hz1 hz2 _ _ _ rfl hown s rfl (by unfold maxLen; omega) (by omega) (by have := HS1.out; omega) ?_)
  intro v' w2 hown' hgrow _
  have hb2 : w2.heap[b]? = some (.cells #[.pointer (some ⟨b, 0, none⟩), v] 40 (0, 0)) := by
    rw [hgrow.block b HLT.out (fun e => HNE.out e.symm)]
    exact HBK.out
  have d0 : w2.cell? ⟨b, 0, none⟩ = some (.pointer (some ⟨b, 0, none⟩)) := by rw [Lib.cell_of_heap hb2]; rfl
  have d1 : w2.cell? ⟨b, 1, none⟩ = some v := by rw [Lib.cell_of_heap hb2]; rfl
  have f1 : w2.frozen? ⟨b, 1, none⟩ = false := Lib.frozen_of_heap hb2 1
  obtain ⟨ao, n', cap, rfl⟩ : ∃ ao n' cap, v' = .slice ao n' cap := by
    rcases hown'.2 with ⟨hv, _⟩ | ⟨g, cap, cur, fz, hv, _⟩
    · exact ⟨_, _, _, hv⟩
    · exact ⟨_, _, _, hv⟩
  have HU : Hid (WrUsed base b (t ++ s) (w2.setCell ⟨b, 1, none⟩ (.slice ao n' cap))) := by
    show Lib.BuilderAtF _ _ _ _ _ _ _
    rw [strCells_app]
    exact Lib.BuilderAtF.put hB hb2 (by rw [List.length_append, strCells_len s]; exact hown') neU8
  have HFF : Hid (WrFrame base b w (w2.setCell ⟨b, 1, none⟩ (.slice ao n' cap))) := by
    refine ⟨?_, ?_⟩
    · exact (HF.out.1.grown hgrow HS1.out (fun k hk => (hown.lt k hk).1)).setCell (p := ⟨b, 1, none⟩) hB _
    · exact (HF.out.2.grown hgrow (Lib.ownsRowF_kind hown)).setCell ⟨b, 1, none⟩ rfl _
  clear hown' hgrow hb2 hown
  go_wp2
  go_ret2
  exact ⟨⟨_, rfl⟩, HU.out, HFF.out⟩

theorem cellsByte : Tryd.prog.cellsOf 5 = 1 := by kernel_rfl

theorem strCells_bytes (t : ByteArray) : Lib.strCells t = Lib.byteCells t.data.toList := by
  simp [Lib.strCells, Lib.byteCells]

set_option maxRecDepth 100000 in
set_option maxHeartbeats 1600000 in
theorem text_any (base b : Nat) (t : ByteArray) (w : World) (h : WrUsed base b t w) (ht : 0 < t.size) :
    Calls Tryd.prog 14 #[.pointer (some ⟨b, 0, none⟩)] w fun e w' => e = .returned (.string t) ∧ WrUsed base b t w' ∧ WrFrame base b w w' := by
  obtain ⟨v, hB, hlt, hbk, hown, hne⟩ := used_block h
  have hn := strCells_len t
  rw [hn] at hown
  obtain ⟨g, cap, cur, fz, rfl, hbg, hg, hfz, hnc, hcm, hcs, htake⟩ : ∃ g cap cur fz, v = .slice (some ⟨g, 0, none⟩) t.size cap ∧ base ≤ g ∧ w.heap[g]? = some (.cells cur 5 fz) ∧ fz.2 ≤ t.size * 1 ∧ t.size ≤ cap ∧ cap ≤ maxLen ∧ cur.size = cap * 1 ∧ cur.toList.take (t.size * 1) = Lib.strCells t := by
    rcases hown.2 with ⟨_, hz⟩ | ⟨g, cap, cur, fz, hv, r⟩
    · omega
    · exact ⟨g, cap, cur, fz, hv, r⟩
  have c1 : w.drew.cell? ⟨b, 1, none⟩ = some (.slice (some ⟨g, 0, none⟩) t.size cap) := by
    have : w.drew.heap[b]? = some (.cells #[.pointer (some ⟨b, 0, none⟩), .slice (some ⟨g, 0, none⟩) t.size cap] 40 (0, 0)) := hbk
    rw [Lib.cell_of_heap this]; rfl
  have hSD : (Builtin.unsafeSliceData_ #[22] 70 #[.slice (some ⟨g, 0, none⟩) t.size cap]).run Tryd.prog w.drew = .ok (.pointer (some ⟨g, 0, none⟩)) w.drew :=
    Lib.run_unsafeSliceData_row _ _ _ _ _ _ (by omega)
  have hll : t.data.toList.length = t.size := by simp
  have hUS : (Builtin.unsafeString_ #[70, 3] 9 #[.pointer (some ⟨g, 0, none⟩), .int .i64 t.size]).run Tryd.prog w.drew = .ok (.string t) (w.drew.freeze ⟨g, 0, none⟩ t.size) := by
    have hr := Lib.run_unsafeString_row (P := Tryd.prog) w.drew 70 3 9 5 Tryd.underlying70 cellsByte g cur.size (by have hg' : w.drew.heap[g]? = some (.cells cur 5 fz) := hg; simp [World.shape?, hg']) t.data.toList (by intro e; rw [e] at hll; simp at hll; omega) (by rw [hll]; omega) (by rw [hll]; unfold maxLen at hcm; omega) (by
      intro j x hx
      have := hown.cells (g := g) rfl j (.int .u8 x.toNat) (by rw [strCells_bytes]; simp [Lib.byteCells, hx])
      exact this)
    rw [hll] at hr
    rw [hr]
  have HK : Hid (WrUsed base b t (w.drew.freeze ⟨g, 0, none⟩ t.size)) := by
    have hA : WrUsed base b t w.drew := h
    have hF := Lib.BuilderAtF.froze (g := g) (cap := cap) hA (by rw [hn]; exact c1)
    rw [hn] at hF
    exact hF
  have HFF : Hid (WrFrame base b w (w.drew.freeze ⟨g, 0, none⟩ t.size)) := ⟨Lib.below_freeze (Below.drew (Below.refl base w)) (p := ⟨g, 0, none⟩) hbg _, ((Lib.OthersKept.refl _ _ w).drew).freeze ⟨g, 0, none⟩ _ ⟨cur, fz, hg⟩⟩
  have mixed : Tryd.prog.follows Departure.mixedOrders = true := by kernel_rfl
  clear h hown hbk hne htake hll hg
  go_enter Tryd.func14, Tryd.ntmps14
  go_wp2
  go_region_o
  all_goals (go_wp2; go_ret; exact ⟨rfl, HK.out, HFF.out⟩)

end Go.Proofs.YtijdjplajhcilabDoor
