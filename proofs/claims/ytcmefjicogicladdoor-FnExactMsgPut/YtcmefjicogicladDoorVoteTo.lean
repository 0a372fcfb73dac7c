/- DERIVED. The walks of toIntS and eqIntS; a row of numbers that came in. -/
import Derived.Test.YtcmefjicogicladDoorVoteRows
import Derived.ProofKit
import Derived.OpenShut
import Derived.Deep.OwnRows
namespace Go.Proofs.YtcmefjicogicladDoor
open Go.RowKit Go.ChangeShapes Go.WideShapes Go.ChangeAt

theorem cellsInt : Tryd.prog.cellsOf 3 = 1 := by kernel_rfl

theorem nums_open {H : Type} {enc : TypeId × Value → H} {W : World} {a0 : Option Addr} {len cap : Nat} {d : DataW H} {p : List MemPlace} (h : DataW.Trod enc Tryd.prog W 0 (fun _ => true) true 22 (.slice a0 len cap) d p) : ∃ V : List Int, len = V.length ∧ NumsAt W a0 V := by
  obtain ⟨fuel, hf⟩ := h
  rcases open_ints Tryd.underlying22 Tryd.underlying3 cellsInt hf with ⟨hcs, hx⟩ | ⟨a, len', cap', zs, hcs, _, hl, hm, hz, hx, hcell, hwz⟩
  · simp [Value.cells] at hcs
    obtain ⟨rfl, rfl, rfl⟩ := hcs
    exact ⟨[], rfl, fun i hi => absurd hi (Nat.not_lt_zero _)⟩
  · simp [Value.cells] at hcs
    obtain ⟨rfl, rfl, rfl⟩ := hcs
    simp only [if_true] at hz
    have hlen : len = (zs.take len).length := by rw [List.length_take]; omega
    refine ⟨zs.take len, hlen, fun i hi => ?_⟩
    have hil : i < len := by omega
    have h1 := hcell i (by omega)
    obtain ⟨b, off, spot⟩ := a
    have hspot : spot = none := by simpa [Addr.add] using World.cell?_spot (hcell 0 (by omega))
    subst hspot
    have hold : b < W.heap.size := by
      have := World.block_lt_of_cell? W _ (hcell 0 (by omega))
      simpa [Addr.add] using this
    rw [add_plain] at h1
    refine ⟨b, off, rfl, hold, ?_⟩
    rw [h1, List.getElem_take, List.getD_eq_getElem?_getD, List.getElem?_eq_getElem (by omega)]
    rfl

theorem make_ints (n : Nat) (hn : n ≤ 1048576) (w : World) : (Instr.makeSlice 22 (.int .i64 (n : Int)) (.int .i64 (n : Int))).run Tryd.prog w = .ok (.slice (some ⟨w.heap.size, 0, none⟩) n n) (w.alloc (.cells (madeCells #[.int .i64 0] n) 3)) :=
  run_make_row' 22 3 (.int .i64 0) 8 Tryd.underlying22 (by kernel_rfl) (by simp [Value.cells]) .i64 .i64 n (by omega) (by omega) w

theorem made_list (n : Nat) : (madeCells #[Value.int .i64 0] n).toList = List.replicate n (.int .i64 0) := by
  apply List.ext_getElem
  · simp [madeCells]
  · intro i h1 h2
    simp [madeCells, Nat.mod_one]

/-- Half way: the first k are copied. -/
def copied (V : List Int) (len k : Nat) : List Value := (V.take k).map (Value.int .i64) ++ List.replicate (len - k) (.int .i64 0)

theorem copied_len (V : List Int) (k : Nat) (h : k ≤ V.length) : (copied V V.length k).length = V.length := by
  unfold copied
  simp
  omega

theorem copied_next (V : List Int) (k : Nat) (h : k < V.length) : copied V V.length (k + 1) = (copied V V.length k).set k (.int .i64 V[k]) := by
  unfold copied
  have hl : ((V.take k).map (Value.int .i64)).length = k := by simp; omega
  rw [List.set_append_right _ _ (by omega), hl, Nat.sub_self, List.take_succ_eq_append_getElem h, List.map_append, List.append_assoc]
  congr 1
  rw [show V.length - k = (V.length - (k + 1)) + 1 by omega, List.replicate_succ]
  rfl

theorem copied_end (V : List Int) : copied V V.length V.length = V.map (Value.int .i64) := by
  unfold copied
  simp

theorem made_row (w : World) (n : Nat) (hn : n ≤ 1048576) : (w.alloc (.cells (madeCells #[.int .i64 0] n) 3)).ownsRow w.heap.size 3 1 (.slice (some ⟨w.heap.size, 0, none⟩) n n) n (List.replicate n (.int .i64 0)) := by
  refine ⟨by simp, Or.inr ⟨w.heap.size, n, madeCells #[.int .i64 0] n, rfl, Nat.le_refl _, ?_, Nat.le_refl _, ?_, ?_, ?_⟩⟩
  · show (w.heap.push _)[w.heap.size]? = _
    simp
  · have : (1048576 : Nat) ≤ maxLen := by decide
    omega
  · simp [size_madeCells]
  · rw [made_list]
    simp

set_option maxRecDepth 100000 in
set_option maxHeartbeats 800000 in
theorem toS_any (oa : Option Addr) (cap len : Nat) (V : List Int) (w : World) (hl : len = V.length) (hm : len ≤ 1048576) (h : NumsAt w oa V) :
    Calls Tryd.prog 13 #[.slice oa len cap] w fun e w' => ∃ v, e = .returned v ∧ w'.ownsRow w.heap.size 3 1 v V.length (V.map (Value.int .i64)) ∧ Below w.heap.size w w' := by
  have hmk := make_ints len hm w
  have HROW := hid (made_row w len hm)
  have HB0 : Hid (Below w.heap.size w (w.alloc (.cells (madeCells #[.int .i64 0] len) 3))) := (Below.refl _ _).alloc (Nat.le_refl _) _
  obtain ⟨A, hA⟩ : ∃ A, A = madeCells #[Value.int .i64 0] len := ⟨_, rfl⟩
  rw [← hA] at hmk HROW HB0
  have HV := hid h
  have HL := hid hl
  clear hA h hl
  go_enter Tryd.func13, Tryd.ntmps13
  go_wp2
  clear hmk
  go_loopw [4] (fun i wr => ∃ k : Nat, k ≤ len ∧ i = .int .i64 k ∧ wr.ownsRow w.heap.size 3 1 (.slice (some ⟨w.heap.size, 0, none⟩) len len) len (copied V len k) ∧ Below w.heap.size w wr) (fun i _ => len - (intOf i).toNat)
  case atStart => exact ⟨0, Nat.zero_le _, rfl, by simpa [copied] using HROW.out, HB0.out⟩
  case round =>
    obtain ⟨k, hk, rfl, hown, hb⟩ := hrel
    have HOWN := hid hown
    have HBR := hid hb
    clear hown hb
    by_cases hlt : k < len
    · have hltI : (k : Int) < (len : Int) := by omega
      have hkv : k < V.length := by rw [← HL.out]; exact hlt
      obtain ⟨b, off, rfl, _, hc⟩ := (HV.out.below HBR.out) k hkv
      have hcl : (copied V len k).length = len := by have := copied_len V k (by omega); rw [HL.out]; exact this
      obtain ⟨g', cp', e, _, _, _, _, hcells⟩ := row_cells HOWN.out (by omega)
      injection e with e1 e2 e3
      injection e1 with e1
      injection e1 with e1
      subst e1
      have hd := hcells k _ (List.getElem?_eq_getElem (by omega))
      obtain ⟨u, hu⟩ : ∃ u, u = (copied V len k)[k]'(by omega) := ⟨_, rfl⟩
      rw [← hu] at hd
      have hf := own_free HOWN.out k
      have HS : Hid (copied V len (k + 1) = (copied V len k).set k (.int .i64 V[k])) := by have := copied_next V k hkv; rw [HL.out]; exact this
      obtain ⟨x, hx⟩ : ∃ x, x = V[k] := ⟨_, rfl⟩
      rw [← hx] at hc HS
      clear hx hcells hu hcl
      go_wp2
      go_roundw
      case rel =>
        refine ⟨k + 1, by omega, by go_num, ?_, HBR.out.setCell (p := ⟨w.heap.size, k, none⟩) (Nat.le_refl _) _⟩
        rw [HS.out]
        exact row_store HOWN.out k _
      case measure => simp [intOf]; omega
    · have hltI : ¬ (k : Int) < (len : Int) := by omega
      have hkl : k = len := by omega
      have HF : Hid (wr.ownsRow w.heap.size 3 1 (.slice (some ⟨w.heap.size, 0, none⟩) len len) V.length (V.map (Value.int .i64))) := by
        have := HOWN.out
        rw [hkl] at this
        have e := copied_end V
        rw [← HL.out] at e ⊢
        rw [e] at this
        exact this
      clear hkl
      go_wp2
      go_ret
      exact ⟨.slice (some ⟨w.heap.size, 0, none⟩) len len, rfl, by simpa using HF.out, HBR.out⟩

set_option maxRecDepth 100000 in
set_option maxHeartbeats 800000 in
theorem eqS_same (o1 o2 : Option Addr) (c1 c2 len : Nat) (V : List Int) (w : World) (hl : len = V.length) (hm : len ≤ 1048576) (h1 : NumsAt w o1 V) (h2 : NumsAt w o2 V) :
    Calls Tryd.prog 20 #[.slice o1 len c1, .slice o2 len c2] w fun e w' => e = .returned (.bool true) ∧ Below w.heap.size w w' := by
  have H1 := hid h1
  have H2 := hid h2
  have HL := hid hl
  clear h1 h2 hl
  go_enter Tryd.func20, Tryd.ntmps20
  go_wp2
  go_loopw [5] (fun i wr => ∃ k nq : Nat, k ≤ len ∧ i = .int .i64 k ∧ wr = w.drewN nq) (fun i _ => len - (intOf i).toNat)
  case atStart => exact ⟨0, 0, Nat.zero_le _, rfl, rfl⟩
  case round =>
    obtain ⟨k, nq, hk, rfl, rfl⟩ := hrel
    by_cases hlt : k < len
    · have hltI : (k : Int) < (len : Int) := by omega
      have hkv : k < V.length := by rw [← HL.out]; exact hlt
      obtain ⟨b, off, rfl, _, hc⟩ := H1.out k hkv
      obtain ⟨b2, off2, rfl, _, hc2⟩ := H2.out k hkv
      obtain ⟨x, hx⟩ : ∃ x, x = V[k] := ⟨_, rfl⟩
      rw [← hx] at hc hc2
      clear hx
      go_wp2
      go_quiet (fail)
      go_wp2
      go_roundw
      case rel => exact ⟨k + 1, _, by omega, by go_num, rfl⟩
      case measure => simp [intOf]; omega
    · have hltI : ¬ (k : Int) < (len : Int) := by omega
      go_wp2
      go_ret
      exact ⟨rfl, below_drewN (Below.refl _ _) _⟩

end Go.Proofs.YtcmefjicogicladDoor
