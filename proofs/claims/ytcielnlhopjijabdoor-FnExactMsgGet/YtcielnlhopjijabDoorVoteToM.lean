/- DERIVED. The walks of toIntS and eqIntS; a row of numbers that came in. How much a message is: szIntS, szEntry, szEntryS, szMsg. The walks of toEntry, toEntryS, toMsg and eqEntry, eqEntryS, eqMsg. The walks of toEntryS, eqEntry, eqEntryS. The walks of eqEntryS, toMsg, eqMsg. -/
import Derived.Test.YtcielnlhopjijabDoorVoteRows
import Derived.ProofKit
import Derived.OpenShut
import Derived.Deep.OwnRows
import Derived.Test.YtcielnlhopjijabDoorEntAt
import Derived.Laws.MakeOwn
import Derived.Test.YtcielnlhopjijabDoorReg
namespace Go.Proofs.YtcielnlhopjijabDoor
open Go.RowKit Go.ChangeShapes Go.WideShapes Go.ChangeAt

theorem cellsInt : Tryd.prog.cellsOf 3 = 1 := by kernel_rfl

theorem nums_open {H : Type} {enc : TypeId × Value → H} {W : World} {a0 : Option Addr} {len cap : Nat} {d : DataW H} {p : List MemPlace} (h : DataW.Trod enc Tryd.prog W 0 (fun _ => true) true 22 (.slice a0 len cap) d p) : ∃ V : List Int, len = V.length ∧ NumsAt W a0 V := by
  obtain ⟨fuel, hf⟩ := h
  rcases open_ints Tryd.underlying22 Tryd.underlying3 cellsInt hf with ⟨hcs, hx⟩ | ⟨a, len', cap', zs, hcs, _, hl, hm, hz, hx, hcell, hwz⟩
  · simp [Value.cells] at hcs
    obtain ⟨rfl, rfl, rfl⟩ := hcs
    exact ⟨[], rfl, fun i hi => absurd hi (Nat.not_lt_zero _)⟩
  · simp [Value.cells] at hcs
    obtain ⟨rfl, rfl, rfl⟩ := hcs
    simp only [if_true] at hz
    have hlen : len = (zs.take len).length := by rw [List.length_take]; omega
    refine ⟨zs.take len, hlen, fun i hi => ?_⟩
    have hil : i < len := by omega
    have h1 := hcell i (by omega)
    obtain ⟨b, off, spot⟩ := a
    have hspot : spot = none := by simpa [Addr.add] using World.cell?_spot (hcell 0 (by omega))
    subst hspot
    have hold : b < W.heap.size := by
      have := World.block_lt_of_cell? W _ (hcell 0 (by omega))
      simpa [Addr.add] using this
    rw [add_plain] at h1
    refine ⟨b, off, rfl, hold, ?_⟩
    rw [h1, List.getElem_take, List.getD_eq_getElem?_getD, List.getElem?_eq_getElem (by omega)]
    rfl

theorem make_ints (n : Nat) (hn : n ≤ 1048576) (w : World) : (Instr.makeSlice 22 (.int .i64 (n : Int)) (.int .i64 (n : Int))).run Tryd.prog w = .ok (.slice (some ⟨w.heap.size, 0, none⟩) n n) (w.alloc (.cells (madeCells #[.int .i64 0] n) 3)) :=
  run_make_row' 22 3 (.int .i64 0) 8 Tryd.underlying22 (by kernel_rfl) (by simp [Value.cells]) .i64 .i64 n (by omega) (by omega) w

theorem made_list (n : Nat) : (madeCells #[Value.int .i64 0] n).toList = List.replicate n (.int .i64 0) := by
  apply List.ext_getElem
  · simp [madeCells]
  · intro i h1 h2
    simp [madeCells, Nat.mod_one]

/-- Half way: the first k are copied. -/
def copied (V : List Int) (len k : Nat) : List Value := (V.take k).map (Value.int .i64) ++ List.replicate (len - k) (.int .i64 0)

theorem copied_len (V : List Int) (k : Nat) (h : k ≤ V.length) : (copied V V.length k).length = V.length := by
  unfold copied
  simp
  omega

theorem copied_next (V : List Int) (k : Nat) (h : k < V.length) : copied V V.length (k + 1) = (copied V V.length k).set k (.int .i64 V[k]) := by
  unfold copied
  have hl : ((V.take k).map (Value.int .i64)).length = k := by simp; omega
  rw [List.set_append_right _ _ (by omega), hl, Nat.sub_self, List.take_succ_eq_append_getElem h, List.map_append, List.append_assoc]
  congr 1
  rw [show V.length - k = (V.length - (k + 1)) + 1 by omega, List.replicate_succ]
  rfl

theorem copied_end (V : List Int) : copied V V.length V.length = V.map (Value.int .i64) := by
  unfold copied
  simp

theorem made_row (w : World) (n : Nat) (hn : n ≤ 1048576) : (w.alloc (.cells (madeCells #[.int .i64 0] n) 3)).ownsRow w.heap.size 3 1 (.slice (some ⟨w.heap.size, 0, none⟩) n n) n (List.replicate n (.int .i64 0)) := by
  refine ⟨by simp, Or.inr ⟨w.heap.size, n, madeCells #[.int .i64 0] n, rfl, Nat.le_refl _, ?_, Nat.le_refl _, ?_, ?_, ?_⟩⟩
  · show (w.heap.push _)[w.heap.size]? = _
    simp
  · have : (1048576 : Nat) ≤ maxLen := by decide
    omega
  · simp [size_madeCells]
  · rw [made_list]
    simp


set_option maxRecDepth 100000 in
set_option maxHeartbeats 800000 in
theorem eqS_same (o1 o2 : Option Addr) (c1 c2 len : Nat) (V : List Int) (w : World) (hl : len = V.length) (hm : len ≤ 1048576) (h1 : NumsAt w o1 V) (h2 : NumsAt w o2 V) :
    Calls Tryd.prog 14 #[.slice o1 len c1, .slice o2 len c2] w fun e w' => e = .returned (.bool true) ∧ Below w.heap.size w w' := by
  have H1 := hid h1
  have H2 := hid h2
  have HL := hid hl
  clear h1 h2 hl
  go_enter Tryd.func14, Tryd.ntmps14
  go_wp2
  go_loopw [5] (fun i wr => ∃ k nq : Nat, k ≤ len ∧ i = .int .i64 k ∧ wr = w.drewN nq) (fun i _ => len - (intOf i).toNat)
  case atStart => exact ⟨0, 0, Nat.zero_le _, rfl, rfl⟩
  case round =>
    obtain ⟨k, nq, hk, rfl, rfl⟩ := hrel
    by_cases hlt : k < len
    · have hltI : (k : Int) < (len : Int) := by omega
      have hkv : k < V.length := by rw [← HL.out]; exact hlt
      obtain ⟨b, off, rfl, _, hc⟩ := H1.out k hkv
      obtain ⟨b2, off2, rfl, _, hc2⟩ := H2.out k hkv
      obtain ⟨x, hx⟩ : ∃ x, x = V[k] := ⟨_, rfl⟩
      rw [← hx] at hc hc2
      clear hx
      go_wp2
      go_quiet (fail)
      go_wp2
      go_roundw
      case rel => exact ⟨k + 1, _, by omega, by go_num, rfl⟩
      case measure => simp [intOf]; omega
    · have hltI : ¬ (k : Int) < (len : Int) := by omega
      go_wp2
      go_ret
      exact ⟨rfl, below_drewN (Below.refl _ _) _⟩

end Go.Proofs.YtcielnlhopjijabDoor

namespace Go.Proofs.YtcielnlhopjijabDoor
open Go.RowKit

/-- Entries that came in: nothing is known yet of how many votes each has. -/
def EntsRaw (w : World) (oa : Option Addr) (L : List Ent) : Prop := ∀ i, i < L.length → ∃ b off, oa = some ⟨b, off, none⟩ ∧ b < w.heap.size ∧
  w.cell? ⟨b, off + i * 3, none⟩ = some (.int .i64 (L.getD i (0, 0, [])).1) ∧ w.cell? ⟨b, off + i * 3 + 1, none⟩ = some (.int .i64 (L.getD i (0, 0, [])).2.1) ∧
  ∃ (ov : Option Addr) (n cv : Nat), w.cell? ⟨b, off + i * 3 + 2, none⟩ = some (.slice ov n cv) ∧ n = (L.getD i (0, 0, [])).2.2.length ∧ n ≤ maxLen ∧ NumsAt w ov (L.getD i (0, 0, [])).2.2

theorem EntsRaw.below {w w' : World} {oa : Option Addr} {L : List Ent} (h : EntsRaw w oa L) (hb : Below w.heap.size w w') : EntsRaw w' oa L := by
  intro i hi
  obtain ⟨b, off, e, h1, h2, h3, ov, n, cv, h4, h5, h6, h7⟩ := h i hi
  exact ⟨b, off, e, Nat.lt_of_lt_of_le h1 hb.size, by rw [hb.cell h1]; exact h2, by rw [hb.cell h1]; exact h3, ov, n, cv, by rw [hb.cell h1]; exact h4, h5, h6, h7.below hb⟩

theorem EntsRaw.known {w : World} {oa : Option Addr} {L : List Ent} (h : EntsRaw w oa L) (hs : ∀ i, i < L.length → (L.getD i (0, 0, [])).2.2.length ≤ 1048576) : EntsAt w oa L := by
  intro i hi
  obtain ⟨b, off, e, h1, h2, h3, ov, n, cv, h4, h5, _, h7⟩ := h i hi
  exact ⟨b, off, e, h1, h2, h3, ov, n, cv, h4, h5, by rw [h5]; exact hs i hi, h7⟩

end Go.Proofs.YtcielnlhopjijabDoor

namespace Go.Proofs.YtcielnlhopjijabDoor
open Go.RowKit

/-- Numbers in a block behind g. -/
def NumsGt (g : Nat) (w : World) (oa : Option Addr) (V : List Int) : Prop := NumsAt w oa V ∧ ∀ b off sp, oa = some ⟨b, off, sp⟩ → g ≤ b

theorem row_nums {w : World} {base : Nat} {v : Value} {V : List Int} {n : Nat} (hn : n = V.length) (h : w.ownsRow base 3 1 v V.length (V.map (Value.int .i64))) : ∃ oa cp, v = .slice oa n cp ∧ NumsGt base w oa V := by
  obtain ⟨oa, cp, e, hN⟩ := nums_of_len hn.symm h
  refine ⟨oa, cp, e, hN, fun b off sp ho => ?_⟩
  rcases h.2 with ⟨e1, _⟩ | ⟨g, cap, cur, e1, hg, _⟩
  · rw [e] at e1
    injection e1 with e1
    rw [ho] at e1
    cases e1
  · rw [e] at e1
    injection e1 with e1
    rw [ho] at e1
    injection e1 with e1
    injection e1 with e1
    rw [e1]
    exact hg

theorem NumsGt.set {g : Nat} {w : World} {oa : Option Addr} {V : List Int} (h : NumsGt g w oa V) {b : Nat} (o : Nat) (v : Value) (hb : b < g) : NumsGt g (w.setCell ⟨b, o, none⟩ v) oa V := by
  refine ⟨fun i hi => ?_, h.2⟩
  obtain ⟨b', off, e, h1, h2⟩ := h.1 i hi
  have := h.2 b' off none e
  exact ⟨b', off, e, by simpa using h1, by rw [World.cell?_setCell_other (h := fun e' => by injection e' with e1; omega)]; exact h2⟩

theorem NumsGt.mono {g g' : Nat} {w : World} {oa : Option Addr} {V : List Int} (h : NumsGt g w oa V) (hg : g' ≤ g) : NumsGt g' w oa V :=
  ⟨h.1, fun b off sp e => Nat.le_trans hg (h.2 b off sp e)⟩

theorem cell_mid (w : World) (A B C : Array Value) (ta tb tc : TypeId) (j : Nat) : (((w.alloc (.cells A ta)).alloc (.cells B tb)).alloc (.cells C tc)).cell? ⟨w.heap.size + 1, j, none⟩ = B[j]? := by
  have e : w.heap.size + 1 = (w.alloc (.cells A ta)).heap.size := by simp
  rw [World.cell?_alloc_lt (h := by simp), e, World.cell?_alloc_new]

theorem cell_last (w : World) (A B C : Array Value) (ta tb tc : TypeId) (j : Nat) : (((w.alloc (.cells A ta)).alloc (.cells B tb)).alloc (.cells C tc)).cell? ⟨w.heap.size + 1 + 1, j, none⟩ = C[j]? := by
  have e : w.heap.size + 1 + 1 = ((w.alloc (.cells A ta)).alloc (.cells B tb)).heap.size := by simp
  rw [e, World.cell?_alloc_new]

theorem free_mid (w : World) (A B C : Array Value) (ta tb tc : TypeId) (j : Nat) : (((w.alloc (.cells A ta)).alloc (.cells B tb)).alloc (.cells C tc)).frozen? ⟨w.heap.size + 1, j, none⟩ = false := by
  rw [World.frozen?_alloc_past (hn := by simp), World.frozen?_alloc_at (hn := by simp)]

theorem free_last (w : World) (A B C : Array Value) (ta tb tc : TypeId) (j : Nat) : (((w.alloc (.cells A ta)).alloc (.cells B tb)).alloc (.cells C tc)).frozen? ⟨w.heap.size + 1 + 1, j, none⟩ = false := by
  rw [World.frozen?_alloc_at (hn := by simp)]

/-- A new row of entries that is being filled: the first k are there. -/
structure OwnEnts (w : World) (g m k : Nat) (L : List Ent) : Prop where
  old : g < w.heap.size
  there : ∀ j, j < m * 3 → (w.cell? ⟨g, j, none⟩).isSome = true
  free : ∀ j, j < m * 3 → w.frozen? ⟨g, j, none⟩ = false
  ent : ∀ i, i < k → w.cell? ⟨g, i * 3, none⟩ = some (.int .i64 (L.getD i (0, 0, [])).1) ∧ w.cell? ⟨g, i * 3 + 1, none⟩ = some (.int .i64 (L.getD i (0, 0, [])).2.1) ∧
    ∃ (ov : Option Addr) (n cv : Nat), w.cell? ⟨g, i * 3 + 2, none⟩ = some (.slice ov n cv) ∧ n = (L.getD i (0, 0, [])).2.2.length ∧ n ≤ 1048576 ∧ NumsGt (g + 1) w ov (L.getD i (0, 0, [])).2.2

theorem NumsGt.below {g : Nat} {w w' : World} {oa : Option Addr} {V : List Int} (h : NumsGt g w oa V) (hb : Below w.heap.size w w') : NumsGt g w' oa V := ⟨h.1.below hb, h.2⟩

theorem OwnEnts.below {w w' : World} {g m k : Nat} {L : List Ent} (h : OwnEnts w g m k L) (hb : Below w.heap.size w w') : OwnEnts w' g m k L where
  old := Nat.lt_of_lt_of_le h.old hb.size
  there := fun j hj => by rw [hb.cell h.old]; exact h.there j hj
  free := fun j hj => by rw [hb.frozen h.old]; exact h.free j hj
  ent := fun i hi => by
    obtain ⟨h1, h2, ov, n, cv, h3, h4, h5, h6⟩ := h.ent i hi
    exact ⟨by rw [hb.cell h.old]; exact h1, by rw [hb.cell h.old]; exact h2, ov, n, cv, by rw [hb.cell h.old]; exact h3, h4, h5, h6.below hb⟩

theorem OwnEnts.ents {w : World} {g m : Nat} {L : List Ent} (hm : m = L.length) (h : OwnEnts w g m m L) : EntsAt w (some ⟨g, 0, none⟩) L := by
  intro i hi
  obtain ⟨h1, h2, ov, n, cv, h3, h4, h5, h6⟩ := h.ent i (by omega)
  exact ⟨g, 0, rfl, h.old, by rw [Nat.zero_add]; exact h1, by rw [Nat.zero_add]; exact h2, ov, n, cv, by rw [Nat.zero_add]; exact h3, h4, h5, h6.1⟩

theorem addr_ne {B p q : Nat} (h : p ≠ q) : (⟨B, p, none⟩ : Addr) ≠ ⟨B, q, none⟩ := fun e => h (by injection e)

/-- Three cells, one behind the other, are written. -/
def set3 (w : World) (g p : Nat) (x y z : Value) : World := ((w.setCell ⟨g, p, none⟩ x).setCell ⟨g, p + 1, none⟩ y).setCell ⟨g, p + 2, none⟩ z

theorem set3_far {w : World} {g p q : Nat} {x y z : Value} (h0 : p ≠ q) (h1 : p + 1 ≠ q) (h2 : p + 2 ≠ q) : (set3 w g p x y z).cell? ⟨g, q, none⟩ = w.cell? ⟨g, q, none⟩ := by
  unfold set3
  rw [World.cell?_setCell_other (h := addr_ne h2), World.cell?_setCell_other (h := addr_ne h1), World.cell?_setCell_other (h := addr_ne h0)]

theorem set3_a {w : World} {g p : Nat} {x y z : Value} (h : (w.cell? ⟨g, p, none⟩).isSome = true) : (set3 w g p x y z).cell? ⟨g, p, none⟩ = some x := by
  obtain ⟨u, hu⟩ := Option.isSome_iff_exists.mp h
  unfold set3
  rw [World.cell?_setCell_other (h := addr_ne (by omega)), World.cell?_setCell_other (h := addr_ne (by omega)), World.cell?_setCell_same (h := hu)]

theorem set3_b {w : World} {g p : Nat} {x y z : Value} (h : (w.cell? ⟨g, p + 1, none⟩).isSome = true) : (set3 w g p x y z).cell? ⟨g, p + 1, none⟩ = some y := by
  obtain ⟨u, hu⟩ := Option.isSome_iff_exists.mp h
  have hu' : (w.setCell ⟨g, p, none⟩ x).cell? ⟨g, p + 1, none⟩ = some u := by rw [World.cell?_setCell_other (h := addr_ne (by omega))]; exact hu
  unfold set3
  rw [World.cell?_setCell_other (h := addr_ne (by omega)), World.cell?_setCell_same (h := hu')]

theorem set3_c {w : World} {g p : Nat} {x y z : Value} (h : (w.cell? ⟨g, p + 2, none⟩).isSome = true) : (set3 w g p x y z).cell? ⟨g, p + 2, none⟩ = some z := by
  obtain ⟨u, hu⟩ := Option.isSome_iff_exists.mp h
  have hu' : ((w.setCell ⟨g, p, none⟩ x).setCell ⟨g, p + 1, none⟩ y).cell? ⟨g, p + 2, none⟩ = some u := by rw [World.cell?_setCell_other (h := addr_ne (by omega)), World.cell?_setCell_other (h := addr_ne (by omega))]; exact hu
  unfold set3
  rw [World.cell?_setCell_same (h := hu')]

theorem NumsGt.set3 {g : Nat} {w : World} {oa : Option Addr} {V : List Int} (h : NumsGt (g + 1) w oa V) (p : Nat) (x y z : Value) : NumsGt (g + 1) (set3 w g p x y z) oa V :=
  ((h.set p x (Nat.lt_succ_self g)).set (p + 1) y (Nat.lt_succ_self g)).set (p + 2) z (Nat.lt_succ_self g)

theorem OwnEnts.put {w : World} {g m k : Nat} {L : List Ent} (h : OwnEnts w g m k L) (hk : k < m) {ov : Option Addr} {n cv : Nat} (hn : n = (L.getD k (0, 0, [])).2.2.length) (hn2 : n ≤ 1048576) (hN : NumsGt (g + 1) w ov (L.getD k (0, 0, [])).2.2) :
    OwnEnts (set3 w g (k * 3) (.int .i64 (L.getD k (0, 0, [])).1) (.int .i64 (L.getD k (0, 0, [])).2.1) (.slice ov n cv)) g m (k + 1) L where
  old := by unfold set3; simpa using h.old
  there := fun j hj => by
    by_cases h0 : k * 3 = j
    · subst h0; rw [set3_a (h.there _ hj)]; rfl
    · by_cases h1 : k * 3 + 1 = j
      · subst h1; rw [set3_b (h.there _ hj)]; rfl
      · by_cases h2 : k * 3 + 2 = j
        · subst h2; rw [set3_c (h.there _ hj)]; rfl
        · rw [set3_far h0 h1 h2]; exact h.there j hj
  free := fun j hj => by unfold set3; simpa using h.free j hj
  ent := fun i hi => by
    by_cases e : i = k
    · subst e
      exact ⟨set3_a (h.there _ (by omega)), set3_b (h.there _ (by omega)), ov, n, cv, set3_c (h.there _ (by omega)), hn, hn2, hN.set3 _ _ _ _⟩
    · obtain ⟨h1, h2, ov', n', cv', h3, h4, h5, h6⟩ := h.ent i (by omega)
      exact ⟨by rw [set3_far (by omega) (by omega) (by omega)]; exact h1, by rw [set3_far (by omega) (by omega) (by omega)]; exact h2, ov', n', cv', by rw [set3_far (by omega) (by omega) (by omega)]; exact h3, h4, h5, h6.set3 _ _ _ _⟩

end Go.Proofs.YtcielnlhopjijabDoor

namespace Go.Proofs.YtcielnlhopjijabDoor
open Go.RowKit

theorem OwnEnts.set {w : World} {g m k : Nat} {L : List Ent} (h : OwnEnts w g m k L) {b : Nat} (o : Nat) (v : Value) (hb : b < g) : OwnEnts (w.setCell ⟨b, o, none⟩ v) g m k L := by
  have hc : ∀ j, (w.setCell ⟨b, o, none⟩ v).cell? ⟨g, j, none⟩ = w.cell? ⟨g, j, none⟩ := fun j => by rw [World.cell?_setCell_other (h := fun e => by injection e with e1; omega)]
  exact ⟨by simpa using h.old, fun j hj => by rw [hc]; exact h.there j hj, fun j hj => by simpa using h.free j hj, fun i hi => by
    obtain ⟨h1, h2, ov, n, cv, h3, h4, h5, h6⟩ := h.ent i hi
    exact ⟨by rw [hc]; exact h1, by rw [hc]; exact h2, ov, n, cv, by rw [hc]; exact h3, h4, h5, h6.set _ _ (by omega)⟩⟩

theorem OwnEnts.new (w : World) (A : Array Value) (e m : Nat) (L : List Ent) (hA : A.size = m * 3) : OwnEnts (w.alloc (.cells A e)) w.heap.size m 0 L where
  old := by simp
  there := fun j hj => by simp [hA, hj]
  free := fun j hj => by simp
  ent := fun i hi => by omega

theorem make_ents (n : Nat) (hn : n ≤ 1048576) (w : World) : ∃ A : Array Value, A.size = n * 3 ∧ (Instr.makeSlice 23 (.int .i64 (n : Int)) (.int .i64 (n : Int))).run Tryd.prog w = .ok (.slice (some ⟨w.heap.size, 0, none⟩) n n) (w.alloc (.cells A 71)) := by
  have hi : (Tryd.prog.info? 71).map (fun i => (i.zero, i.size, i.bytes)) = some (some (.agg #[.int .i64 0, .int .i64 0, .slice none 0 0]), 3, 40) := by kernel_rfl
  obtain ⟨i, h1, hzz⟩ := Option.map_eq_some_iff.1 hi
  simp only [Prod.mk.injEq] at hzz
  obtain ⟨h2, h3, h4⟩ := hzz
  refine ⟨madeCells (Value.cells (.agg #[.int .i64 0, .int .i64 0, .slice none 0 0])) (n * 3), size_madeCells _ _, ?_⟩
  have := run_make (P := Tryd.prog) w 23 71 i _ Tryd.underlying23 h1 h2 .i64 .i64 n n (by omega) (Int.le_refl _) (by rw [h4]; omega) (by omega)
  rw [h3] at this
  simpa using this

set_option maxHeartbeats 800000 in
theorem eqE_same (x y : Int) (o1 o2 : Option Addr) (n c1 c2 : Nat) (U : List Int) (w : World) (hn : n = U.length) (hn2 : n ≤ 1048576) (h1 : NumsAt w o1 U) (h2 : NumsAt w o2 U) :
    Calls Tryd.prog 39 #[.agg #[.int .i64 x, .int .i64 y, .slice o1 n c1], .agg #[.int .i64 x, .int .i64 y, .slice o2 n c2]] w fun e w' => e = .returned (.bool true) ∧ Below w.heap.size w w' := by
  have C : Hid (∀ w', Below w.heap.size w w' → Calls Tryd.prog 14 #[.slice o1 n c1, .slice o2 n c2] w' fun e w2 => e = .returned (.bool true) ∧ Below w'.heap.size w' w2) := fun w' hb => eqS_same o1 o2 c1 c2 n U w' hn hn2 (h1.below hb) (h2.below hb)
  have HB : Hid (Below w.heap.size w ((w.alloc (.cells #[.int .i64 x, .int .i64 y, .slice o1 n c1] 71)).alloc (.cells #[.int .i64 x, .int .i64 y, .slice o2 n c2] 71))) := ((Below.refl _ _).alloc (Nat.le_refl _) _).alloc (by simp) _
  clear hn h1 h2
  go_enter Tryd.func39, Tryd.ntmps39
  go_wp2_with fail
  refine (C.out _ HB.out).mono ?_
  rintro e w1 ⟨rfl, hb⟩
  have HB1 : Hid (Below w.heap.size w w1) := HB.out.trans (hb.mono HB.out.size)
  clear hb
  go_wp2
  go_ret
  exact ⟨rfl, HB1.out⟩

end Go.Proofs.YtcielnlhopjijabDoor

namespace Go.Proofs.YtcielnlhopjijabDoor
open Go.RowKit

set_option maxRecDepth 100000 in
set_option maxHeartbeats 1600000 in
theorem eqES_same (o1 o2 : Option Addr) (c1 c2 m : Nat) (L : List Ent) (w : World) (hm : m = L.length) (hm2 : m ≤ 1048576) (h1 : EntsAt w o1 L) (h2 : EntsAt w o2 L) :
    Calls Tryd.prog 15 #[.slice o1 m c1, .slice o2 m c2] w fun e w' => e = .returned (.bool true) ∧ Below w.heap.size w w' := by
  have H1 := hid h1
  have H2 := hid h2
  have HM := hid hm
  clear h1 h2 hm
  go_enter Tryd.func15, Tryd.ntmps15
  go_wp2
  go_loopw [5] (fun i w' => Below w.heap.size w w' ∧ ∃ k : Nat, k ≤ m ∧ i = .int .i64 k) (fun i _ => m - (intOf i).toNat)
  case atStart => exact ⟨Below.refl _ _, 0, Nat.zero_le _, rfl⟩
  case round =>
    obtain ⟨hB, k, hk, rfl⟩ := hrel
    have HB := hid hB
    clear hB
    by_cases hlt : k < m
    · have hltI : (k : Int) < (m : Int) := by omega
      have hkv : k < L.length := by rw [← HM.out]; exact hlt
      obtain ⟨b, off, rfl, _, c0, cy0, ov, n, cv, cv0, hn, hn2, hN⟩ := (H1.out.below HB.out) k hkv
      obtain ⟨b2, off2, rfl, _, d0, dy0, ov2, n', cv2, dv0, hn', _, hN2⟩ := (H2.out.below HB.out) k hkv
      obtain rfl : n' = n := hn'.trans hn.symm
      obtain ⟨x, hx⟩ : ∃ x, x = (L.getD k (0, 0, [])).1 := ⟨_, rfl⟩
      obtain ⟨y, hy⟩ : ∃ y, y = (L.getD k (0, 0, [])).2.1 := ⟨_, rfl⟩
      obtain ⟨U, hU⟩ : ∃ U, U = (L.getD k (0, 0, [])).2.2 := ⟨_, rfl⟩
      rw [← hx] at c0 d0
      rw [← hy] at cy0 dy0
      have CE : Hid (∀ w', Below wr.heap.size wr w' → Calls Tryd.prog 39 #[.agg #[.int .i64 x, .int .i64 y, .slice ov n' cv], .agg #[.int .i64 x, .int .i64 y, .slice ov2 n' cv2]] w' fun e w2 => e = .returned (.bool true) ∧ Below w'.heap.size w' w2) := fun w' hb => eqE_same x y ov ov2 n' cv cv2 _ w' hn hn2 (hN.below hb) (hN2.below hb)
      have HBD : Hid (Below wr.heap.size wr wr.drew) := (Below.refl _ _).drew
      clear hx hy hU hn hN hN2 hkv hn'
      go_wp2_with fail
      refine wp_region_any (by kernel_rfl) ?_
      change wpAny _ _ _ _ _ _ _ (World.drew _)
      refine take_on 0 (v := ?_) rfl rfl (by kernel_rfl) (by kernel_rfl) (by kernel_rfl) (fun _ _ _ h => h) (by rfl) (fun w => ?_) ?_
      rotate_left
      · (go_simp; try with_reducible rfl)
      simp only [List.setIfInBounds_toArray, List.set_cons_zero, List.set_cons_succ]
      refine take_on 1 (v := ?_) rfl rfl (by kernel_rfl) (by kernel_rfl) (by kernel_rfl) (fun _ _ _ h => h) (by rfl) (fun w => ?_) ?_
      rotate_left
      · (go_simp; try with_reducible rfl)
      simp only [List.setIfInBounds_toArray, List.set_cons_zero, List.set_cons_succ]
      refine take_on 2 (v := ?_) rfl rfl (by kernel_rfl) (by kernel_rfl) (by kernel_rfl) (fun _ _ _ h => h) (by rfl) (fun w => ?_) ?_
      rotate_left
      · (go_simp; try with_reducible rfl)
      simp only [List.setIfInBounds_toArray, List.set_cons_zero, List.set_cons_succ]
      refine take_on 4 (v := ?_) rfl rfl (by kernel_rfl) (by kernel_rfl) (by kernel_rfl) (fun _ _ _ h => h) (by rfl) (fun w => ?_) ?_
      rotate_left
      · (go_simp; try with_reducible rfl)
      simp only [List.setIfInBounds_toArray, List.set_cons_zero, List.set_cons_succ]
      refine take_on 5 (v := ?_) rfl rfl (by kernel_rfl) (by kernel_rfl) (by kernel_rfl) (fun _ _ _ h => h) (by rfl) (fun w => ?_) ?_
      rotate_left
      · (go_simp; try with_reducible rfl)
      simp only [List.setIfInBounds_toArray, List.set_cons_zero, List.set_cons_succ]
      refine take_on 6 (v := ?_) rfl rfl (by kernel_rfl) (by kernel_rfl) (by kernel_rfl) (fun _ _ _ h => h) (by rfl) (fun w => ?_) ?_
      rotate_left
      · (go_simp; try with_reducible rfl)
      simp only [List.setIfInBounds_toArray, List.set_cons_zero, List.set_cons_succ]
      refine wpAny_ready (rs := [3, 7]) (by kernel_rfl) (by simp) (AllReady.cons rfl (fun K hK => ?_) (AllReady.cons rfl (fun K hK => ?_) AllReady.nil))
      · go_simp
        refine hK _ _ ?_
        clear hK K
        refine wpAny_ready (rs := [7]) (by kernel_rfl) (by simp) (AllReady.cons rfl (fun K hK => ?_) AllReady.nil)
        go_simp
        refine hK _ _ ?_
        clear hK K
        refine wpAny_ready (rs := [8]) (by kernel_rfl) (by simp) (AllReady.cons rfl (fun K hK => ?_) AllReady.nil)
        go_simp
        go_wp2_with fail
        refine (CE.out _ HBD.out).mono ?_
        rintro e w1 ⟨rfl, hb1⟩
        have HB1 : Hid (Below w.heap.size w w1) := HB.out.trans ((HBD.out.trans (hb1.mono HBD.out.size)).mono HB.out.size)
        clear hb1
        refine hK _ _ ?_
        clear hK K
        refine take_on 9 (v := ?_) rfl rfl (by kernel_rfl) (by kernel_rfl) (by kernel_rfl) (fun _ _ _ h => h) (by rfl) (fun w => ?_) ?_
        rotate_left
        · (go_simp; try with_reducible rfl)
        simp only [List.setIfInBounds_toArray, List.set_cons_zero, List.set_cons_succ]
        refine wpAny_done (by kernel_rfl) ?_ _
        go_wp2
        go_roundw
        case rel => exact ⟨HB1.out, k + 1, by omega, by go_num⟩
        case measure => simp [intOf]; omega
      · go_simp
        refine hK _ _ ?_
        clear hK K
        refine wpAny_ready (rs := [3]) (by kernel_rfl) (by simp) (AllReady.cons rfl (fun K hK => ?_) AllReady.nil)
        go_simp
        refine hK _ _ ?_
        clear hK K
        refine wpAny_ready (rs := [8]) (by kernel_rfl) (by simp) (AllReady.cons rfl (fun K hK => ?_) AllReady.nil)
        go_simp
        go_wp2_with fail
        refine (CE.out _ HBD.out).mono ?_
        rintro e w1 ⟨rfl, hb1⟩
        have HB1 : Hid (Below w.heap.size w w1) := HB.out.trans ((HBD.out.trans (hb1.mono HBD.out.size)).mono HB.out.size)
        clear hb1
        refine hK _ _ ?_
        clear hK K
        refine take_on 9 (v := ?_) rfl rfl (by kernel_rfl) (by kernel_rfl) (by kernel_rfl) (fun _ _ _ h => h) (by rfl) (fun w => ?_) ?_
        rotate_left
        · (go_simp; try with_reducible rfl)
        simp only [List.setIfInBounds_toArray, List.set_cons_zero, List.set_cons_succ]
        refine wpAny_done (by kernel_rfl) ?_ _
        go_wp2
        go_roundw
        case rel => exact ⟨HB1.out, k + 1, by omega, by go_num⟩
        case measure => simp [intOf]; omega
    · have hltI : ¬ (k : Int) < (m : Int) := by omega
      go_wp2
      go_ret
      exact ⟨rfl, HB.out⟩

theorem cell_first (w : World) (A B C : Array Value) (ta tb tc : TypeId) (j : Nat) : (((w.alloc (.cells A ta)).alloc (.cells B tb)).alloc (.cells C tc)).cell? ⟨w.heap.size, j, none⟩ = A[j]? := by
  rw [World.cell?_alloc_lt (h := by simp; omega), World.cell?_alloc_lt (h := by simp), World.cell?_alloc_new]

set_option maxRecDepth 100000 in
set_option maxHeartbeats 1600000 in
theorem eqMsg_same (kd fr tt bl ins : Int) (o1 o2 q1 q2 : Option Addr) (n c1 c2 m d1 d2 : Nat) (V : List Int) (L : List Ent) (w : World) (hn : n = V.length) (hn2 : n ≤ 1048576) (hm : m = L.length) (hm2 : m ≤ 1048576) (h1 : NumsAt w o1 V) (h2 : NumsAt w o2 V) (h3 : EntsAt w q1 L) (h4 : EntsAt w q2 L) :
    Calls Tryd.prog 6 #[.agg #[.int .i64 kd, .int .i64 fr, .int .i64 tt, .int .i64 bl, .int .i64 ins, .slice o1 n c1, .slice q1 m d1], .agg #[.int .i64 kd, .int .i64 fr, .int .i64 tt, .int .i64 bl, .int .i64 ins, .slice o2 n c2, .slice q2 m d2]] w fun e w' => e = .returned (.bool true) ∧ Below w.heap.size w w' := by
  have C : Hid (∀ w', Below w.heap.size w w' → Calls Tryd.prog 14 #[.slice o1 n c1, .slice o2 n c2] w' fun e w2 => e = .returned (.bool true) ∧ Below w'.heap.size w' w2) := fun w' hb => eqS_same o1 o2 c1 c2 n V w' hn hn2 (h1.below hb) (h2.below hb)
  have D : Hid (∀ w', Below w.heap.size w w' → Calls Tryd.prog 15 #[.slice q1 m d1, .slice q2 m d2] w' fun e w2 => e = .returned (.bool true) ∧ Below w'.heap.size w' w2) := fun w' hb => eqES_same q1 q2 d1 d2 m L w' hm hm2 (h3.below hb) (h4.below hb)
  have HB : Hid (Below w.heap.size w ((w.alloc (.cells #[.int .i64 kd, .int .i64 fr, .int .i64 tt, .int .i64 bl, .int .i64 ins, .slice o1 n c1, .slice q1 m d1] 25)).alloc (.cells #[.int .i64 kd, .int .i64 fr, .int .i64 tt, .int .i64 bl, .int .i64 ins, .slice o2 n c2, .slice q2 m d2] 25))) := ((Below.refl _ _).alloc (Nat.le_refl _) _).alloc (by simp) _
  clear hn hm h1 h2 h3 h4
  go_enter Tryd.func6, Tryd.ntmps6
  go_wp2_with fail
  refine (C.out _ HB.out).mono ?_
  rintro e w1 ⟨rfl, hb⟩
  have HB1 : Hid (Below w.heap.size w w1) := HB.out.trans (hb.mono HB.out.size)
  have k6 : w1.cell? ⟨w.heap.size, 6, none⟩ = some (.slice q1 m d1) := by rw [hb.cell (p := ⟨w.heap.size, 6, none⟩) (by simp; omega)]; simp
  have k7 : w1.cell? ⟨w.heap.size + 1, 6, none⟩ = some (.slice q2 m d2) := by rw [hb.cell (p := ⟨w.heap.size + 1, 6, none⟩) (by simp)]; simp
  clear hb
  go_wp2_with fail
  refine (D.out _ HB1.out).mono ?_
  rintro e w2 ⟨rfl, hb⟩
  have HB2 : Hid (Below w.heap.size w w2) := HB1.out.trans (hb.mono HB1.out.size)
  clear hb
  go_wp2
  go_ret
  exact ⟨rfl, HB2.out⟩

end Go.Proofs.YtcielnlhopjijabDoor

