/- DERIVED. A message that came in. -/
import Derived.Test.YtcmefjicogicladDoorMsgTo3
import Derived.Deep.SlicePairs
import Derived.ProofKit
namespace Go.Proofs.YtcmefjicogicladDoor
open Go.ChangeShapes Go.WideShapes Go.ChangeAt Go.RowKit Go.Deep

theorem cellsEntry : Tryd.prog.cellsOf 53 = 3 := by kernel_rfl
theorem cellsMsg : Tryd.prog.cellsOf 25 = 7 := by kernel_rfl
theorem cellsNums : Tryd.prog.cellsOf 22 = 1 := by kernel_rfl
theorem cellsEnts : Tryd.prog.cellsOf 23 = 1 := by kernel_rfl

theorem nums_trod {H : Type} {enc : TypeId × Value → H} {W : World} {fuel : Nat} {cs : List Value} {x : DataW H × List MemPlace} (hf : DataW.trod enc Tryd.prog W 0 (fun _ => true) true fuel 22 cs = some x) : ∃ (a : Option Addr) (n cv : Nat) (V : List Int), cs = [.slice a n cv] ∧ n = V.length ∧ n ≤ maxLen ∧ NumsAt W a V := by
  rcases open_ints Tryd.underlying22 Tryd.underlying3 cellsInt hf with ⟨hcs, hx⟩ | ⟨a, len', cap', zs, hcs, _, hl, hm, hz, hx, hcell, hwz⟩
  · exact ⟨none, 0, 0, [], hcs, rfl, Nat.zero_le _, fun i hi => absurd hi (Nat.not_lt_zero _)⟩
  · have hcs' : cs.toArray = (Value.slice (some a) len' cap').cells := by rw [hcs]; rfl
    obtain ⟨V, h1, h2⟩ := nums_open (a0 := some a) (len := len') (cap := cap') (d := x.1) (p := x.2) (W := W) (enc := enc) ⟨fuel, by rw [← hcs']; exact hf⟩
    exact ⟨some a, len', cap', V, hcs, h1, Nat.le_trans hl hm, h2⟩

theorem int_trod {H : Type} {enc : TypeId × Value → H} {W : World} {fuel : Nat} {c : Value} {x : DataW H × List MemPlace} (hf : DataW.trod enc Tryd.prog W 0 (fun _ => true) true fuel 3 [c] = some x) : ∃ z : Int, c = .int .i64 z := by
  obtain ⟨z, e, _, _⟩ := DataW.trod_int Tryd.underlying3 hf
  exact ⟨z, by simpa using e⟩

theorem ents_trod {H : Type} {enc : TypeId × Value → H} {W : World} {fuel : Nat} {cs : List Value} {x : DataW H × List MemPlace} (hf : DataW.trod enc Tryd.prog W 0 (fun _ => true) true fuel 23 cs = some x) : ∃ (a : Option Addr) (m cv : Nat) (L : List Ent), cs = [.slice a m cv] ∧ m = L.length ∧ m ≤ maxLen ∧ EntsRaw W a L := by
  rcases open_slice Tryd.underlying23 hf with ⟨hcs, _⟩ | ⟨a, len, cap, m, n, D, Pl, rfl, hb, hl, hm, hmm, rfl, hx⟩
  · exact ⟨none, 0, 0, [], hcs, rfl, Nat.zero_le _, fun i hi => absurd hi (Nat.not_lt_zero _)⟩
  simp only [if_true] at hmm
  have each : ∀ i, i < len → ∃ e : Ent, W.cell? (a.add (i * 3)) = some (.int .i64 e.1) ∧ W.cell? (a.add (i * 3 + 1)) = some (.int .i64 e.2.1) ∧
      ∃ (ov : Option Addr) (k cv : Nat), W.cell? (a.add (i * 3 + 2)) = some (.slice ov k cv) ∧ k = e.2.2.length ∧ k ≤ maxLen ∧ NumsAt W ov e.2.2 := by
    intro i hi
    obtain ⟨cs', h1, h2⟩ := hx i (by omega)
    rw [cellsEntry] at h1
    obtain ⟨_, hlen, hcell⟩ := World.cells?_some h1
    obtain ⟨xs, k, hk, hxy, _, hxl, hfs⟩ := DataW.trod_struct Tryd.underlying53 h2
    match xs, hxl, cs', hlen with
    | [y0, y1, y2], _, [v0, v1, v2], _ =>
      have g0 := hfs 0 _ rfl
      have g1 := hfs 1 _ rfl
      have g2 := hfs 2 _ rfl
      simp [cellsInt, cellsNums] at g0 g1 g2
      have e0 := hcell 0 (by omega)
      have e1 := hcell 1 (by omega)
      have e2 := hcell 2 (by omega)
      rw [add_add] at e0 e1 e2
      obtain ⟨z0, rfl⟩ := int_trod g0
      obtain ⟨z1, rfl⟩ := int_trod g1
      obtain ⟨ov, q, cv, U, hU, h3, h4, h5⟩ := nums_trod g2
      simp at hU
      subst hU
      exact ⟨(z0, z1, U), by simpa using e0, by simpa using e1, ov, q, cv, by simpa using e2, h3, h4, h5⟩
  obtain ⟨E, hE⟩ := choose_lt each
  have hget : ∀ i, i < len → ((List.range len).map E).getD i (0, 0, []) = E i := fun i hi => by
    rw [List.getD_eq_getElem?_getD, List.getElem?_map, List.getElem?_range hi]
    rfl
  refine ⟨some a, len, cap, (List.range len).map E, rfl, by simp, Nat.le_trans hl hm, fun i hi => ?_⟩
  have hi' : i < len := by simpa using hi
  obtain ⟨h1, h2, ov, k, cv, h3, h4, h5, h6⟩ := hE i hi'
  rw [hget i hi']
  obtain ⟨b, off, spot⟩ := a
  have hspot : spot = none := by simpa [Addr.add] using World.cell?_spot (hE 0 (by omega)).1
  subst hspot
  have hold : b < W.heap.size := by
    have := World.block_lt_of_cell? W _ (hE 0 (by omega)).1
    simpa [Addr.add] using this
  rw [add_plain] at h1 h2 h3
  exact ⟨b, off, rfl, hold, h1, h2, ov, k, cv, h3, h4, h5, h6⟩

theorem msg_open {H : Type} {enc : TypeId × Value → H} {W : World} {v : Value} {d : DataW H} {p : List MemPlace} (hs : ∃ cs, v = .agg cs ∧ cs.size = 7) (h : DataW.Trod enc Tryd.prog W 0 (fun _ => true) true 25 v d p) :
    ∃ (kd fr tt bl ins : Int) (va la : Option Addr) (n vc m lc : Nat) (V : List Int) (L : List Ent), v = .agg #[.int .i64 kd, .int .i64 fr, .int .i64 tt, .int .i64 bl, .int .i64 ins, .slice va n vc, .slice la m lc] ∧
      n = V.length ∧ n ≤ maxLen ∧ NumsAt W va V ∧ m = L.length ∧ m ≤ maxLen ∧ EntsRaw W la L := by
  obtain ⟨⟨cl⟩, rfl, hcs⟩ := hs
  obtain ⟨fuel, hf⟩ := h
  have hf' : DataW.trod enc Tryd.prog W 0 (fun _ => true) true fuel 25 cl = some (d, p) := hf
  obtain ⟨xs, k, hk, hxy, _, hxl, hfs⟩ := DataW.trod_struct Tryd.underlying25 hf'
  have hlen : cl.length = 7 := hcs
  match xs, hxl, cl, hlen with
  | [y0, y1, y2, y3, y4, y5, y6], _, [v0, v1, v2, v3, v4, v5, v6], _ =>
    have g0 := hfs 0 _ rfl
    have g1 := hfs 1 _ rfl
    have g2 := hfs 2 _ rfl
    have g3 := hfs 3 _ rfl
    have g4 := hfs 4 _ rfl
    have g5 := hfs 5 _ rfl
    have g6 := hfs 6 _ rfl
    simp [cellsInt, cellsNums, cellsEnts] at g0 g1 g2 g3 g4 g5 g6
    obtain ⟨z0, rfl⟩ := int_trod g0
    obtain ⟨z1, rfl⟩ := int_trod g1
    obtain ⟨z2, rfl⟩ := int_trod g2
    obtain ⟨z3, rfl⟩ := int_trod g3
    obtain ⟨z4, rfl⟩ := int_trod g4
    obtain ⟨va, n, vc, V, hV, h1, h2, h3⟩ := nums_trod g5
    obtain ⟨la, m, lc, L, hL, h4, h5, h6⟩ := ents_trod g6
    simp at hV hL
    subst hV hL
    exact ⟨z0, z1, z2, z3, z4, va, la, n, vc, m, lc, V, L, rfl, h1, h2, h3, h4, h5, h6⟩

end Go.Proofs.YtcmefjicogicladDoor
