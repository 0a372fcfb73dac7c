/- DERIVED. The walks of toEntry, toEntryS, toMsg and eqEntry, eqEntryS, eqMsg. -/
import Derived.Test.YtcmefjicogicladDoorVoteTo
import Derived.Test.YtcmefjicogicladDoorMsgSz
namespace Go.Proofs.YtcmefjicogicladDoor
open Go.RowKit

/-- Numbers in a block behind g. -/
def NumsGt (g : Nat) (w : World) (oa : Option Addr) (V : List Int) : Prop := NumsAt w oa V ∧ ∀ b off sp, oa = some ⟨b, off, sp⟩ → g ≤ b

theorem row_nums {w : World} {base : Nat} {v : Value} {V : List Int} {n : Nat} (hn : n = V.length) (h : w.ownsRow base 3 1 v V.length (V.map (Value.int .i64))) : ∃ oa cp, v = .slice oa n cp ∧ NumsGt base w oa V := by
  obtain ⟨oa, cp, e, hN⟩ := nums_of_len hn.symm h
  refine ⟨oa, cp, e, hN, fun b off sp ho => ?_⟩
  rcases h.2 with ⟨e1, _⟩ | ⟨g, cap, cur, e1, hg, _⟩
  · rw [e] at e1
    injection e1 with e1
    rw [ho] at e1
    cases e1
  · rw [e] at e1
    injection e1 with e1
    rw [ho] at e1
    injection e1 with e1
    injection e1 with e1
    rw [e1]
    exact hg

theorem NumsGt.set {g : Nat} {w : World} {oa : Option Addr} {V : List Int} (h : NumsGt g w oa V) {b : Nat} (o : Nat) (v : Value) (hb : b < g) : NumsGt g (w.setCell ⟨b, o, none⟩ v) oa V := by
  refine ⟨fun i hi => ?_, h.2⟩
  obtain ⟨b', off, e, h1, h2⟩ := h.1 i hi
  have := h.2 b' off none e
  exact ⟨b', off, e, by simpa using h1, by rw [World.cell?_setCell_other (h := fun e' => by injection e' with e1; omega)]; exact h2⟩

theorem NumsGt.mono {g g' : Nat} {w : World} {oa : Option Addr} {V : List Int} (h : NumsGt g w oa V) (hg : g' ≤ g) : NumsGt g' w oa V :=
  ⟨h.1, fun b off sp e => Nat.le_trans hg (h.2 b off sp e)⟩

theorem cell_mid (w : World) (A B C : Array Value) (ta tb tc : TypeId) (j : Nat) : (((w.alloc (.cells A ta)).alloc (.cells B tb)).alloc (.cells C tc)).cell? ⟨w.heap.size + 1, j, none⟩ = B[j]? := by
  have e : w.heap.size + 1 = (w.alloc (.cells A ta)).heap.size := by simp
  rw [World.cell?_alloc_lt (h := by simp), e, World.cell?_alloc_new]

theorem cell_last (w : World) (A B C : Array Value) (ta tb tc : TypeId) (j : Nat) : (((w.alloc (.cells A ta)).alloc (.cells B tb)).alloc (.cells C tc)).cell? ⟨w.heap.size + 1 + 1, j, none⟩ = C[j]? := by
  have e : w.heap.size + 1 + 1 = ((w.alloc (.cells A ta)).alloc (.cells B tb)).heap.size := by simp
  rw [e, World.cell?_alloc_new]

theorem free_mid (w : World) (A B C : Array Value) (ta tb tc : TypeId) (j : Nat) : (((w.alloc (.cells A ta)).alloc (.cells B tb)).alloc (.cells C tc)).frozen? ⟨w.heap.size + 1, j, none⟩ = false := by
  rw [World.frozen?_alloc_past (hn := by simp), World.frozen?_alloc_at (hn := by simp)]

theorem free_last (w : World) (A B C : Array Value) (ta tb tc : TypeId) (j : Nat) : (((w.alloc (.cells A ta)).alloc (.cells B tb)).alloc (.cells C tc)).frozen? ⟨w.heap.size + 1 + 1, j, none⟩ = false := by
  rw [World.frozen?_alloc_at (hn := by simp)]

set_option maxRecDepth 100000 in
set_option maxHeartbeats 800000 in
theorem toE_any (x y : Int) (ov : Option Addr) (n cv : Nat) (U : List Int) (w : World) (hn : n = U.length) (hn2 : n ≤ 1048576) (hU : NumsAt w ov U) :
    Calls Tryd.prog 32 #[.agg #[.int .i64 x, .int .i64 y, .slice ov n cv]] w fun e w' => (∃ o1 c1, e = .returned (.agg #[.int .i64 x, .int .i64 y, .slice o1 n c1]) ∧ NumsGt w.heap.size w' o1 U) ∧ Below w.heap.size w w' := by
  have C : Hid (∀ w', Below w.heap.size w w' → Calls Tryd.prog 13 #[.slice ov n cv] w' fun e w2 => ∃ v, e = .returned v ∧ w2.ownsRow w'.heap.size 3 1 v U.length (U.map (Value.int .i64)) ∧ Below w'.heap.size w' w2) := fun w' hb => toS_any ov cv n U w' hn hn2 (hU.below hb)
  have HN := hid hn
  clear hn hU
  go_enter Tryd.func32, Tryd.ntmps32
  go_wp2_with fail
  have HB3 : Hid (Below w.heap.size w (((w.alloc (.cells #[.int .i64 x, .int .i64 y, .slice ov n cv] 53)).alloc (.cells #[.int .i64 0, .int .i64 0, .slice none 0 0] 61)).alloc (.cells #[.int .i64 x, .int .i64 y, .slice none 0 0] 61))) := (((Below.refl _ _).alloc (Nat.le_refl _) _).alloc (by simp) _).alloc (by simp; omega) _
  refine (C.out _ HB3.out).mono ?_
  rintro e w4 ⟨v, rfl, hrow, hb⟩
  have hsz : w.heap.size + 1 + 1 + 1 ≤ w4.heap.size := by simpa using hb.size
  obtain ⟨o1, c1, rfl, hN⟩ := row_nums HN.out hrow
  have hk : ∀ b o, b < w.heap.size + 3 → w4.cell? ⟨b, o, none⟩ = (((w.alloc (.cells #[.int .i64 x, .int .i64 y, .slice ov n cv] 53)).alloc (.cells #[.int .i64 0, .int .i64 0, .slice none 0 0] 61)).alloc (.cells #[.int .i64 x, .int .i64 y, .slice none 0 0] 61)).cell? ⟨b, o, none⟩ := fun b o h => hb.cell (by simp; omega)
  have hf : ∀ b o, b < w.heap.size + 3 → w4.frozen? ⟨b, o, none⟩ = (((w.alloc (.cells #[.int .i64 x, .int .i64 y, .slice ov n cv] 53)).alloc (.cells #[.int .i64 0, .int .i64 0, .slice none 0 0] 61)).alloc (.cells #[.int .i64 x, .int .i64 y, .slice none 0 0] 61)).frozen? ⟨b, o, none⟩ := fun b o h => hb.frozen (by simp; omega)
  have cc0 : w4.cell? ⟨w.heap.size + 1, 0, none⟩ = some (.int .i64 0) := (hk _ _ (by omega)).trans (cell_mid _ _ _ _ _ _ _ _)
  have fc0 : w4.frozen? ⟨w.heap.size + 1, 0, none⟩ = false := (hf _ _ (by omega)).trans (free_mid _ _ _ _ _ _ _ _)
  have cc1 : w4.cell? ⟨w.heap.size + 1, 1, none⟩ = some (.int .i64 0) := (hk _ _ (by omega)).trans (cell_mid _ _ _ _ _ _ _ _)
  have fc1 : w4.frozen? ⟨w.heap.size + 1, 1, none⟩ = false := (hf _ _ (by omega)).trans (free_mid _ _ _ _ _ _ _ _)
  have cc2 : w4.cell? ⟨w.heap.size + 1, 2, none⟩ = some (.slice none 0 0) := (hk _ _ (by omega)).trans (cell_mid _ _ _ _ _ _ _ _)
  have fc2 : w4.frozen? ⟨w.heap.size + 1, 2, none⟩ = false := (hf _ _ (by omega)).trans (free_mid _ _ _ _ _ _ _ _)
  have d0 : w4.cell? ⟨w.heap.size + 1 + 1, 0, none⟩ = some (.int .i64 x) := (hk _ _ (by omega)).trans (cell_last _ _ _ _ _ _ _ _)
  have fd0 : w4.frozen? ⟨w.heap.size + 1 + 1, 0, none⟩ = false := (hf _ _ (by omega)).trans (free_last _ _ _ _ _ _ _ _)
  have d1 : w4.cell? ⟨w.heap.size + 1 + 1, 1, none⟩ = some (.int .i64 y) := (hk _ _ (by omega)).trans (cell_last _ _ _ _ _ _ _ _)
  have fd1 : w4.frozen? ⟨w.heap.size + 1 + 1, 1, none⟩ = false := (hf _ _ (by omega)).trans (free_last _ _ _ _ _ _ _ _)
  have d2 : w4.cell? ⟨w.heap.size + 1 + 1, 2, none⟩ = some (.slice none 0 0) := (hk _ _ (by omega)).trans (cell_last _ _ _ _ _ _ _ _)
  have fd2 : w4.frozen? ⟨w.heap.size + 1 + 1, 2, none⟩ = false := (hf _ _ (by omega)).trans (free_last _ _ _ _ _ _ _ _)
  have HB4 : Hid (Below w.heap.size w w4) := HB3.out.trans (hb.mono (by simp; omega))
  have HG : Hid (NumsGt (w.heap.size + 1 + 1 + 1) w4 o1 U) := hN.mono (by simp)
  clear hk hf hb hN hrow HB3
  go_wp2
  refine bodyPost_ret (v := .agg #[.int .i64 x, .int .i64 y, .slice o1 n c1]) (by simp [results, Tryd.results32, go_sem, cc0, cc1, cc2]) rfl ?_
  refine ⟨⟨o1, c1, rfl, ?_⟩, ?_⟩
  · refine NumsGt.mono (g := w.heap.size + 1 + 1 + 1) ?_ (by omega)
    exact (((HG.out.set _ _ (by omega)).set _ _ (by omega)).set _ _ (by omega)).set _ _ (by omega)
  · have e1 : w.heap.size ≤ w.heap.size + 1 := by omega
    have e2 : w.heap.size ≤ w.heap.size + 1 + 1 := by omega
    exact (((HB4.out.setCell e2 _).setCell e1 _).setCell e1 _).setCell e1 _

/-- A new row of entries that is being filled: the first k are there. -/
structure OwnEnts (w : World) (g m k : Nat) (L : List Ent) : Prop where
  old : g < w.heap.size
  there : ∀ j, j < m * 3 → (w.cell? ⟨g, j, none⟩).isSome = true
  free : ∀ j, j < m * 3 → w.frozen? ⟨g, j, none⟩ = false
  ent : ∀ i, i < k → w.cell? ⟨g, i * 3, none⟩ = some (.int .i64 (L.getD i (0, 0, [])).1) ∧ w.cell? ⟨g, i * 3 + 1, none⟩ = some (.int .i64 (L.getD i (0, 0, [])).2.1) ∧
    ∃ (ov : Option Addr) (n cv : Nat), w.cell? ⟨g, i * 3 + 2, none⟩ = some (.slice ov n cv) ∧ n = (L.getD i (0, 0, [])).2.2.length ∧ n ≤ 1048576 ∧ NumsGt (g + 1) w ov (L.getD i (0, 0, [])).2.2

theorem NumsGt.below {g : Nat} {w w' : World} {oa : Option Addr} {V : List Int} (h : NumsGt g w oa V) (hb : Below w.heap.size w w') : NumsGt g w' oa V := ⟨h.1.below hb, h.2⟩

theorem OwnEnts.below {w w' : World} {g m k : Nat} {L : List Ent} (h : OwnEnts w g m k L) (hb : Below w.heap.size w w') : OwnEnts w' g m k L where
  old := Nat.lt_of_lt_of_le h.old hb.size
  there := fun j hj => by rw [hb.cell h.old]; exact h.there j hj
  free := fun j hj => by rw [hb.frozen h.old]; exact h.free j hj
  ent := fun i hi => by
    obtain ⟨h1, h2, ov, n, cv, h3, h4, h5, h6⟩ := h.ent i hi
    exact ⟨by rw [hb.cell h.old]; exact h1, by rw [hb.cell h.old]; exact h2, ov, n, cv, by rw [hb.cell h.old]; exact h3, h4, h5, h6.below hb⟩

theorem OwnEnts.ents {w : World} {g m : Nat} {L : List Ent} (hm : m = L.length) (h : OwnEnts w g m m L) : EntsAt w (some ⟨g, 0, none⟩) L := by
  intro i hi
  obtain ⟨h1, h2, ov, n, cv, h3, h4, h5, h6⟩ := h.ent i (by omega)
  exact ⟨g, 0, rfl, h.old, by rw [Nat.zero_add]; exact h1, by rw [Nat.zero_add]; exact h2, ov, n, cv, by rw [Nat.zero_add]; exact h3, h4, h5, h6.1⟩

theorem addr_ne {B p q : Nat} (h : p ≠ q) : (⟨B, p, none⟩ : Addr) ≠ ⟨B, q, none⟩ := fun e => h (by injection e)

/-- Three cells, one behind the other, are written. -/
def set3 (w : World) (g p : Nat) (x y z : Value) : World := ((w.setCell ⟨g, p, none⟩ x).setCell ⟨g, p + 1, none⟩ y).setCell ⟨g, p + 2, none⟩ z

theorem set3_far {w : World} {g p q : Nat} {x y z : Value} (h0 : p ≠ q) (h1 : p + 1 ≠ q) (h2 : p + 2 ≠ q) : (set3 w g p x y z).cell? ⟨g, q, none⟩ = w.cell? ⟨g, q, none⟩ := by
  unfold set3
  rw [World.cell?_setCell_other (h := addr_ne h2), World.cell?_setCell_other (h := addr_ne h1), World.cell?_setCell_other (h := addr_ne h0)]

theorem set3_a {w : World} {g p : Nat} {x y z : Value} (h : (w.cell? ⟨g, p, none⟩).isSome = true) : (set3 w g p x y z).cell? ⟨g, p, none⟩ = some x := by
  obtain ⟨u, hu⟩ := Option.isSome_iff_exists.mp h
  unfold set3
  rw [World.cell?_setCell_other (h := addr_ne (by omega)), World.cell?_setCell_other (h := addr_ne (by omega)), World.cell?_setCell_same (h := hu)]

theorem set3_b {w : World} {g p : Nat} {x y z : Value} (h : (w.cell? ⟨g, p + 1, none⟩).isSome = true) : (set3 w g p x y z).cell? ⟨g, p + 1, none⟩ = some y := by
  obtain ⟨u, hu⟩ := Option.isSome_iff_exists.mp h
  have hu' : (w.setCell ⟨g, p, none⟩ x).cell? ⟨g, p + 1, none⟩ = some u := by rw [World.cell?_setCell_other (h := addr_ne (by omega))]; exact hu
  unfold set3
  rw [World.cell?_setCell_other (h := addr_ne (by omega)), World.cell?_setCell_same (h := hu')]

theorem set3_c {w : World} {g p : Nat} {x y z : Value} (h : (w.cell? ⟨g, p + 2, none⟩).isSome = true) : (set3 w g p x y z).cell? ⟨g, p + 2, none⟩ = some z := by
  obtain ⟨u, hu⟩ := Option.isSome_iff_exists.mp h
  have hu' : ((w.setCell ⟨g, p, none⟩ x).setCell ⟨g, p + 1, none⟩ y).cell? ⟨g, p + 2, none⟩ = some u := by rw [World.cell?_setCell_other (h := addr_ne (by omega)), World.cell?_setCell_other (h := addr_ne (by omega))]; exact hu
  unfold set3
  rw [World.cell?_setCell_same (h := hu')]

theorem NumsGt.set3 {g : Nat} {w : World} {oa : Option Addr} {V : List Int} (h : NumsGt (g + 1) w oa V) (p : Nat) (x y z : Value) : NumsGt (g + 1) (set3 w g p x y z) oa V :=
  ((h.set p x (Nat.lt_succ_self g)).set (p + 1) y (Nat.lt_succ_self g)).set (p + 2) z (Nat.lt_succ_self g)

theorem OwnEnts.put {w : World} {g m k : Nat} {L : List Ent} (h : OwnEnts w g m k L) (hk : k < m) {ov : Option Addr} {n cv : Nat} (hn : n = (L.getD k (0, 0, [])).2.2.length) (hn2 : n ≤ 1048576) (hN : NumsGt (g + 1) w ov (L.getD k (0, 0, [])).2.2) :
    OwnEnts (set3 w g (k * 3) (.int .i64 (L.getD k (0, 0, [])).1) (.int .i64 (L.getD k (0, 0, [])).2.1) (.slice ov n cv)) g m (k + 1) L where
  old := by unfold set3; simpa using h.old
  there := fun j hj => by
    by_cases h0 : k * 3 = j
    · subst h0; rw [set3_a (h.there _ hj)]; rfl
    · by_cases h1 : k * 3 + 1 = j
      · subst h1; rw [set3_b (h.there _ hj)]; rfl
      · by_cases h2 : k * 3 + 2 = j
        · subst h2; rw [set3_c (h.there _ hj)]; rfl
        · rw [set3_far h0 h1 h2]; exact h.there j hj
  free := fun j hj => by unfold set3; simpa using h.free j hj
  ent := fun i hi => by
    by_cases e : i = k
    · subst e
      exact ⟨set3_a (h.there _ (by omega)), set3_b (h.there _ (by omega)), ov, n, cv, set3_c (h.there _ (by omega)), hn, hn2, hN.set3 _ _ _ _⟩
    · obtain ⟨h1, h2, ov', n', cv', h3, h4, h5, h6⟩ := h.ent i (by omega)
      exact ⟨by rw [set3_far (by omega) (by omega) (by omega)]; exact h1, by rw [set3_far (by omega) (by omega) (by omega)]; exact h2, ov', n', cv', by rw [set3_far (by omega) (by omega) (by omega)]; exact h3, h4, h5, h6.set3 _ _ _ _⟩

end Go.Proofs.YtcmefjicogicladDoor
