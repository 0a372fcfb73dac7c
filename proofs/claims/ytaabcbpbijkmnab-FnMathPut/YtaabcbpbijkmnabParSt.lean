/- DERIVED. The model's reader of sums: what it has read, and how it goes on. -/
import Derived.Test.YtaabcbpbijkmnabParMem
import Derived.Test.YtaabcbpbijkmnabRowOps
import Derived.Test.YtaabcbpbijkmnabParPlain
import Derived.Below
namespace Go.Proofs.Ytaabcbpbijkmnab
open Go.RowKit

/-- The cells of a list that is to be run. -/
def ocells : List Op3 → List Value
  | [] => []
  | o :: t => .int .u8 (o.1.toNat : Int) :: .int .i64 o.2.1 :: .string o.2.2 :: ocells t

theorem ocells_app (A B : List Op3) : ocells (A ++ B) = ocells A ++ ocells B := by
  induction A with
  | nil => rfl
  | cons x t ih => simp [ocells, ih]

theorem PAt.mark {w : World} {R : Nat} {s : ByteArray} {p d : Nat} {bad : Bool} {ov : Value} (h : PAt w R s p d bad ov) (x : Bool) : PAt (w.setCell ⟨R, 3, none⟩ (.bool x)) R s p d x ov where
  old := by simpa using h.old
  text := by rw [World.cell?_setCell_other (h := fun e => by injection e with _ e2; cases e2)]; exact h.text
  place := by rw [World.cell?_setCell_other (h := fun e => by injection e with _ e2; cases e2)]; exact h.place
  deep := by rw [World.cell?_setCell_other (h := fun e => by injection e with _ e2; cases e2)]; exact h.deep
  bad := by rw [World.cell?_setCell_same (h := h.bad)]
  out := by rw [World.cell?_setCell_other (h := fun e => by injection e with _ e2; cases e2)]; exact h.out
  free := fun i => by simpa using h.free i

theorem PAt.dive {w : World} {R : Nat} {s : ByteArray} {p d : Nat} {bad : Bool} {ov : Value} (h : PAt w R s p d bad ov) (x : Nat) : PAt (w.setCell ⟨R, 2, none⟩ (.int .i64 (x : Int))) R s p x bad ov where
  old := by simpa using h.old
  text := by rw [World.cell?_setCell_other (h := fun e => by injection e with _ e2; cases e2)]; exact h.text
  place := by rw [World.cell?_setCell_other (h := fun e => by injection e with _ e2; cases e2)]; exact h.place
  deep := by rw [World.cell?_setCell_same (h := h.deep)]
  bad := by rw [World.cell?_setCell_other (h := fun e => by injection e with _ e2; cases e2)]; exact h.bad
  out := by rw [World.cell?_setCell_other (h := fun e => by injection e with _ e2; cases e2)]; exact h.out
  free := fun i => by simpa using h.free i

theorem PAt.grown {w w' : World} {R : Nat} {s : ByteArray} {p d : Nat} {bad : Bool} {ov : Value} {g : Option Nat} (h : PAt w R s p d bad ov) (hg : w.grownBy w' g) (hn : g ≠ some R) : PAt w' R s p d bad ov := by
  have hc : ∀ i, w'.cell? ⟨R, i, none⟩ = w.cell? ⟨R, i, none⟩ := fun i => World.cell?_of_block (a := ⟨R, i, none⟩) (hg.block R h.old (fun e => hn e.symm))
  have hf : ∀ i, w'.frozen? ⟨R, i, none⟩ = w.frozen? ⟨R, i, none⟩ := fun i => World.frozen?_of_block (a := ⟨R, i, none⟩) (hg.block R h.old (fun e => hn e.symm))
  exact ⟨Nat.lt_of_lt_of_le h.old hg.size, by rw [hc]; exact h.text, by rw [hc]; exact h.place, by rw [hc]; exact h.deep, by rw [hc]; exact h.bad, by rw [hc]; exact h.out, fun i => by rw [hf]; exact h.free i⟩

/-- It has read so far, and nothing was wrong; k bytes more were read than parts are there. -/
def MSt (w : World) (R base : Nat) (s : ByteArray) (d k : Nat) (ops : List Op3) (p : Nat) : Prop :=
  ∃ ov, PAt w R s p d false ov ∧ w.ownsRow base 61 3 ov ops.length (ocells ops) ∧ (∀ g, ov.ownBlock = some g → g ≠ R) ∧ ops.length + k ≤ p ∧ p ≤ s.size

/-- Something was wrong. -/
def MBad (w : World) (R base : Nat) (s : ByteArray) (d e : Nat) : Prop := ∃ (q d' : Nat) (ov : Value) (ops : List Op3), PAt w R s q d' true ov ∧ w.ownsRow base 61 3 ov ops.length (ocells ops) ∧ (∀ g, ov.ownBlock = some g → g ≠ R) ∧ ops.length ≤ s.size + 2 + e ∧ q ≤ s.size + 2 + e ∧ d ≤ d' ∧ d' ≤ 7

theorem MBad.more {w : World} {R base : Nat} {s : ByteArray} {d e e' : Nat} (h : MBad w R base s d e) (he : e ≤ e') : MBad w R base s d e' := by
  obtain ⟨q, d', ov, ops, h1, h2, h3, h4, h5, h6, h7⟩ := h
  exact ⟨q, d', ov, ops, h1, h2, h3, by omega, by omega, h6, h7⟩

/-- How a part of the reader ends. -/
def AfterM (w' : World) (R base : Nat) (s : ByteArray) (d k e : Nat) (ops : List Op3) : MRes → Prop
  | some (o, q) => MSt w' R base s d k (ops ++ o) q
  | none => MBad w' R base s d e

/-- What a part of the reader does. -/
def PartM (f : FuncId) (s : ByteArray) (mp : Nat → MRes) (d e : Nat) : Prop := ∀ (R base : Nat) (k : Nat) (ops : List Op3) (p : Nat) (w : World), base ≤ R → MSt w R base s d k ops p →
  Calls Try.prog f #[.pointer (some ⟨R, 0, none⟩)] w fun x w' => x = .returned (.tuple #[]) ∧ Below base w w' ∧ AfterM w' R base s d k e ops (mp p)

theorem row_keepM {R base : Nat} {e : TypeId} {size n : Nat} {v : Value} {xs : List Value} {w w' : World} (h : w.ownsRow base e size v n xs) (hn : ∀ g, v.ownBlock = some g → g ≠ R) (hk : Keeps R w w') : w'.ownsRow base e size v n xs := by
  refine ⟨h.1, ?_⟩
  rcases h.2 with h2 | ⟨g, cap, cur, e1, hb, hg, h3⟩
  · exact Or.inl h2
  · refine Or.inr ⟨g, cap, cur, e1, hb, ?_, h3⟩
    have hlt : g < w.heap.size := by
      rcases Nat.lt_or_ge g w.heap.size with hh | hh
      · exact hh
      · rw [Array.getElem?_eq_none hh] at hg; cases hg
    rw [hk.block g hlt (hn g (by rw [e1]; rfl))]
    exact hg

/-- look, where all is well so far. -/
theorem look_st (R base : Nat) (s : ByteArray) (d k : Nat) (ops : List Op3) (p : Nat) (w : World) (hs : s.size ≤ maxLen) (hb : base ≤ R) (h : MSt w R base s d k ops p) :
    Calls Try.prog 21 #[.pointer (some ⟨R, 0, none⟩)] w fun e w' => e = .returned (.int .u8 (lookV s p)) ∧ MSt w' R base s d k ops (skipP s p) ∧ Below base w w' := by
  obtain ⟨ov, hp, ho, hn, hl, hps⟩ := h
  refine (look_any R s p d false ov w hs hps hp).mono ?_
  rintro e w' ⟨rfl, h2, h3⟩
  have := skipP_le s p hps
  exact ⟨rfl, ⟨ov, h2, row_keepM ho hn h3, hn, by omega, by omega⟩, h3.below _ _ hb (Below.refl _ _)⟩

set_option maxRecDepth 100000 in
set_option maxHeartbeats 800000 in
theorem look_far (R : Nat) (s : ByteArray) (q d : Nat) (bad : Bool) (ov : Value) (w : World) (hq : s.size < q) (h : PAt w R s q d bad ov) :
    Calls Try.prog 21 #[.pointer (some ⟨R, 0, none⟩)] w fun e w' => e = .returned (.int .u8 0) ∧ PAt w' R s q d bad ov ∧ Keeps R w w' := by
  have H := hid h
  clear h
  go_enter Try.func21, Try.ntmps21
  go_wp2
  go_loopg [3] 0 (fun _ _ wr => PAt wr R s q d bad ov ∧ Keeps R w wr)
  case atStart => exact ⟨H.out, Keeps.refl _ _⟩
  case round =>
    obtain ⟨hpa, hkp⟩ := hrel
    have c0 := hpa.text
    have c1 := hpa.place
    have f1 := hpa.free 1
    have HR := hid hpa
    have HK := hid hkp
    clear hpa hkp
    have hlt : ¬ q < s.size := by omega
    have hqI : ¬ (q : Int) < (s.size : Int) := by omega
    clear hq
    go_wp2
    go_quiet (fail)
    go_wp2
    go_quiet (fail)
    go_wp2
    go_ret
    exact ⟨rfl, (HR.out.drewN _).drewN _, (HK.out.trans (Keeps.drewN _)).trans (Keeps.drewN _)⟩

/-- look, where something was wrong. -/
theorem look_bad (R base : Nat) (s : ByteArray) (d e : Nat) (w : World) (hs : s.size ≤ 100) (hb : base ≤ R) (h : MBad w R base s d e) :
    Calls Try.prog 21 #[.pointer (some ⟨R, 0, none⟩)] w fun x w' => (∃ c, x = .returned (.int .u8 c)) ∧ MBad w' R base s d e ∧ Below base w w' := by
  obtain ⟨q, d', ov, ops, hp, ho, hn, hl, hq, h6, h7⟩ := h
  rcases Nat.lt_or_ge s.size q with hlt | hle
  · refine (look_far R s q d' true ov w hlt hp).mono ?_
    rintro x w' ⟨rfl, h2, h3⟩
    exact ⟨⟨_, rfl⟩, ⟨q, d', ov, ops, h2, row_keepM ho hn h3, hn, hl, hq, h6, h7⟩, h3.below _ _ hb (Below.refl _ _)⟩
  · refine (look_any R s q d' true ov w (by unfold maxLen; omega) hle hp).mono ?_
    rintro x w' ⟨rfl, h2, h3⟩
    have := skipP_le s q hle
    exact ⟨⟨_, rfl⟩, ⟨_, d', ov, ops, h2, row_keepM ho hn h3, hn, hl, by omega, h6, h7⟩, h3.below _ _ hb (Below.refl _ _)⟩

/-- A sum's own row, longer by one part. -/
theorem push_any {w w5 w6 : World} {R base : Nat} {s : ByteArray} {d p : Nat} {bad : Bool} {ops : List Op3} (o : Op3) {ov v' : Value} (hb : base ≤ R) (hP : PAt w5 R s p d bad ov) (ho5 : ∀ g, ov.ownBlock = some g → g ≠ R) (hgr : w5.grownBy w6 ov.ownBlock) (hown : w6.ownsRow base 61 3 v' (ops.length + 1) (ocells ops ++ [.int .u8 (o.1.toNat : Int), .int .i64 o.2.1, .string o.2.2])) (hB5 : Below base w w5) (hB56 : Below base w5 w6) :
    (PAt (w6.setCell ⟨R, 4, none⟩ v') R s p d bad v' ∧ (w6.setCell ⟨R, 4, none⟩ v').ownsRow base 61 3 v' (ops ++ [o]).length (ocells (ops ++ [o])) ∧ ∀ g, v'.ownBlock = some g → g ≠ R) ∧ Below base w (w6.setCell ⟨R, 4, none⟩ v') ∧ w6.cell? ⟨R, 4, none⟩ = some ov ∧ w6.frozen? ⟨R, 4, none⟩ = false := by
  have hP6 := hP.grown hgr (fun e => ho5 R e rfl)
  have hrow : w6.ownsRow base 61 3 v' (ops ++ [o]).length (ocells (ops ++ [o])) := by rw [ocells_app, List.length_append]; exact hown
  have hne : ∀ g, v'.ownBlock = some g → g ≠ R := fun g hg e => by
    subst e
    have hcell : ∃ (c : Int) (t : List Value), ocells (ops ++ [o]) = .int .u8 c :: t := by
      cases ops with
      | nil => exact ⟨_, _, rfl⟩
      | cons y l => exact ⟨_, _, rfl⟩
    obtain ⟨c, t, hct⟩ := hcell
    rw [hct] at hrow
    have := row_first hrow g hg
    rw [hP6.text] at this
    cases this
  exact ⟨⟨hP6.lay v', row_put3 hrow hne _ _, hne⟩, (hB5.trans hB56).setCell hb _, hP6.out, hP6.free 4⟩

/-- What an append of one part and the store behind it do. -/
theorem mst_push {w w1 w6 : World} {R base : Nat} {s : ByteArray} {d p k' k : Nat} {ops : List Op3} (o : Op3) {ov v' : Value} {ob : Obj} (hb : base ≤ R) (hP : PAt w1 R s p d false ov) (ho5 : ∀ g, ov.ownBlock = some g → g ≠ R) (hrow : w1.ownsRow base 61 3 ov ops.length (ocells ops)) (hl : ops.length + k' ≤ p) (hps : p ≤ s.size) (hk : k' = k + 1) (hB : Below base w w1) (hgr : (w1.alloc ob).grownBy w6 ov.ownBlock) (hown : w6.ownsRow base 61 3 v' (ops.length + 1) (ocells ops ++ [.int .u8 (o.1.toNat : Int), .int .i64 o.2.1, .string o.2.2])) :
    MSt (w6.setCell ⟨R, 4, none⟩ v') R base s d k (ops ++ [o]) p ∧ Below base w (w6.setCell ⟨R, 4, none⟩ v') ∧ w6.cell? ⟨R, 4, none⟩ = some ov ∧ w6.frozen? ⟨R, 4, none⟩ = false := by
  have hbs : base ≤ w1.heap.size := by have := hP.old; omega
  have hA : Below base w1 (w1.alloc ob) := (Below.refl _ _).alloc hbs _
  have hP5 : PAt (w1.alloc ob) R s p d false ov := hP.below ((Below.refl _ _).alloc (Nat.le_refl _) _)
  obtain ⟨⟨g1, g2, g3⟩, g4, g5, g6⟩ := push_any o hb hP5 ho5 hgr hown (hB.trans hA) ((Below.refl _ _).grown hgr (by simp; omega) (fun j hj => (hrow.lt j hj).1))
  exact ⟨⟨v', g1, g2, g3, by simp; omega, hps⟩, g4, g5, g6⟩

theorem mbad_push {w w1 w6 : World} {R base : Nat} {s : ByteArray} {d d' p e : Nat} {ops : List Op3} (o : Op3) {ov v' : Value} {ob : Obj} (hb : base ≤ R) (hP : PAt w1 R s p d' true ov) (ho5 : ∀ g, ov.ownBlock = some g → g ≠ R) (hrow : w1.ownsRow base 61 3 ov ops.length (ocells ops)) (hl : ops.length ≤ s.size + 2 + e) (hps : p ≤ s.size + 2 + e) (hd : d ≤ d') (hd7 : d' ≤ 7) (hB : Below base w w1) (hgr : (w1.alloc ob).grownBy w6 ov.ownBlock) (hown : w6.ownsRow base 61 3 v' (ops.length + 1) (ocells ops ++ [.int .u8 (o.1.toNat : Int), .int .i64 o.2.1, .string o.2.2])) :
    MBad (w6.setCell ⟨R, 4, none⟩ v') R base s d (e + 1) ∧ Below base w (w6.setCell ⟨R, 4, none⟩ v') ∧ w6.cell? ⟨R, 4, none⟩ = some ov ∧ w6.frozen? ⟨R, 4, none⟩ = false := by
  have hbs : base ≤ w1.heap.size := by have := hP.old; omega
  have hA : Below base w1 (w1.alloc ob) := (Below.refl _ _).alloc hbs _
  have hP5 : PAt (w1.alloc ob) R s p d' true ov := hP.below ((Below.refl _ _).alloc (Nat.le_refl _) _)
  obtain ⟨⟨g1, g2, g3⟩, g4, g5, g6⟩ := push_any o hb hP5 ho5 hgr hown (hB.trans hA) ((Below.refl _ _).grown hgr (by simp; omega) (fun j hj => (hrow.lt j hj).1))
  exact ⟨⟨p, d', v', _, g1, g2, g3, by simp; omega, by omega, hd, hd7⟩, g4, g5, g6⟩

end Go.Proofs.Ytaabcbpbijkmnab
