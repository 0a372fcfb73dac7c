/- DERIVED. The reader that draws: its memory, and one draw. -/
import Derived.Test.YtplbfllhimcpiaaGreatDoorOk
import Derived.Test.YtplbfllhimcpiaaGreatDoorReg
import Derived.Laws.BitsAllLaws
namespace Go.Proofs.YtplbfllhimcpiaaGreatDoor
open Go.RowKit

/-- Nothing that was there has turned but the block R. -/
structure Keeps (R : Nat) (w w' : World) : Prop where
  size : w.heap.size ≤ w'.heap.size
  below : ∀ B w0, B ≤ R → Below B w0 w → Below B w0 w'
  cell : ∀ b o, b < w.heap.size → b ≠ R → w'.cell? ⟨b, o, none⟩ = w.cell? ⟨b, o, none⟩
  frozen : ∀ b o, b < w.heap.size → w'.frozen? ⟨b, o, none⟩ = w.frozen? ⟨b, o, none⟩
  block : ∀ b, b < w.heap.size → b ≠ R → w'.heap[b]? = w.heap[b]?

theorem Keeps.refl (R : Nat) (w : World) : Keeps R w w := ⟨Nat.le_refl _, fun _ _ _ h => h, fun _ _ _ _ => rfl, fun _ _ _ => rfl, fun _ _ _ => rfl⟩

theorem Keeps.trans {R : Nat} {a b c : World} (h : Keeps R a b) (k : Keeps R b c) : Keeps R a c where
  size := Nat.le_trans h.size k.size
  below := fun B w0 hB hb => k.below B w0 hB (h.below B w0 hB hb)
  cell := fun x o hx hn => by rw [k.cell x o (Nat.lt_of_lt_of_le hx h.size) hn, h.cell x o hx hn]
  frozen := fun x o hx => by rw [k.frozen x o (Nat.lt_of_lt_of_le hx h.size), h.frozen x o hx]
  block := fun x hx hn => (k.block x (Nat.lt_of_lt_of_le hx h.size) hn).trans (h.block x hx hn)

theorem Keeps.set {R : Nat} {w : World} (o : Nat) (v : Value) : Keeps R w (w.setCell ⟨R, o, none⟩ v) where
  size := by simp
  below := fun _ _ hB hb => hb.setCell hB v
  cell := fun x o' _ hn => by rw [World.cell?_setCell_other (h := fun e => hn (by injection e with e1; exact e1.symm))]
  frozen := fun x o' _ => by simp
  block := fun x _ hn => Below.heap_setCell _ _ _ _ hn

theorem Keeps.drewN {R : Nat} {w : World} (n : Nat) : Keeps R w (w.drewN n) where
  size := Nat.le_refl _
  below := fun _ _ _ hb => below_drewN hb n
  cell := fun _ _ _ _ => rfl
  frozen := fun _ _ _ => rfl
  block := fun _ _ _ => rfl

theorem Keeps.of_below {R : Nat} {w w' : World} (h : Below w.heap.size w w') (hR : R < w.heap.size) : Keeps R w w' where
  size := h.size
  below := fun B w0 hB hb => hb.trans (h.mono (by omega))
  cell := fun x o hx _ => h.cell (p := ⟨x, o, none⟩) hx
  frozen := fun x o hx => h.frozen (p := ⟨x, o, none⟩) hx
  block := fun x hx _ => h.block x hx

/-- The bytes of a code. -/
def BytesAt (w : World) (R : Nat) (oa : Option Addr) (len : Nat) : Prop :=
  ∀ i, i < len → ∃ b off c, oa = some ⟨b, off, none⟩ ∧ b < w.heap.size ∧ b ≠ R ∧ w.cell? ⟨b, off + i, none⟩ = some (.int .u8 c) ∧ 0 ≤ c ∧ c ≤ 255

/-- A reader lies in block R: its code, and its place. -/
structure RdAt (w : World) (R : Nat) (oa : Option Addr) (len cap p : Nat) : Prop where
  old : R < w.heap.size
  code : w.cell? ⟨R, 0, none⟩ = some (.slice oa len cap)
  place : w.cell? ⟨R, 1, none⟩ = some (.int .i64 (p : Int))
  free : w.frozen? ⟨R, 1, none⟩ = false
  short : len ≤ 2000
  bytes : BytesAt w R oa len

theorem RdAt.keep {w w' : World} {R : Nat} {oa : Option Addr} {len cap p : Nat} (h : RdAt w R oa len cap p) (k : Below w.heap.size w w') : RdAt w' R oa len cap p where
  old := Nat.lt_of_lt_of_le h.old k.size
  code := by rw [k.cell (p := ⟨R, 0, none⟩) h.old]; exact h.code
  place := by rw [k.cell (p := ⟨R, 1, none⟩) h.old]; exact h.place
  free := by rw [k.frozen (p := ⟨R, 1, none⟩) h.old]; exact h.free
  short := h.short
  bytes := fun i hi => by
    obtain ⟨b, off, c, e, hb, hn, hc, h0, h1⟩ := h.bytes i hi
    exact ⟨b, off, c, e, Nat.lt_of_lt_of_le hb k.size, hn, by rw [k.cell (p := ⟨b, off + i, none⟩) hb]; exact hc, h0, h1⟩

theorem RdAt.step {w : World} {R : Nat} {oa : Option Addr} {len cap p : Nat} (h : RdAt w R oa len cap p) (n : Nat) : RdAt ((w.setCell ⟨R, 1, none⟩ (.int .i64 ((p : Int) + 1))).drewN n) R oa len cap (p + 1) where
  old := by simpa using h.old
  code := by
    show (w.setCell ⟨R, 1, none⟩ (.int .i64 ((p : Int) + 1))).cell? ⟨R, 0, none⟩ = _
    rw [World.cell?_setCell_other (h := fun e => by injection e with _ e2; cases e2)]; exact h.code
  place := by
    show (w.setCell ⟨R, 1, none⟩ (.int .i64 ((p : Int) + 1))).cell? ⟨R, 1, none⟩ = _
    rw [World.cell?_setCell_same (h := h.place)]; rfl
  free := by
    show (w.setCell ⟨R, 1, none⟩ (.int .i64 ((p : Int) + 1))).frozen? ⟨R, 1, none⟩ = _
    simpa using h.free
  short := h.short
  bytes := fun i hi => by
    obtain ⟨b, off, c, e, hb, hn, hc, h0, h1⟩ := h.bytes i hi
    refine ⟨b, off, c, e, by simpa using hb, hn, ?_, h0, h1⟩
    show (w.setCell ⟨R, 1, none⟩ (.int .i64 ((p : Int) + 1))).cell? ⟨b, off + i, none⟩ = _
    rw [World.cell?_setCell_other (h := fun e => hn (by injection e with e1; exact e1.symm))]; exact hc

/-- What one draw leaves. -/
def Drawn (R : Nat) (oa : Option Addr) (len cap p : Nat) (w w' : World) : Prop := RdAt w' R oa len cap p ∧ Keeps R w w'

theorem drawn_one {w : World} {R : Nat} {oa : Option Addr} {len cap p : Nat} (h : RdAt w R oa len cap p) (n : Nat) : Drawn R oa len cap (p + 1) w ((w.setCell ⟨R, 1, none⟩ (.int .i64 ((p : Int) + 1))).drewN n) :=
  ⟨h.step n, (Keeps.set 1 _).trans (Keeps.drewN n)⟩

set_option maxHeartbeats 600000 in
theorem pick_none (R : Nat) (oa : Option Addr) (len cap p : Nat) (n : Int) (w : World) (h : RdAt w R oa len cap p) (hp : p ≤ 1000000) (hn : n < 1 ∨ len = 0) :
    Calls Tryz.prog 13 #[.pointer (some ⟨R, 0, none⟩), .int .i64 n] w fun e w' => e = .returned (.int .i64 0) ∧ Drawn R oa len cap (p + 1) w w' := by
  have c0 := h.code
  have c1 := h.place
  have f1 := h.free
  have HR := hid h
  clear h
  by_cases h1 : n < 1
  · go_enter Tryz.func13, Tryz.ntmps13
    go_wp2
    go_ret
    exact ⟨rfl, drawn_one HR.out 0⟩
  · have hl : len = 0 := by omega
    subst hl
    go_enter Tryz.func13, Tryz.ntmps13
    go_wp2
    go_ret
    exact ⟨rfl, drawn_one HR.out 0⟩

set_option maxHeartbeats 600000 in
theorem pick_in (R b off : Nat) (len cap p : Nat) (n c : Int) (w : World) (h : RdAt w R (some ⟨b, off, none⟩) len cap p) (hp : p < len) (hn : 1 ≤ n)
    (hbR : b ≠ R) (hc : w.cell? ⟨b, off + p, none⟩ = some (.int .u8 c)) (hc0 : 0 ≤ c) (hc1 : c ≤ 255) :
    Calls Tryz.prog 13 #[.pointer (some ⟨R, 0, none⟩), .int .i64 n] w fun e w' => (∃ x, e = .returned (.int .i64 x) ∧ 0 ≤ x ∧ x < n) ∧ Drawn R (some ⟨b, off, none⟩) len cap (p + 1) w w' := by
  have c0 := h.code
  have c1 := h.place
  have f1 := h.free
  have hs := h.short
  have hc' : (w.setCell ⟨R, 1, none⟩ (.int .i64 ((p : Int) + 1))).cell? ⟨b, off + p, none⟩ = some (.int .u8 c) := by
    rw [World.cell?_setCell_other (h := fun e => hbR (by injection e with e1; exact e1.symm))]; exact hc
  have HR := hid h
  clear h hc
  have h1 : ¬ n < 1 := by omega
  have hl : ((len : Int) == 0) = false := by rw [beq_eq_false_iff_ne]; omega
  have hn0 : (n == 0) = false := by rw [beq_eq_false_iff_ne]; omega
  have hx : c.tmod n = c % n := Int.tmod_eq_emod_of_nonneg hc0
  have hx0 := Int.emod_nonneg c (show n ≠ 0 by omega)
  have hx1 := Int.emod_lt_of_pos c (show 0 < n by omega)
  go_enter Tryz.func13, Tryz.ntmps13
  go_wp2
  go_ret
  exact ⟨⟨_, rfl, hx0, hx1⟩, drawn_one HR.out 0⟩

theorem i64_xor (a b : Int) (h1 : 0 ≤ a) (h2 : a < 4611686018427387904) (h3 : 0 ≤ b) (h4 : b < 4611686018427387904) : 0 ≤ bits .xor .i64 a b := by
  obtain ⟨A, rfl⟩ := Int.eq_ofNat_of_zero_le h1
  obtain ⟨B, rfl⟩ := Int.eq_ofNat_of_zero_le h3
  have hx : A ^^^ B < 2 ^ 62 := Nat.xor_lt_two_pow (by omega) (by omega)
  show 0 ≤ IntKind.i64.wrap ((BitVec.ofInt 64 (A : Int) ^^^ BitVec.ofInt 64 (B : Int)).toNat : Int)
  rw [BitVec.toNat_xor, ofInt_u64 A (by omega), ofInt_u64 B (by omega), IntKind.wrap_i64]
  omega

set_option maxHeartbeats 1000000 in
theorem pick_far (R b off : Nat) (len cap p i1 i2 : Nat) (n c d : Int) (w : World) (h : RdAt w R (some ⟨b, off, none⟩) len cap p) (hp : len ≤ p) (hl0 : 0 < len) (hpb : p ≤ 1000000) (hn : 1 ≤ n)
    (hbR : b ≠ R) (hi1 : (p : Int) % len = i1) (hi2 : ((p : Int) * 7 + 3) % len = i2) (h1l : i1 < len) (h2l : i2 < len)
    (hc : w.cell? ⟨b, off + i1, none⟩ = some (.int .u8 c)) (hd : w.cell? ⟨b, off + i2, none⟩ = some (.int .u8 d)) (hc0 : 0 ≤ c) (hc1 : c ≤ 255) (hd0 : 0 ≤ d) (hd1 : d ≤ 255) :
    Calls Tryz.prog 13 #[.pointer (some ⟨R, 0, none⟩), .int .i64 n] w fun e w' => (∃ x, e = .returned (.int .i64 x) ∧ 0 ≤ x ∧ x < n) ∧ Drawn R (some ⟨b, off, none⟩) len cap (p + 1) w w' := by
  have c0 := h.code
  have c1 := h.place
  have f1 := h.free
  have hs := h.short
  have hc' : (w.setCell ⟨R, 1, none⟩ (.int .i64 ((p : Int) + 1))).cell? ⟨b, off + i1, none⟩ = some (.int .u8 c) := by
    rw [World.cell?_setCell_other (h := fun e => hbR (by injection e with e1; exact e1.symm))]; exact hc
  have hd' : (w.setCell ⟨R, 1, none⟩ (.int .i64 ((p : Int) + 1))).cell? ⟨b, off + i2, none⟩ = some (.int .u8 d) := by
    rw [World.cell?_setCell_other (h := fun e => hbR (by injection e with e1; exact e1.symm))]; exact hd
  have HR := hid h
  clear h hc hd
  have h1 : ¬ n < 1 := by omega
  have hl : ((len : Int) == 0) = false := by rw [beq_eq_false_iff_ne]; omega
  have hn0 : (n == 0) = false := by rw [beq_eq_false_iff_ne]; omega
  have ht1 : (p : Int).tmod len = i1 := by rw [Int.tmod_eq_emod_of_nonneg (by omega)]; exact hi1
  have ht2 : ((p : Int) * 7 + 3).tmod len = i2 := by rw [Int.tmod_eq_emod_of_nonneg (by omega)]; exact hi2
  have hq0 : 0 ≤ (p : Int) / len := Int.ediv_nonneg (by omega) (by omega)
  have hq1 : (p : Int) / len ≤ p := Int.ediv_le_self _ (by omega)
  go_enter Tryz.func13, Tryz.ntmps13
  go_wp2
  go_quiet (fail)
  go_wp2
  go_ret
  refine ⟨⟨_, rfl, ?_, ?_⟩, drawn_one HR.out nq⟩
  · have hy : 0 ≤ bits BinOp.xor IntKind.i64 (c * 131 + d * 1117 + (p : Int) * 29 + (p : Int) / len * 53) ((c * 131 + d * 1117 + (p : Int) * 29 + (p : Int) / len * 53) / 64) := i64_xor _ _ (by omega) (by omega) (by omega) (by omega)
    show 0 ≤ Int.tmod _ n
    rw [Int.tmod_eq_emod_of_nonneg hy]
    exact Int.emod_nonneg _ (by omega)
  · have hy : 0 ≤ bits BinOp.xor IntKind.i64 (c * 131 + d * 1117 + (p : Int) * 29 + (p : Int) / len * 53) ((c * 131 + d * 1117 + (p : Int) * 29 + (p : Int) / len * 53) / 64) := i64_xor _ _ (by omega) (by omega) (by omega) (by omega)
    show Int.tmod _ n < n
    rw [Int.tmod_eq_emod_of_nonneg hy]
    exact Int.emod_lt_of_pos _ (by omega)

/-- One draw: a number from 0 to n - 1. -/
theorem pick_any (R : Nat) (oa : Option Addr) (len cap p : Nat) (n : Int) (w : World) (h : RdAt w R oa len cap p) (hp : p ≤ 1000000) (hn : 1 ≤ n) :
    Calls Tryz.prog 13 #[.pointer (some ⟨R, 0, none⟩), .int .i64 n] w fun e w' => (∃ x, e = .returned (.int .i64 x) ∧ 0 ≤ x ∧ x < n) ∧ Drawn R oa len cap (p + 1) w w' := by
  rcases Nat.eq_zero_or_pos len with hl | hl
  · refine (pick_none R oa len cap p n w h hp (Or.inr hl)).mono ?_
    rintro e w' ⟨rfl, hd⟩
    exact ⟨⟨0, rfl, by omega, by omega⟩, hd⟩
  · by_cases hpl : p < len
    · obtain ⟨b, off, c, rfl, hb, hn', hc, h0, h1⟩ := h.bytes p hpl
      exact pick_in R b off len cap p n c w h hpl hn hn' hc h0 h1
    · have hm1 : p % len < len := Nat.mod_lt _ hl
      have hm2 : (p * 7 + 3) % len < len := Nat.mod_lt _ hl
      obtain ⟨b, off, c, rfl, hb, hn', hc, h0, h1⟩ := h.bytes _ hm1
      obtain ⟨b', off', d, e', hb', hn'', hd, h0', h1'⟩ := h.bytes _ hm2
      injection e' with e'
      injection e' with e1 e2
      subst e1 e2
      exact pick_far R b off len cap p (p % len) ((p * 7 + 3) % len) n c d w h (by omega) hl hp hn hn' (by simp) (by simp) hm1 hm2 hc hd h0 h1 h0' h1'

end Go.Proofs.YtplbfllhimcpiaaGreatDoor
