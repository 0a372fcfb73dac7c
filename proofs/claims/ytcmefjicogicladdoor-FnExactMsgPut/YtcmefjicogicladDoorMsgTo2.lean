/- DERIVED. The walks of toEntryS, eqEntry, eqEntryS. -/
import Derived.Test.YtcmefjicogicladDoorMsgTo
import Derived.Laws.MakeOwn
namespace Go.Proofs.YtcmefjicogicladDoor
open Go.RowKit

theorem OwnEnts.set {w : World} {g m k : Nat} {L : List Ent} (h : OwnEnts w g m k L) {b : Nat} (o : Nat) (v : Value) (hb : b < g) : OwnEnts (w.setCell ⟨b, o, none⟩ v) g m k L := by
  have hc : ∀ j, (w.setCell ⟨b, o, none⟩ v).cell? ⟨g, j, none⟩ = w.cell? ⟨g, j, none⟩ := fun j => by rw [World.cell?_setCell_other (h := fun e => by injection e with e1; omega)]
  exact ⟨by simpa using h.old, fun j hj => by rw [hc]; exact h.there j hj, fun j hj => by simpa using h.free j hj, fun i hi => by
    obtain ⟨h1, h2, ov, n, cv, h3, h4, h5, h6⟩ := h.ent i hi
    exact ⟨by rw [hc]; exact h1, by rw [hc]; exact h2, ov, n, cv, by rw [hc]; exact h3, h4, h5, h6.set _ _ (by omega)⟩⟩

theorem OwnEnts.new (w : World) (A : Array Value) (e m : Nat) (L : List Ent) (hA : A.size = m * 3) : OwnEnts (w.alloc (.cells A e)) w.heap.size m 0 L where
  old := by simp
  there := fun j hj => by simp [hA, hj]
  free := fun j hj => by simp
  ent := fun i hi => by omega

theorem make_ents (n : Nat) (hn : n ≤ 1048576) (w : World) : ∃ A : Array Value, A.size = n * 3 ∧ (Instr.makeSlice 28 (.int .i64 (n : Int)) (.int .i64 (n : Int))).run Tryd.prog w = .ok (.slice (some ⟨w.heap.size, 0, none⟩) n n) (w.alloc (.cells A 61)) := by
  have hi : (Tryd.prog.info? 61).map (fun i => (i.zero, i.size, i.bytes)) = some (some (.agg #[.int .i64 0, .int .i64 0, .slice none 0 0]), 3, 40) := by kernel_rfl
  obtain ⟨i, h1, hzz⟩ := Option.map_eq_some_iff.1 hi
  simp only [Prod.mk.injEq] at hzz
  obtain ⟨h2, h3, h4⟩ := hzz
  refine ⟨madeCells (Value.cells (.agg #[.int .i64 0, .int .i64 0, .slice none 0 0])) (n * 3), size_madeCells _ _, ?_⟩
  have := run_make (P := Tryd.prog) w 28 61 i _ Tryd.underlying28 h1 h2 .i64 .i64 n n (by omega) (Int.le_refl _) (by rw [h4]; omega) (by omega)
  rw [h3] at this
  simpa using this

set_option maxRecDepth 100000 in
set_option maxHeartbeats 1600000 in
theorem toES_any (oa : Option Addr) (m cap : Nat) (L : List Ent) (w : World) (hm : m = L.length) (hm2 : m ≤ 1048576) (hL : EntsAt w oa L) :
    Calls Tryd.prog 14 #[.slice oa m cap] w fun e w' => (∃ g, e = .returned (.slice (some ⟨g, 0, none⟩) m m) ∧ w.heap.size ≤ g ∧ OwnEnts w' g m m L) ∧ Below w.heap.size w w' := by
  obtain ⟨A, hA, hmk⟩ := make_ents m hm2 w
  have HA := hid hA
  have HM := hid hm
  have HL := hid hL
  clear hA hm hL
  go_enter Tryd.func14, Tryd.ntmps14
  go_wp2
  clear hmk
  go_loopw [4] (fun i w' => Below w.heap.size w w' ∧ ∃ k : Nat, k ≤ m ∧ i = .int .i64 k ∧ OwnEnts w' w.heap.size m k L) (fun i _ => m - (intOf i).toNat)
  case atStart => exact ⟨(Below.refl _ _).alloc (Nat.le_refl _) _, 0, Nat.zero_le _, rfl, OwnEnts.new w A _ m L HA.out⟩
  case round =>
    obtain ⟨hB, k, hk, rfl, hO⟩ := hrel
    have HB := hid hB
    have HO := hid hO
    have hgo := hO.old
    clear hB hO
    by_cases hlt : k < m
    · have hltI : (k : Int) < (m : Int) := by omega
      have hkv : k < L.length := by rw [← HM.out]; exact hlt
      obtain ⟨b, off, rfl, _, c0, c1, ov, n, cv, c2, hn, hn2, hN⟩ := (HL.out.below HB.out) k hkv
      have HN := hid hn
      obtain ⟨x, hx⟩ : ∃ x, x = (L.getD k (0, 0, [])).1 := ⟨_, rfl⟩
      obtain ⟨y, hy⟩ : ∃ y, y = (L.getD k (0, 0, [])).2.1 := ⟨_, rfl⟩
      obtain ⟨U, hU⟩ : ∃ U, U = (L.getD k (0, 0, [])).2.2 := ⟨_, rfl⟩
      rw [← hx] at c0
      rw [← hy] at c1
      have C : Hid (∀ w', w' = wr → Calls Tryd.prog 32 #[.agg #[.int .i64 x, .int .i64 y, .slice ov n cv]] w' fun e w2 => (∃ o1 c1, e = .returned (.agg #[.int .i64 x, .int .i64 y, .slice o1 n c1]) ∧ NumsGt wr.heap.size w2 o1 U) ∧ Below wr.heap.size wr w2) := by
        rintro w' rfl
        rw [hU]
        exact toE_any x y ov n cv _ _ hn hn2 hN
      have HX := hid hx
      have HY := hid hy
      have HU := hid hU
      clear hx hy hU hn hN hkv
      go_wp2_with fail
      refine (C.out _ rfl).mono ?_
      rintro e w1 ⟨⟨o1, cc, rfl, hN1⟩, hb⟩
      have HB1 : Hid (Below w.heap.size w w1) := HB.out.trans (hb.mono HB.out.size)
      have HO1 : Hid (OwnEnts w1 w.heap.size m k L) := HO.out.below hb
      have HN1 : Hid (NumsGt (w.heap.size + 1) w1 o1 U) := hN1.mono hgo
      obtain ⟨u0, hu0⟩ := Option.isSome_iff_exists.mp (HO1.out.there (k * 3) (by omega))
      obtain ⟨u1, hu1⟩ := Option.isSome_iff_exists.mp (HO1.out.there (k * 3 + 1) (by omega))
      obtain ⟨u2, hu2⟩ := Option.isSome_iff_exists.mp (HO1.out.there (k * 3 + 2) (by omega))
      have f0 := HO1.out.free (k * 3) (by omega)
      have f1 := HO1.out.free (k * 3 + 1) (by omega)
      have f2 := HO1.out.free (k * 3 + 2) (by omega)
      clear hb hN1 c0 c1 c2 C HO
      go_wp2
      go_roundw
      case rel =>
        refine ⟨((HB1.out.setCell (Nat.le_refl _) _).setCell (Nat.le_refl _) _).setCell (Nat.le_refl _) _, k + 1, by omega, by go_num, ?_⟩
        have := HO1.out.put (cv := cc) hlt HN.out hn2 (by rw [← HU.out]; exact HN1.out)
        rw [← HX.out, ← HY.out] at this
        exact this
      case measure => simp [intOf]; omega
    · have hltI : ¬ (k : Int) < (m : Int) := by omega
      have HE : Hid (k = m) := by show k = m; omega
      go_wp2
      go_ret
      exact ⟨⟨_, rfl, Nat.le_refl _, by have := HO.out; rw [HE.out] at this; exact this⟩, HB.out⟩

set_option maxHeartbeats 800000 in
theorem eqE_same (x y : Int) (o1 o2 : Option Addr) (n c1 c2 : Nat) (U : List Int) (w : World) (hn : n = U.length) (hn2 : n ≤ 1048576) (h1 : NumsAt w o1 U) (h2 : NumsAt w o2 U) :
    Calls Tryd.prog 42 #[.agg #[.int .i64 x, .int .i64 y, .slice o1 n c1], .agg #[.int .i64 x, .int .i64 y, .slice o2 n c2]] w fun e w' => e = .returned (.bool true) ∧ Below w.heap.size w w' := by
  have C : Hid (∀ w', Below w.heap.size w w' → Calls Tryd.prog 20 #[.slice o1 n c1, .slice o2 n c2] w' fun e w2 => e = .returned (.bool true) ∧ Below w'.heap.size w' w2) := fun w' hb => eqS_same o1 o2 c1 c2 n U w' hn hn2 (h1.below hb) (h2.below hb)
  have HB : Hid (Below w.heap.size w ((w.alloc (.cells #[.int .i64 x, .int .i64 y, .slice o1 n c1] 61)).alloc (.cells #[.int .i64 x, .int .i64 y, .slice o2 n c2] 61))) := ((Below.refl _ _).alloc (Nat.le_refl _) _).alloc (by simp) _
  clear hn h1 h2
  go_enter Tryd.func42, Tryd.ntmps42
  go_wp2_with fail
  refine (C.out _ HB.out).mono ?_
  rintro e w1 ⟨rfl, hb⟩
  have HB1 : Hid (Below w.heap.size w w1) := HB.out.trans (hb.mono HB.out.size)
  clear hb
  go_wp2
  go_ret
  exact ⟨rfl, HB1.out⟩

end Go.Proofs.YtcmefjicogicladDoor
