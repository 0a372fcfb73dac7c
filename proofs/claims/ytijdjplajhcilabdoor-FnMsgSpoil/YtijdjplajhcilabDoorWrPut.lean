/- DERIVED. The writer's method message, and MsgPut of the program. -/
import Derived.Test.YtijdjplajhcilabDoorWrEnts
import Derived.Test.YtijdjplajhcilabDoorPutSpec
namespace Go.Proofs.YtijdjplajhcilabDoor
open Go.RowKit

theorem atF_below {base b : Nat} {p : Value} {bs : List Value} {w w' : World} (h : Lib.BuilderAtF 40 5 base b p bs w) (hb : Below w.heap.size w w') : Lib.BuilderAtF 40 5 base b p bs w' := by
  have hl := h.lt
  obtain ⟨hB, v, hbk, hown, hne⟩ := h
  exact ⟨hB, v, (hb.block b hl).trans hbk, hown.kept (row := none) ⟨hb.os, hb.tape, hb.output, hb.size, fun k hk _ => hb.block k hk⟩ (by cases hv : v.ownBlock <;> simp), hne⟩

theorem wr_below {base b : Nat} {t : ByteArray} {w w' : World} (h : WrAt base b t w) (hb : Below w.heap.size w w') : WrAt base b t w' :=
  h.elim (fun x => Or.inl (atF_below x hb)) (fun x => Or.inr (atF_below x hb))

theorem wr_lt {base b : Nat} {t : ByteArray} {w : World} (h : WrAt base b t w) : b < w.heap.size := h.elim (fun x => x.lt) (fun x => x.lt)

/-- A block that is no row of bytes, and not the writer's, stays whatever is written. -/
theorem other_kept {W0 w w' : World} {b k : Nat} {t : ByteArray} {cur : Array Value} {e : TypeId} (h : Wrs W0 b t w w') (he : e ≠ 5) (hk : w.heap[k]? = some (.cells cur e (0, 0))) (hb : k ≠ b) : w'.heap[k]? = some (.cells cur e (0, 0)) :=
  h.2.2.2 k _ hk (fun e => hb (by injection e)) (fun c fz h => by injection h with _ h2 _; exact he h2)

theorem below_other {w w' : World} {k : Nat} {x : Obj} (h : w.heap[k]? = some x) (hb : Below w.heap.size w w') : w'.heap[k]? = some x := by
  rw [hb.block k (Array.getElem?_eq_some_iff.1 h).1]
  exact h

/-- A text and the first k numbers behind it, each behind a blank. -/
def numsT (d : ByteArray) (N : List Int) : Nat → ByteArray
  | 0 => d
  | k + 1 => (numsT d N k ++ ⟨#[32]⟩) ++ decI (N.getD k 0)

theorem numsT_size (d : ByteArray) (N : List Int) (hd : d.size ≤ 100) (h : ∀ k, k < 4 → 0 ≤ N.getD k 0 ∧ N.getD k 0 ≤ 9999) : ∀ k, k ≤ 4 → (numsT d N k).size ≤ 100 + 20000 * k
  | 0, _ => hd
  | k + 1, hk => by
    have ih := numsT_size d N hd h k (by omega)
    have := decI_size (N.getD k 0)
    have := h k (by omega)
    rw [numsT, ByteArray.size_append, ByteArray.size_append, size_one]
    omega

set_option maxRecDepth 100000 in
set_option maxHeartbeats 4000000 in
theorem wmsg_any (W0 w : World) (b : Nat) (kd fr tt bl ins : Int) (va la : Option Addr) (n vc m lc : Nat) (V : List Int) (L : List Ent) (ht : Tab W0) (h : WrAt W0.heap.size b ⟨#[]⟩ w) (hb : Below W0.heap.size W0 w) (hn : n = V.length) (hV : NumsAt W0 va V) (hm : m = L.length) (hL : EntsAt W0 la L) (hok : msgOkP kd fr tt bl ins V L = true) :
    Calls Tryd.prog 11 #[.pointer (some ⟨b, 0, none⟩), .agg #[.int .i64 kd, .int .i64 fr, .int .i64 tt, .int .i64 bl, .int .i64 ins, .slice va n vc, .slice la m lc]] w fun e w' => e = .returned (.tuple #[]) ∧ WrUsed W0.heap.size b (msgT kd fr tt bl ins V L) w' ∧ Below W0.heap.size W0 w' := by
  simp only [msgOkP, Bool.and_eq_true] at hok
  obtain ⟨⟨⟨⟨⟨⟨g1, g2⟩, g3⟩, g4⟩, g5⟩, g6⟩, g7⟩ := hok
  have r1 : 1 ≤ kd ∧ kd ≤ 9 := by simpa [inB] using g1
  have r2 := party_range g2
  have r3 := party_range g3
  have r4 : 0 ≤ bl ∧ bl ≤ 9999 := by simpa [inB] using g4
  have r5 : 0 ≤ ins ∧ ins ≤ 12 := by simpa [inB] using g5
  have r6 := okV_all g6
  have r7 := list_short g7
  have r8 := okTo_each L L.length g7
  have HNR : Hid (∀ k, k < 4 → 0 ≤ [fr, tt, bl, ins].getD k 0 ∧ [fr, tt, bl, ins].getD k 0 ≤ 9999) := fun k hk => by
    match k, hk with
    | 0, _ => exact ⟨by show 0 ≤ fr; omega, by show fr ≤ 9999; omega⟩
    | 1, _ => exact ⟨by show 0 ≤ tt; omega, by show tt ≤ 9999; omega⟩
    | 2, _ => exact ⟨by show 0 ≤ bl; omega, by show bl ≤ 9999; omega⟩
    | 3, _ => exact ⟨by show 0 ≤ ins; omega, by show ins ≤ 9999; omega⟩
  have HNS : Hid (∀ k, k ≤ 4 → (numsT (decI kd) [fr, tt, bl, ins] k).size ≤ 100000) := fun k hk => by
    have := numsT_size (decI kd) [fr, tt, bl, ins] (by have := decI_size kd; omega) HNR.out k hk
    omega
  have s6 := putV_size r6.1 r6.2
  have HT0 := hid ht
  have HMS : Hid (msgT kd fr tt bl ins V L = (numsT (decI kd) [fr, tt, bl, ins] 4 ++ (⟨#[32]⟩ ++ putV V)) ++ (⟨#[32]⟩ ++ putL L)) := by
    have e : numsT (decI kd) [fr, tt, bl, ins] 4 = (((((((decI kd ++ ⟨#[32]⟩) ++ decI fr) ++ ⟨#[32]⟩) ++ decI tt) ++ ⟨#[32]⟩) ++ decI bl) ++ ⟨#[32]⟩) ++ decI ins := rfl
    show msgT kd fr tt bl ins V L = _
    rw [e]
    unfold msgT
    simp only [ByteArray.append_assoc]
  have hal : Below w.heap.size w (w.alloc (.cells #[.int .i64 kd, .int .i64 fr, .int .i64 tt, .int .i64 bl, .int .i64 ins, .slice va n vc, .slice la m lc] 26)) := (Below.refl _ _).alloc (Nat.le_refl _) _
  have HX0 : Hid ((w.alloc (.cells #[.int .i64 kd, .int .i64 fr, .int .i64 tt, .int .i64 bl, .int .i64 ins, .slice va n vc, .slice la m lc] 26)).heap[w.heap.size]? = some (.cells #[.int .i64 kd, .int .i64 fr, .int .i64 tt, .int .i64 bl, .int .i64 ins, .slice va n vc, .slice la m lc] 26 (0, 0))) := new_block _ _
  have HB0 : Hid (Below W0.heap.size W0 (w.alloc (.cells #[.int .i64 kd, .int .i64 fr, .int .i64 tt, .int .i64 bl, .int .i64 ins, .slice va n vc, .slice la m lc] 26))) := hb.trans (hal.mono hb.size)
  have HA0 : Hid (WrAt W0.heap.size b ⟨#[]⟩ (w.alloc (.cells #[.int .i64 kd, .int .i64 fr, .int .i64 tt, .int .i64 bl, .int .i64 ins, .slice va n vc, .slice la m lc] 26))) := wr_below h hal
  have HNB : Hid (w.heap.size ≠ b) := by have := wr_lt h; show _ ≠ _; omega
  have CI : Hid (∀ w', Below W0.heap.size W0 w' → Calls Tryd.prog 28 #[.int .i64 kd] w' fun e w2 => e = .returned (.string (decI kd)) ∧ Below w'.heap.size w' w2) := fun w' hb' => itoaI_any kd w' (by omega) (by omega) (ht.below hb')
  have CW : Hid (∀ w', WrAt W0.heap.size b ⟨#[]⟩ w' → Below W0.heap.size W0 w' → Calls Tryd.prog 27 #[.pointer (some ⟨b, 0, none⟩), .string (decI kd)] w' fun e w2 => (∃ v, e = .returned v) ∧ Wrs W0 b (decI kd) w' w2) := fun w' ha hb' => (string_any W0.heap.size b ⟨#[]⟩ (decI kd) w' ha hb'.size (by show (0 : Nat) ≤ _; omega) (by have := decI_size kd; omega)).mono fun e w2 he => ⟨he.1, by have := Wrs.of hb' he.2; rw [empty_app] at this; exact this⟩
  have CV : Hid (∀ w' t, WrUsed W0.heap.size b t w' → Below W0.heap.size W0 w' → t.size ≤ 100000 → Calls Tryd.prog 29 #[.pointer (some ⟨b, 0, none⟩), .int .u8 32, .slice va n vc] w' fun e w2 => e = .returned (.tuple #[]) ∧ Wrs W0 b (t ++ (⟨#[32]⟩ ++ putV V)) w' w2) := fun w' t ha hb' hs => wvotes_any W0 w' b t 32 32 va vc n V ht ha hb' (by omega) rfl hn (by omega) r6.2 hV
  have CL : Hid (∀ w' t, WrUsed W0.heap.size b t w' → Below W0.heap.size W0 w' → t.size ≤ 200000 → Calls Tryd.prog 30 #[.pointer (some ⟨b, 0, none⟩), .int .u8 32, .slice la m lc] w' fun e w2 => e = .returned (.tuple #[]) ∧ Wrs W0 b (t ++ (⟨#[32]⟩ ++ putL L)) w' w2) := fun w' t ha hb' hs => wents_any W0 w' b t 32 32 la lc m L ht ha hb' (by omega) rfl hm (by omega) r8 hL
  have HS4 : Hid ((numsT (decI kd) [fr, tt, bl, ins] 4 ++ (⟨#[32]⟩ ++ putV V)).size ≤ 200000) := by
    show _ ≤ _
    have := HNS.out 4 (by omega)
    rw [ByteArray.size_append, ByteArray.size_append, size_one]
    omega
  obtain ⟨d, hd⟩ : ∃ d, d = decI kd := ⟨_, rfl⟩
  rw [← hd] at HNS HMS CI CW HS4
  rw [HMS.out]
  clear hal h hb hn hV hm hL g1 g2 g3 g4 g5 g6 g7 r1 r2 r3 r4 r5 r6 r7 r8 s6 hd ht HMS
  go_enter Tryd.func11, Tryd.ntmps11
  have b0 := cell_in HX0.out 0
  simp at b0
  go_wp2_with fail
  refine wp_region_any (by kernel_rfl) ?_
  change wpAny _ _ _ _ _ _ _ (World.drew _)
  refine take_on 0 (v := ?_) rfl rfl (by kernel_rfl) (by kernel_rfl) (by kernel_rfl) (fun _ _ _ h => h) (by rfl) (fun w => ?_) ?_
  rotate_left
  · (go_simp; try with_reducible rfl)
  simp only [List.setIfInBounds_toArray, List.set_cons_zero, List.set_cons_succ]
  refine take_on 1 (v := ?_) rfl rfl (by kernel_rfl) (by kernel_rfl) (by kernel_rfl) (fun _ _ _ h => h) (by rfl) (fun w => ?_) ?_
  rotate_left
  · (go_simp; try with_reducible rfl)
  simp only [List.setIfInBounds_toArray, List.set_cons_zero, List.set_cons_succ]
  refine take_on 2 (v := ?_) rfl rfl (by kernel_rfl) (by kernel_rfl) (by kernel_rfl) (fun _ _ _ h => h) (by rfl) (fun w => ?_) ?_
  rotate_left
  · (go_simp; try with_reducible rfl)
  simp only [List.setIfInBounds_toArray, List.set_cons_zero, List.set_cons_succ]
  refine take_on 3 (v := ?_) rfl rfl (by kernel_rfl) (by kernel_rfl) (by kernel_rfl) (fun _ _ _ h => h) (by rfl) (fun w => ?_) ?_
  rotate_left
  · (go_simp; try with_reducible rfl)
  simp only [List.setIfInBounds_toArray, List.set_cons_zero, List.set_cons_succ]
  refine wpAny_ready (rs := [4]) (by kernel_rfl) (by simp) (AllReady.cons rfl (fun K hK => ?_) AllReady.nil)
  go_simp
  refine hK _ _ ?_
  clear hK K
  refine wpAny_ready (rs := [5]) (by kernel_rfl) (by simp) (AllReady.cons rfl (fun K hK => ?_) AllReady.nil)
  go_simp
  go_wp2_with fail
  refine (CI.out _ HB0.out.drew).mono ?_
  rintro e w2 ⟨rfl, hb2⟩
  have HB2 := hid (HB0.out.drew.trans (hb2.mono HB0.out.size))
  have HA2 := hid (wr_below (wr_below HA0.out (Below.refl _ _).drew) hb2)
  have HX2 := hid (below_other (below_other HX0.out (Below.refl _ _).drew) hb2)
  clear hb2
  refine hK _ _ ?_
  clear hK K
  refine wpAny_ready (rs := [6]) (by kernel_rfl) (by simp) (AllReady.cons rfl (fun K hK => ?_) AllReady.nil)
  go_simp
  go_wp2_with fail
  refine (CW.out _ HA2.out HB2.out).mono ?_
  rintro e w3 ⟨⟨v, rfl⟩, hw⟩
  have HW3 : Hid (Wrs W0 b d w3 w3) := ⟨hw.1, hw.2.1, WrFrame.refl _ _ _⟩
  have HX3 := hid (other_kept hw (by decide) HX2.out HNB.out)
  clear hw
  refine hK _ _ ?_
  clear hK K
  refine wpAny_done (by kernel_rfl) ?_ _
  have x0 := cell_in HX3.out 0
  have x1 := cell_in HX3.out 1
  have x2 := cell_in HX3.out 2
  have x3 := cell_in HX3.out 3
  have x4 := cell_in HX3.out 4
  have x5 := cell_in HX3.out 5
  have x6 := cell_in HX3.out 6
  simp at x0 x1 x2 x3 x4 x5 x6
  have hal : Below w3.heap.size w3 (w3.alloc (.cells #[.int .i64 fr, .int .i64 tt, .int .i64 bl, .int .i64 ins] 3)) := (Below.refl _ _).alloc (Nat.le_refl _) _
  have HWA : Hid (Wrs W0 b d (w3.alloc (.cells #[.int .i64 fr, .int .i64 tt, .int .i64 bl, .int .i64 ins] 3)) (w3.alloc (.cells #[.int .i64 fr, .int .i64 tt, .int .i64 bl, .int .i64 ins] 3))) := ⟨(HW3.out.below hal).1, (HW3.out.below hal).2.1, WrFrame.refl _ _ _⟩
  have HXA := hid (below_other HX3.out hal)
  have HYA : Hid ((w3.alloc (.cells #[.int .i64 fr, .int .i64 tt, .int .i64 bl, .int .i64 ins] 3)).heap[w3.heap.size]? = some (.cells #[.int .i64 fr, .int .i64 tt, .int .i64 bl, .int .i64 ins] 3 (0, 0))) := new_block _ _
  have HNY : Hid (w3.heap.size ≠ b) := by have := HW3.out.1.lt; show _ ≠ _; omega
  clear hal HB0 HA0 HX0 b0
  go_wp2
  clear x0 x1 x2 x3 x4 x5 x6
  go_loopw [23] (fun i wr => ∃ k : Nat, k ≤ 4 ∧ i = .int .i64 k ∧ Hid (WrUsed W0.heap.size b (numsT d [fr, tt, bl, ins] k) wr) ∧ Hid (Below W0.heap.size W0 wr) ∧ Hid (wr.heap[w.heap.size]? = some (.cells #[.int .i64 kd, .int .i64 fr, .int .i64 tt, .int .i64 bl, .int .i64 ins, .slice va n vc, .slice la m lc] 26 (0, 0))) ∧ Hid (wr.heap[w3.heap.size]? = some (.cells #[.int .i64 fr, .int .i64 tt, .int .i64 bl, .int .i64 ins] 3 (0, 0)))) (fun i _ => 4 - (intOf i).toNat)
  case atStart => exact ⟨0, Nat.zero_le _, rfl, HWA.out.1, HWA.out.2.1, HXA, HYA⟩
  case round =>
    obtain ⟨k, hk, rfl, HU, HBR, HX, HY⟩ := hrel
    by_cases hlt : k < 4
    · have hltI : (k : Int) < 4 := by omega
      have hk0I : (0 : Int) ≤ (k : Int) := by omega
      have hr := HNR.out k hlt
      have hs := HNS.out k hk
      have hc : wr.cell? ⟨w3.heap.size, k, none⟩ = some (.int .i64 ([fr, tt, bl, ins].getD k 0)) := by
        rw [cell_in HY.out k]
        match k, hlt with
        | 0, _ => rfl
        | 1, _ => rfl
        | 2, _ => rfl
        | 3, _ => rfl
      have HNX : Hid (numsT d [fr, tt, bl, ins] (k + 1) = (numsT d [fr, tt, bl, ins] k ++ ⟨#[32]⟩) ++ decI ([fr, tt, bl, ins].getD k 0)) := rfl
      obtain ⟨x, hx⟩ : ∃ x, x = [fr, tt, bl, ins].getD k 0 := ⟨_, rfl⟩
      rw [← hx] at hc hr HNX
      have CN : Hid (Calls Tryd.prog 12 #[.pointer (some ⟨b, 0, none⟩), .int .u8 32, .int .i64 x] wr fun e w' => e = .returned (.tuple #[]) ∧ Wrs W0 b (numsT d [fr, tt, bl, ins] (k + 1)) wr w') := by rw [HNX.out]; exact number_any W0 wr b _ 32 32 x HT0.out HU.out.at HBR.out (by omega) rfl (by omega) (by omega)
      clear hx hr hs HNX
      go_wp2_with fail
      refine CN.out.mono ?_
      rintro e w4 ⟨rfl, hw⟩
      have HU4 := hid hw.1
      have HB4 := hid hw.2.1
      have HX4 := hid (other_kept hw (by decide) HX.out HNB.out)
      have HY4 := hid (other_kept hw (by decide) HY.out HNY.out)
      clear hw
      go_wp2
      go_roundw
      case rel => exact ⟨k + 1, by omega, by go_num, HU4, HB4, HX4, HY4⟩
      case measure => simp [intOf]; omega
    · have hltI : ¬ (k : Int) < 4 := by omega
      have hk4 : k = 4 := by omega
      subst hk4
      have x5 := cell_in HX.out 5
      simp at x5
      go_wp2_with fail
      refine (CV.out _ _ HU.out HBR.out (HNS.out 4 hk)).mono ?_
      rintro e w4 ⟨rfl, hw⟩
      have HU4 := hid hw.1
      have HB4 := hid hw.2.1
      have HX4 := hid (other_kept hw (by decide) HX.out HNB.out)
      have x6 := cell_in HX4.out 6
      simp at x6
      clear hw
      go_wp2_with fail
      refine (CL.out _ _ HU4.out HB4.out HS4.out).mono ?_
      rintro e w5 ⟨rfl, hw⟩
      have HU5 := hid hw.1
      have HB5 := hid hw.2.1
      clear hw
      go_wp2
      go_end0
      exact ⟨rfl, HU5.out, HB5.out⟩

theorem wr_new (W : World) : WrAt W.heap.size W.heap.size ⟨#[]⟩ (W.alloc (.cells #[.pointer none, .slice none 0 0] 40)) :=
  Or.inl ⟨Nat.le_refl _, .slice none 0 0, new_block _ _, ⟨rfl, Or.inl ⟨rfl, rfl⟩⟩, by simp [Value.ownBlock]⟩

theorem msgT_size {kd fr tt bl ins : Int} {V : List Int} {L : List Ent} (hok : msgOkP kd fr tt bl ins V L = true) : 0 < (msgT kd fr tt bl ins V L).size ∧ (msgT kd fr tt bl ins V L).size ≤ 1000000 := by
  simp only [msgOkP, Bool.and_eq_true] at hok
  obtain ⟨⟨⟨⟨⟨⟨g1, g2⟩, g3⟩, g4⟩, g5⟩, g6⟩, g7⟩ := hok
  have r1 : 1 ≤ kd ∧ kd ≤ 9 := by simpa [inB] using g1
  have r2 := party_range g2
  have r3 := party_range g3
  have r4 : 0 ≤ bl ∧ bl ≤ 9999 := by simpa [inB] using g4
  have r5 : 0 ≤ ins ∧ ins ≤ 12 := by simpa [inB] using g5
  have r6 := okV_all g6
  have s1 := decI_size kd
  have s2 := decI_size fr
  have s3 := decI_size tt
  have s4 := decI_size bl
  have s5 := decI_size ins
  have s6 := putV_size r6.1 r6.2
  have s7 := putL_size (list_short g7) (okTo_each L L.length g7)
  have s0 := decI_pos kd
  unfold msgT
  simp only [ByteArray.size_append, size_one]
  omega

set_option maxRecDepth 100000 in
set_option maxHeartbeats 3200000 in
theorem implMsgPut_any (kd fr tt bl ins : Int) (va la : Option Addr) (n vc m lc : Nat) (V : List Int) (L : List Ent) (w : World) (ht : Tab w) (hn : n = V.length) (hn2 : n ≤ 1048576) (hV : NumsAt w va V) (hm : m = L.length) (hm2 : m ≤ 1048576) (hL : EntsAt w la L) :
    Calls Tryd.prog 5 #[.agg #[.int .i64 kd, .int .i64 fr, .int .i64 tt, .int .i64 bl, .int .i64 ins, .slice va n vc, .slice la m lc]] w fun e w' => e = .returned (.string (putText kd fr tt bl ins V L)) ∧ Below w.heap.size w w' := by
  obtain ⟨c, hc⟩ : ∃ c, c = msgOkP kd fr tt bl ins V L := ⟨_, rfl⟩
  have HB0 : Hid (Below w.heap.size w (w.alloc (.cells #[.int .i64 kd, .int .i64 fr, .int .i64 tt, .int .i64 bl, .int .i64 ins, .slice va n vc, .slice la m lc] 26))) := (Below.refl _ _).alloc (Nat.le_refl _) _
  have CO : Hid (∀ w', Below w.heap.size w w' → Calls Tryd.prog 10 #[.agg #[.int .i64 kd, .int .i64 fr, .int .i64 tt, .int .i64 bl, .int .i64 ins, .slice va n vc, .slice la m lc]] w' fun e w2 => e = .returned (.bool c) ∧ Below w'.heap.size w' w2) := fun w' hb => by rw [hc]; exact implMsgOk_any kd fr tt bl ins va la n vc m lc V L w' hn hn2 (hV.below hb) hm hm2 (hL.below hb)
  cases c
  · have HE : Hid (putText kd fr tt bl ins V L = (⟨#[]⟩ : ByteArray)) := by show _ = _; unfold putText; rw [← hc]; rfl
    clear hc hn hV hm hL ht
    go_enter Tryd.func5, Tryd.ntmps5
    go_wp2_with fail
    refine (CO.out _ HB0.out).mono ?_
    rintro e w1 ⟨rfl, hb⟩
    have HB1 : Hid (Below w.heap.size w w1) := HB0.out.trans (hb.mono HB0.out.size)
    clear hb
    go_wp2
    go_ret
    exact ⟨by rw [HE.out]; rfl, HB1.out⟩
  · have HOK := hid hc.symm
    have hms := msgT_size hc.symm
    have HP : Hid (putText kd fr tt bl ins V L = (msgT kd fr tt bl ins V L ++ ⟨#[32]⟩) ++ decI (crcP (msgT kd fr tt bl ins V L) : Nat)) := by show _ = _; unfold putText; rw [← hc]; rfl
    have CM : Hid (∀ W, Below w.heap.size w W → Calls Tryd.prog 11 #[.pointer (some ⟨W.heap.size, 0, none⟩), .agg #[.int .i64 kd, .int .i64 fr, .int .i64 tt, .int .i64 bl, .int .i64 ins, .slice va n vc, .slice la m lc]] (W.alloc (.cells #[.pointer none, .slice none 0 0] 40)) fun e w' => e = .returned (.tuple #[]) ∧ WrUsed W.heap.size W.heap.size (msgT kd fr tt bl ins V L) w' ∧ Below W.heap.size W w') := fun W hb => wmsg_any W _ W.heap.size kd fr tt bl ins va la n vc m lc V L (ht.below hb) (wr_new W) ((Below.refl _ _).alloc (Nat.le_refl _) _) hn (hV.below hb) hm (hL.below hb) HOK.out
    have HT := hid ht
    obtain ⟨p, hp⟩ : ∃ p, p = msgT kd fr tt bl ins V L := ⟨_, rfl⟩
    rw [← hp] at hms HP CM
    have hcl := crcP_lt p
    have CC := hid (fun W => implCrc_any p W (by unfold maxLen; omega))
    obtain ⟨s, hs⟩ : ∃ s, s = crcP p := ⟨_, rfl⟩
    rw [← hs] at hcl CC HP
    obtain ⟨q, hq⟩ : ∃ q, q = (p ++ (⟨#[32]⟩ : ByteArray)) ++ decI (s : Nat) := ⟨_, rfl⟩
    have CN : Hid (∀ W W' b, Below w.heap.size w W → WrUsed W.heap.size b p W' → Below W.heap.size W W' → Calls Tryd.prog 12 #[.pointer (some ⟨b, 0, none⟩), .int .u8 32, .int .i64 (s : Nat)] W' fun e w' => e = .returned (.tuple #[]) ∧ Wrs W b q W' w') := fun W W' b h1 h2 h3 => by rw [hq]; exact number_any W W' b p 32 32 (s : Nat) (HT.out.below h1) h2.at h3 (by omega) rfl (by omega) (by omega)
    have hqs : 0 < q.size := by rw [hq, ByteArray.size_append, ByteArray.size_append]; omega
    rw [← hq] at HP
    have hps : 0 < p.size := hms.1
    clear hc hn hV hm hL hms hp hs hq hcl ht HOK
    go_enter Tryd.func5, Tryd.ntmps5
    go_wp2_with fail
    refine (CO.out _ HB0.out).mono ?_
    rintro e w1 ⟨rfl, hb⟩
    have HB1 : Hid (Below w.heap.size w w1) := HB0.out.trans (hb.mono HB0.out.size)
    have HX1 := hid (below_other (new_block w (.cells #[.int .i64 kd, .int .i64 fr, .int .i64 tt, .int .i64 bl, .int .i64 ins, .slice va n vc, .slice la m lc] 26)) hb)
    have hlt : w.heap.size < w1.heap.size := (Array.getElem?_eq_some_iff.1 HX1.out).1
    have x0 := cell_in HX1.out 0
    have x1 := cell_in HX1.out 1
    have x2 := cell_in HX1.out 2
    have x3 := cell_in HX1.out 3
    have x4 := cell_in HX1.out 4
    have x5 := cell_in HX1.out 5
    have x6 := cell_in HX1.out 6
    simp at x0 x1 x2 x3 x4 x5 x6
    clear hb
    go_wp2_with fail
    refine (CM.out _ HB1.out).mono ?_
    rintro e w2 ⟨rfl, hu, hb⟩
    have HU2 := hid hu
    have HB2 := hid hb
    clear hu hb x0 x1 x2 x3 x4 x5 x6
    go_wp2_with fail
    refine (text_any _ _ p _ HU2.out hps).mono ?_
    rintro e w3 ⟨rfl, hu, hf⟩
    have HU3 := hid hu
    have HB3 := hid (HB2.out.trans hf.1)
    clear hu hf
    go_wp2_with fail
    refine (CC.out _).mono ?_
    rintro e w4 ⟨rfl, hw4⟩
    rw [hw4]
    clear hw4
    clear w4
    go_wp2_with fail
    refine (CN.out _ _ _ HB1.out HU3.out HB3.out).mono ?_
    rintro e w5 ⟨rfl, hw⟩
    have HU5 := hid hw.1
    have HB5 := hid hw.2.1
    clear hw
    go_wp2_with fail
    refine (text_any _ _ q _ HU5.out hqs).mono ?_
    rintro e w6 ⟨rfl, hu, hf⟩
    have HB6 : Hid (Below w.heap.size w w6) := HB1.out.trans ((HB5.out.trans hf.1).mono HB1.out.size)
    clear hu hf
    go_wp2
    go_ret
    exact ⟨by rw [HP.out]; rfl, HB6.out⟩

end Go.Proofs.YtijdjplajhcilabDoor
