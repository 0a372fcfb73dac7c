/- DERIVED. The program's walk: a log is read. -/
import Derived.RangeFuncBox
import Derived.Maps.AppendAt
import Derived.Deep.Onto
import Derived.Test.YtplbfllhimcpiaaGreatDoorLogIter
import Derived.Deep.QuietTactic
import Derived.BigQuiet
namespace Go.Proofs.YtplbfllhimcpiaaGreatDoor
open Go.RowKit Go.Shelf

attribute [local go_sem] Oper.semAt_some

theorem keepsB_b {n₀ : Nat} {w : World} (hn : n₀ ≤ w.heap.size) (W : World) (l : Nat) (o o' : Obj) (hl : w.heap.size ≤ l) (h : W.heap[l]? = some o) (hc : o.isCells = false) (hw : o.isWalk = false) : Below n₀ W (W.putObj l o') :=
  belowK_b hn W l o o' hl h hc hw

theorem ownsRow_below {W W' : World} {base : Nat} {e : TypeId} {size : Nat} {v : Value} {k : Nat} {xs : List Value} (h : W.ownsRow base e size v k xs) (hb : Below W.heap.size W W') : W'.ownsRow base e size v k xs := by
  refine h.kept (row := none) ⟨hb.os, hb.tape, hb.output, hb.size, fun i hi _ => hb.block i hi⟩ ?_
  rcases h.2 with ⟨rfl, _⟩ | ⟨g, cap, cur, rfl, _⟩
  · exact .inl rfl
  · exact .inr (by simp [Value.ownBlock])

theorem boxed_below {W W' : World} {B : Nat} {t : TypeId} {v : Value} (h : Boxed W B t v) (hb : Below W.heap.size W W') : Boxed W' B t v := (hb.block B h.lt).trans h

theorem others_below {W W' : World} (hb : Below W.heap.size W W') : KeepsOthers W W' :=
  KeepsOthers.of_grownBy (row := none) ⟨hb.os, hb.tape, hb.output, hb.size, fun i hi _ => hb.block i hi⟩ (fun j o ej _ => by cases ej)

theorem collect_box {W w1 : World} {n₀ B : Nat} {t e : TypeId} {size k : Nat} {v u : Value} {xs : List Value} {tmp : Obj} (h : Boxed W B t u) (hte : t ≠ e) (hrow : W.ownsRow n₀ e size v k xs) (hgrow : (W.alloc tmp).grownBy w1 v.ownBlock) : Boxed w1 B t u :=
  (h.alloc tmp).kept hgrow (h.not_row hte hrow)

theorem region_then {P : Program} {c : Code} {K : Act → World → Prop} {Q : Exit → Act → World → Prop} {a : Act} {w : World} (h : c.wp P (Exit.then K (fun _ _ _ => False)) a w) : c.wp P (Exit.then K Q) a w :=
  wp_mono h (fun e a w hq => by cases e <;> first | exact hq | exact False.elim hq)

theorem row_set {W : World} {n₀ B : Nat} {t e : TypeId} {size k : Nat} {v u : Value} {xs : List Value} (h : W.ownsRow n₀ e size v k xs) (hb : Boxed W B t u) (hte : t ≠ e) (u' : Value) : (W.setCell ⟨B, 0, none⟩ u').ownsRow n₀ e size v k xs :=
  h.kept (grownBy_setCell' W B u') (.inr (fun c => hb.not_row hte h c.symm))

theorem sizeR_snoc (a : List ByteArray) (r : ByteArray) : sizeR (a ++ [r]) = sizeR a + (putR r).size := by rw [sizeR_append]; simp [sizeR]

theorem putR_small {r : ByteArray} (h : r.size ≤ 60) : (putR r).size ≤ 124 := by
  have := decS_size r.size
  rw [putR_size]; omega

theorem sizeR_small (pre : List Rec) : sizeR (pre.map (·.1)) ≤ 124 * pre.length := by
  induction pre with
  | nil => simp [sizeR]
  | cons x t ih =>
    have := putR_small (recOk_size x.2).2
    simp only [List.map_cons, sizeR, List.length_cons]
    omega

/-- What lies between two rounds: the records so far, and how many bytes they take. -/
def Between (w : World) (pre : List Rec) (W : World) : Prop :=
  (∃ v, Boxed W w.heap.size 76 v ∧ W.ownsRow w.heap.size 9 1 v pre.length (pre.map (fun i => Value.string i.1)) ∧ True) ∧ (Boxed W (w.heap.size + 1) 3 (.int .i64 ((sizeR (pre.map (·.1)) : Nat) : Int)) ∧ Below w.heap.size w W)

theorem between_own (w : World) (B : Nat) (hB : w.heap.size ≤ B) : OwnFrom B (Between w) :=
  OwnFrom.and (Own.from (holdsRow_own w.heap.size w.heap.size 76 9 1 (fun pre : List Rec => pre.length) (fun pre => pre.map (fun i => Value.string i.1)) (fun _ _ => True)) _)
    (OwnFrom.and (Own.from (boxed_own _ _ (fun pre : List Rec => .int .i64 ((sizeR (pre.map (·.1)) : Nat) : Int))) _) (ownFrom_below (Nat.le_refl _) hB))

theorem infoStr : (Tryz.prog.info? 9).map (fun i => (i.zero, i.size, i.bytes)) = some (some (.string ⟨#[]⟩), 1, 16) := by kernel_rfl

set_option maxRecDepth 100000 in
set_option maxHeartbeats 4000000 in
theorem implRead_in (s : ByteArray) (w : World) (hs : s.size ≤ 6000) (ht : Tab w) :
    CallsIn Fence.wide 9 Tryz.prog 52 #[.string s] w fun e w' => ∃ v, e = .returned (.tuple #[v, .int .i64 (sizeR (readS s) : Nat)]) ∧ w'.ownsRow w.heap.size 9 1 v (readS s).length ((readS s).map Value.string) ∧ Below w.heap.size w w' := by
  obtain ⟨i0, hi, hz0, hz1, hz2⟩ := info_parts infoStr
  have HT := hid ht
  clear ht
  have hmax : (9223372036854775807 : Nat) = maxLen := rfl
  have h6 : ¬ (s.size : Int) > 6000 := by omega
  refine callsIn_of_wp_marks Tryz.func52 rfl trivial ?_ rfl
  simp only [Tryz.ntmps52, List.size_toArray, List.length_cons, List.length_nil, Nat.reduceAdd, Nat.reduceSub, Array.replicate_succ, Array.replicate_zero, List.push_toArray, List.append_toArray, List.nil_append, List.cons_append]
  gi_wp2_with (refine ⟨trivial, ?_⟩; gi_at_call 87; refine (callsIn_wide.2 (records_any _ _)).mono ?_; rintro e w' ⟨rfl, rfl⟩)
  obtain ⟨W0, hW0⟩ : ∃ W0, (((w.alloc (.cells #[.slice none 0 0] 76)).alloc (.cells #[.int .i64 0] 3)).alloc (.cells #[.string s] 9)) = W0 := ⟨_, rfl⟩
  have bO : Boxed W0 w.heap.size 76 (.slice none 0 0) := by rw [← hW0]; exact ((Boxed.new w _ _).alloc _).alloc _
  have b1 : Boxed W0 (w.heap.size + 1) 3 (.int .i64 0) := by
    rw [← hW0]
    have := (Boxed.new (w.alloc (.cells #[.slice none 0 0] 76)) 3 (.int .i64 0)).alloc (.cells #[.string s] 9)
    rw [World.size_alloc] at this; exact this
  have b2 : Boxed W0 (w.heap.size + 1 + 1) 9 (.string s) := by
    rw [← hW0]
    have := Boxed.new ((w.alloc (.cells #[.slice none 0 0] 76)).alloc (.cells #[.int .i64 0] 3)) 9 (.string s)
    rw [World.size_alloc, World.size_alloc] at this; exact this
  have hB0 : Below w.heap.size w W0 := by rw [← hW0]; exact (((Below.refl _ w).alloc (Nat.le_refl _) _).alloc (by simp) _).alloc (by simp; omega) _
  have hsz : W0.heap.size = w.heap.size + 3 := by rw [← hW0]; simp
  try rw [hW0]
  refine wpIn_rangeFunc_ownG rfl (by omega) (gf := 106) (lb := #[.pointer (some ⟨w.heap.size + 1 + 1, 0, none⟩)]) rfl trivial (enters_of Tryz.func106 (by kernel_rfl) rfl)
    (records_stops 8 (by omega) (w.heap.size + 1 + 1) w.heap.size s hs W0 (by omega) (by omega) (fun W' h => HT.out.below (hB0.trans h)) b2.cell) Below.trans (keepsB_b (by omega)) (Below.refl _ _) (fun _ => rfl)
    (Between w)
    (fun _ _ _ => False)
    (between_own _ _ (by omega))
    (fun _ _ _ _ _ hs _ _ => hs)
    ⟨⟨_, bO, World.ownsRow_nil _ _ _ _, trivial⟩, b1, hB0⟩
    (fun x => { tmps := #[.string s, undef, .slice none 0 0, .int .i64 0, .pointer (some ⟨w.heap.size, 0, none⟩), .pointer (some ⟨w.heap.size + 1, 0, none⟩), .string x.1, .string s, .int .i64 (s.size : Int), .bool false, .string s, .func (.func 106) #[] #[.pointer (some ⟨w.heap.size + 1 + 1, 0, none⟩)], .string x.1, undef, undef, undef, undef, undef, undef, undef, undef, undef, undef, undef], defers := [] }) ?assign ?body ?done ?stop
  case assign =>
    intro l x W K hK
    unfold handedR
    gi_wp2
    exact hK
  case body =>
    rintro l pre ⟨r, hr⟩ W ⟨⟨v, hv, hrow, _⟩, bZ, hBW⟩ hlt
    have HBW := hid hBW
    clear hBW
    have HTW : Hid (∀ W', Below w.heap.size W W' → Tab W') := fun W' h => HT.out.below (HBW.out.trans h)
    have hr60 := (recOk_size hr).2
    have hp124 := putR_small hr60
    have hsm := sizeR_small pre
    have HSN : Hid (sizeR ((pre ++ [(⟨r, hr⟩ : Rec)]).map (·.1)) = sizeR (pre.map (·.1)) + (putR r).size) := by show _ = _; rw [List.map_append]; exact sizeR_snoc _ r
    obtain ⟨p, hp⟩ : ∃ p, p = putR r := ⟨_, rfl⟩
    have CP : Hid (∀ w' : World, Tab w' → Calls Tryz.prog 88 #[.string r] w' fun e w2 => e = .returned (.string p) ∧ Below w'.heap.size w' w2) := fun w' ht => by rw [hp]; exact recordPut_any r w' (by omega) ht
    rw [← hp] at hp124 HSN
    obtain ⟨z, hz⟩ : ∃ z, z = sizeR (pre.map (·.1)) := ⟨_, rfl⟩
    rw [← hz] at hsm HSN bZ
    have hpl : pre.length < 6000 := by omega
    have hzp : ((z : Int) + (p.size : Int)) ≤ 1000000 := by omega
    clear hp hz
    dsimp only
    have hcv := hv.cell
    have hmx : Tryz.prog.follows .mixedOrders = true := by kernel_rfl
    gi_wp2_with (gi_at_builtin; refine wpListIn_append_own _ rfl _ _ 76 rfl w.heap.size 9 i0 (.string ⟨#[]⟩) 1 16 Tryz.underlying76 hi hz0 hz1 hz2 rfl (by decide) _ _ _ rfl (hrow.alloc _) ⟨W.heap.size, 0, none⟩ 1 1 [.string r] rfl rfl (cell_one_new _ _ _) (by simp [Value.oneCell']) (by omega) (by omega) (by have := HBW.out.size; simp; omega) ?_; intro v' wz hown' hgrow _; obtain ⟨g', cap', rfl⟩ := ownsRow_succ hown'; obtain ⟨hv1, hv2, hr2, hk2, hb2⟩ := hv.appended (by decide) hrow HBW.out.size (Nat.le_refl _) hown' hgrow; have bZ1 := collect_box bZ (by decide) hrow hgrow; have hc1 := hv1.cell; have hf1 := hv1.frozen)
    have bZ2 := bZ1.other (B' := w.heap.size) (by omega) (.slice (some ⟨g', 0, none⟩) (pre.length + 1) cap')
    obtain ⟨W2, hW2⟩ : ∃ W2, W2 = wz.setCell ⟨w.heap.size, 0, none⟩ (.slice (some ⟨g', 0, none⟩) (pre.length + 1) cap') := ⟨_, rfl⟩
    rw [← hW2] at hv2 hr2 hk2 hb2 bZ2 ⊢
    have HB2 : Hid (Below w.heap.size w W2) := HBW.out.trans hb2
    have HK2 := hid hk2
    have HBB := hid hb2
    have HR2 := hid hr2
    have HS2 := hid HB2.out.size
    clear hW2 hk2 hb2 hr2 hc1 hf1 bZ1 hv1 hcv hown' hgrow hrow hv bZ
    have hcz := bZ2.cell
    have hfz := bZ2.frozen
    refine wpIn_region_any hmx ?_
    change wpAnyIn _ _ _ _ _ _ _ _ _ (World.drew _)
    refine wpAnyIn_ready (rs := [0, 1]) (by kernel_rfl) (by simp) (AllReadyIn.cons rfl (fun K hK => ?_) (AllReadyIn.cons rfl (fun K hK => ?_) AllReadyIn.nil))
    · go_simp
      refine hK _ _ ?_
      clear hK K
      refine wpAnyIn_ready (rs := [1]) (by kernel_rfl) (by simp) (AllReadyIn.cons rfl (fun K hK => ?_) AllReadyIn.nil)
      · go_simp
        refine hK _ _ ?_
        clear hK K
        refine wpAnyIn_ready (rs := [2]) (by kernel_rfl) (by simp) (AllReadyIn.cons rfl (fun K hK => ?_) AllReadyIn.nil)
        · go_simp
          gi_wp2_with fail
          refine ⟨trivial, ?_⟩
          refine (CallsIn.inRound l (callsIn_wide.2 (CP.out _ (HTW.out _ (HBB.out.drew))))).mono ?_
          rintro e w3 ⟨rfl, hb3'⟩
          have hb3 : Below W2.heap.size W2 w3 := ((Below.refl _ _).drew).trans hb3'
          have HB3 : Hid (Below w.heap.size w w3) := HB2.out.trans (hb3.mono HB2.out.size)
          have hv3 := boxed_below hv2 hb3
          have bZ3 := boxed_below bZ2 hb3
          have HO3 := hid (others_below hb3)
          have HBB3 := hid (HBB.out.trans (hb3.mono HB2.out.size))
          have hrow3 := ownsRow_below HR2.out hb3
          have hcz3 := bZ3.cell
          have hfz3 := bZ3.frozen
          clear hb3 hb3' CP
          refine hK _ _ ?_
          clear hK K
          refine wpAnyIn_ready (rs := [3]) (by kernel_rfl) (by simp) (AllReadyIn.cons rfl (fun K hK => ?_) AllReadyIn.nil)
          · go_simp
            refine hK _ _ ?_
            clear hK K
            refine wpAnyIn_ready (rs := [4]) (by kernel_rfl) (by simp) (AllReadyIn.cons rfl (fun K hK => ?_) AllReadyIn.nil)
            · go_simp
              refine hK _ _ ?_
              clear hK K
              refine wpAnyIn_ready (rs := [5]) (by kernel_rfl) (by simp) (AllReadyIn.cons rfl (fun K hK => ?_) AllReadyIn.nil)
              · go_simp
                refine hK _ _ ?_
                clear hK K
                refine wpAnyIn_done (by kernel_rfl) ?_ _
                gi_wp2
                refine ⟨((HK2.out.trans HO3.out).trans (KeepsOthers.setCell _ _ _)).from _, HBB3.out.setCell (p := ⟨w.heap.size + 1, 0, none⟩) (by simp) _, ⟨_, hv3.other (B' := w.heap.size + 1) (by omega) _, by simpa using row_set hrow3 bZ3 (by decide) _, trivial⟩, ?_, HB3.out.setCell (p := ⟨w.heap.size + 1, 0, none⟩) (by simp) _⟩
                have hw : IntKind.i64.wrap ((z : Int) + (p.size : Int)) = ((z + p.size : Nat) : Int) := by rw [IntKind.wrap_i64]; omega
                rw [HSN.out, hw]
                exact bZ3.set _
    · go_simp
      refine hK _ _ ?_
      clear hK K
      refine wpAnyIn_ready (rs := [0, 2]) (by kernel_rfl) (by simp) (AllReadyIn.cons rfl (fun K hK => ?_) (AllReadyIn.cons rfl (fun K hK => ?_) AllReadyIn.nil))
      · go_simp
        refine hK _ _ ?_
        clear hK K
        refine wpAnyIn_ready (rs := [2]) (by kernel_rfl) (by simp) (AllReadyIn.cons rfl (fun K hK => ?_) AllReadyIn.nil)
        · go_simp
          gi_wp2_with fail
          refine ⟨trivial, ?_⟩
          refine (CallsIn.inRound l (callsIn_wide.2 (CP.out _ (HTW.out _ (HBB.out.drew))))).mono ?_
          rintro e w3 ⟨rfl, hb3'⟩
          have hb3 : Below W2.heap.size W2 w3 := ((Below.refl _ _).drew).trans hb3'
          have HB3 : Hid (Below w.heap.size w w3) := HB2.out.trans (hb3.mono HB2.out.size)
          have hv3 := boxed_below hv2 hb3
          have bZ3 := boxed_below bZ2 hb3
          have HO3 := hid (others_below hb3)
          have HBB3 := hid (HBB.out.trans (hb3.mono HB2.out.size))
          have hrow3 := ownsRow_below HR2.out hb3
          have hcz3 := bZ3.cell
          have hfz3 := bZ3.frozen
          clear hb3 hb3' CP
          refine hK _ _ ?_
          clear hK K
          refine wpAnyIn_ready (rs := [3]) (by kernel_rfl) (by simp) (AllReadyIn.cons rfl (fun K hK => ?_) AllReadyIn.nil)
          · go_simp
            refine hK _ _ ?_
            clear hK K
            refine wpAnyIn_ready (rs := [4]) (by kernel_rfl) (by simp) (AllReadyIn.cons rfl (fun K hK => ?_) AllReadyIn.nil)
            · go_simp
              refine hK _ _ ?_
              clear hK K
              refine wpAnyIn_ready (rs := [5]) (by kernel_rfl) (by simp) (AllReadyIn.cons rfl (fun K hK => ?_) AllReadyIn.nil)
              · go_simp
                refine hK _ _ ?_
                clear hK K
                refine wpAnyIn_done (by kernel_rfl) ?_ _
                gi_wp2
                refine ⟨((HK2.out.trans HO3.out).trans (KeepsOthers.setCell _ _ _)).from _, HBB3.out.setCell (p := ⟨w.heap.size + 1, 0, none⟩) (by simp) _, ⟨_, hv3.other (B' := w.heap.size + 1) (by omega) _, by simpa using row_set hrow3 bZ3 (by decide) _, trivial⟩, ?_, HB3.out.setCell (p := ⟨w.heap.size + 1, 0, none⟩) (by simp) _⟩
                have hw : IntKind.i64.wrap ((z : Int) + (p.size : Int)) = ((z + p.size : Nat) : Int) := by rw [IntKind.wrap_i64]; omega
                rw [HSN.out, hw]
                exact bZ3.set _
      · go_simp
        gi_wp2_with fail
        refine ⟨trivial, ?_⟩
        refine (CallsIn.inRound l (callsIn_wide.2 (CP.out _ (HTW.out _ (HBB.out.drew))))).mono ?_
        rintro e w3 ⟨rfl, hb3'⟩
        have hb3 : Below W2.heap.size W2 w3 := ((Below.refl _ _).drew).trans hb3'
        have HB3 : Hid (Below w.heap.size w w3) := HB2.out.trans (hb3.mono HB2.out.size)
        have hv3 := boxed_below hv2 hb3
        have bZ3 := boxed_below bZ2 hb3
        have HO3 := hid (others_below hb3)
        have HBB3 := hid (HBB.out.trans (hb3.mono HB2.out.size))
        have hrow3 := ownsRow_below HR2.out hb3
        have hcz3 := bZ3.cell
        have hfz3 := bZ3.frozen
        clear hb3 hb3' CP
        refine hK _ _ ?_
        clear hK K
        refine wpAnyIn_ready (rs := [0, 3]) (by kernel_rfl) (by simp) (AllReadyIn.cons rfl (fun K hK => ?_) (AllReadyIn.cons rfl (fun K hK => ?_) AllReadyIn.nil))
        · go_simp
          refine hK _ _ ?_
          clear hK K
          refine wpAnyIn_ready (rs := [3]) (by kernel_rfl) (by simp) (AllReadyIn.cons rfl (fun K hK => ?_) AllReadyIn.nil)
          · go_simp
            refine hK _ _ ?_
            clear hK K
            refine wpAnyIn_ready (rs := [4]) (by kernel_rfl) (by simp) (AllReadyIn.cons rfl (fun K hK => ?_) AllReadyIn.nil)
            · go_simp
              refine hK _ _ ?_
              clear hK K
              refine wpAnyIn_ready (rs := [5]) (by kernel_rfl) (by simp) (AllReadyIn.cons rfl (fun K hK => ?_) AllReadyIn.nil)
              · go_simp
                refine hK _ _ ?_
                clear hK K
                refine wpAnyIn_done (by kernel_rfl) ?_ _
                gi_wp2
                refine ⟨((HK2.out.trans HO3.out).trans (KeepsOthers.setCell _ _ _)).from _, HBB3.out.setCell (p := ⟨w.heap.size + 1, 0, none⟩) (by simp) _, ⟨_, hv3.other (B' := w.heap.size + 1) (by omega) _, by simpa using row_set hrow3 bZ3 (by decide) _, trivial⟩, ?_, HB3.out.setCell (p := ⟨w.heap.size + 1, 0, none⟩) (by simp) _⟩
                have hw : IntKind.i64.wrap ((z : Int) + (p.size : Int)) = ((z + p.size : Nat) : Int) := by rw [IntKind.wrap_i64]; omega
                rw [HSN.out, hw]
                exact bZ3.set _
        · go_simp
          refine hK _ _ ?_
          clear hK K
          refine wpAnyIn_ready (rs := [0]) (by kernel_rfl) (by simp) (AllReadyIn.cons rfl (fun K hK => ?_) AllReadyIn.nil)
          · go_simp
            refine hK _ _ ?_
            clear hK K
            refine wpAnyIn_ready (rs := [4]) (by kernel_rfl) (by simp) (AllReadyIn.cons rfl (fun K hK => ?_) AllReadyIn.nil)
            · go_simp
              refine hK _ _ ?_
              clear hK K
              refine wpAnyIn_ready (rs := [5]) (by kernel_rfl) (by simp) (AllReadyIn.cons rfl (fun K hK => ?_) AllReadyIn.nil)
              · go_simp
                refine hK _ _ ?_
                clear hK K
                refine wpAnyIn_done (by kernel_rfl) ?_ _
                gi_wp2
                refine ⟨((HK2.out.trans HO3.out).trans (KeepsOthers.setCell _ _ _)).from _, HBB3.out.setCell (p := ⟨w.heap.size + 1, 0, none⟩) (by simp) _, ⟨_, hv3.other (B' := w.heap.size + 1) (by omega) _, by simpa using row_set hrow3 bZ3 (by decide) _, trivial⟩, ?_, HB3.out.setCell (p := ⟨w.heap.size + 1, 0, none⟩) (by simp) _⟩
                have hw : IntKind.i64.wrap ((z : Int) + (p.size : Int)) = ((z + p.size : Nat) : Int) := by rw [IntKind.wrap_i64]; omega
                rw [HSN.out, hw]
                exact bZ3.set _
  case done =>
    rintro D ys W hD hS ⟨⟨v, hv, hrow, _⟩, bZ, hBW⟩ hK
    have hcv := hv.cell
    rw [hS] at bZ
    have hrow2 : W.ownsRow w.heap.size 9 1 v (readS s).length ((readS s).map Value.string) := by
      rw [← hS, List.length_map, List.map_map]; exact hrow
    have hcz := bZ.cell
    have HBW := hid hBW
    have HROW := hid hrow2
    have HK := hid hK
    have hDW : D < W.heap.size := (Array.getElem?_eq_some_iff.1 hK).1
    obtain ⟨oa, cp, rfl⟩ := row_shape hrow2
    clear hBW hK hrow hrow2
    gi_wp2_with fail
    refine wpIn_wide.2 (region_then ?_)
    go_quiet (fail)
    gi_wp2
    have HKQ : (W.drewN nq).heap[D]? = some (.deferred (some [])) := HK.out
    refine ⟨by simp, .inl ⟨_, _, rfl, run_takeDeferred HKQ, ?_⟩⟩
    refine ⟨_, results_tmp2 rfl _ _ _, _, rfl, ?_, ?_⟩
    · refine (ownsRow_below HROW.out (below_drewN (Below.refl _ _) nq)).kept (row := some D) ((grownBy_putObj' (W.drewN nq) D _)) ?_
      rcases HROW.out.2 with ⟨e, _⟩ | ⟨g, cap, cur, e, _, hg, _⟩
      · exact .inl (by rw [e]; rfl)
      · refine .inr ?_
        rw [e]
        intro c
        simp [Value.ownBlock] at c
        subst c
        rw [HK.out] at hg
        cases hg
    · exact (below_drewN HBW.out nq).trans (belowK_b (w := w) (Nat.le_refl _) (W.drewN nq) D _ _ (by omega) HKQ rfl rfl)
  case stop =>
    rintro D c pre W _ _ h _
    exact h.elim

set_option maxRecDepth 100000 in
set_option maxHeartbeats 800000 in
theorem implRead_any (s : ByteArray) (w : World) (hs : s.size ≤ maxLen) (ht : Tab w) :
    Calls Tryz.prog 52 #[.string s] w fun e w' => ∃ v, e = .returned (.tuple #[v, .int .i64 (sizeR (logS s) : Nat)]) ∧ w'.ownsRow w.heap.size 9 1 v (logS s).length ((logS s).map Value.string) ∧ Below w.heap.size w w' := by
  have hs' : s.size ≤ 2 ^ 63 - 1 := hs
  by_cases h6 : (s.size : Int) > 6000
  · have HE : Hid (logS s = []) := if_neg (by omega)
    go_enter Tryz.func52, Tryz.ntmps52
    go_wp2
    go_ret2
    refine ⟨_, by rw [HE.out]; rfl, ?_, Below.refl _ _⟩
    rw [HE.out]
    exact World.ownsRow_nil _ _ _ _
  · have HE : logS s = readS s := if_pos (by omega)
    rw [HE]
    exact callsIn_wide.1 (implRead_in s w (by omega) ht)

end Go.Proofs.YtplbfllhimcpiaaGreatDoor
