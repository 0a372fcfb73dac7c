/- DERIVED. The program's walk: hosts are folded. -/
import Derived.Test.YtahhjhhnjpbocaaDoorFoldName
import Derived.Test.YtahhjhhnjpbocaaDoorHsImpl
namespace Go.Proofs.YtahhjhhnjpbocaaDoor
open Go.RowKit Go.Shelf

attribute [local go_sem] Oper.semAt_some

theorem RowAt.piece {w : World} {b off len : Nat} {S : Nat → ByteArray} {M : Nat → Int} (h : RowAt w b off len S M) (k n : Nat) (hn : k + n ≤ len) : RowAt w b (off + k * 2) n (fun i => S (k + i)) (fun i => M (k + i)) where
  old := h.old
  name := fun i hi => by have := h.name (k + i) (by omega); rw [show off + k * 2 + i * 2 = off + (k + i) * 2 by omega]; exact this
  num := fun i hi => by have := h.num (k + i) (by omega); rw [show off + k * 2 + i * 2 + 1 = off + (k + i) * 2 + 1 by omega]; exact this
  small := fun i hi => h.small (k + i) (by omega)

theorem nameL_shift (S : Nat → ByteArray) (M : Nat → Int) (k n : Nat) : nameL (fun i => S (k + i)) (fun i => M (k + i)) 0 n = nameL S M k n := by
  unfold nameL
  rw [numsL_shift]
  simp

theorem okUpto_at (S : Nat → ByteArray) (M : Nat → Int) (n i : Nat) (h : okUpto S M n = true) (hi : i < n) : okB (S i) (M i) = true := by
  cases e : okB (S i) (M i)
  · have := okUpto_le S M (k := i + 1) (n := n) (by omega) (by simp [okUpto, e])
    rw [h] at this; cases this
  · rfl

set_option maxHeartbeats 600000 in
theorem foldName_one (b off cap : Nat) (S : Nat → ByteArray) (M : Nat → Int) (w : World) (R : RowAt w b off 1 S M) (hok : okB (S 0) (M 0) = true) (ht : Tab w) :
    Calls Tryd.prog 16 #[.slice (some ⟨b, off, none⟩) 1 cap] w fun e w' => e = .returned (.string (mkS (nameL S M 0 1))) ∧ Below w.heap.size w w' := by
  have c0 := R.name 0 (by omega)
  have c1 := R.num 0 (by omega)
  rw [Nat.zero_mul, Nat.add_zero] at c0 c1
  have hsm := R.small 0 (by omega)
  have HP : Hid (putS (S 0) (M 0) = mkS (nameL S M 0 1)) := by
    obtain ⟨_, h0, _⟩ := okB_num hok
    refine mkS_of ?_
    rw [putS, if_pos hok, cat_l, decS_l, nameL, if_pos rfl, Int.toNat_of_nonneg h0]
  have CP : Hid (∀ w, Tab w → Calls Tryd.prog 10 #[.agg #[.string (S 0), .int .i64 (M 0)]] w fun e w' => e = .returned (.string (mkS (nameL S M 0 1))) ∧ Below w.heap.size w w') := fun w ht => by rw [← HP.out]; exact implPut_any _ _ w hsm ht
  have HT := hid ht
  clear ht hok
  go_enter Tryd.func16, Tryd.ntmps16
  go_wp2_with fail
  refine (CP.out _ HT.out).mono ?_
  rintro e w1 ⟨rfl, hb1⟩
  have HB1 := hid hb1
  clear hb1 c0 c1
  go_wp2
  go_ret
  exact ⟨rfl, HB1.out⟩

theorem foldName_any (b off len cap k n c2 : Nat) (S : Nat → ByteArray) (M : Nat → Int) (w : World) (hc : len ≤ cap) (hm : cap ≤ maxLen) (hk : k < len) (hn : n = stretch (sameP S) k len) (hc2 : c2 = cap - k) (h30 : len ≤ 30) (R : RowAt w b off len S M)
    (hok : okUpto S M len = true) (ht : Tab w) :
    Calls Tryd.prog 16 #[.slice (some ⟨b, off + k * 2, none⟩) n c2] w fun e w' => e = .returned (.string (mkS (nameL S M k n))) ∧ Below w.heap.size w w' := by
  have hl := stretch_le (sameP S) k len hk
  have hp := stretch_pos (sameP S) k len
  rw [← hn] at hl hp
  have hR := R.piece k n (by omega)
  rw [← nameL_shift]
  by_cases h1 : n = 1
  · subst h1
    exact foldName_one b (off + k * 2) c2 _ _ w hR (okUpto_at S M len (k + 0) hok (by omega)) ht
  · exact callsIn_wide.1 (foldName_many b (off + k * 2) n c2 _ _ w (by omega) (by omega) (by omega) (by omega) hR (okB_num (okUpto_at S M len (k + 0) hok (by omega))).1
      (fun i hi => (okB_num (okUpto_at S M len (k + i) hok (by omega))).2) ht)

theorem wpIn_append_at {F : Fence} {n : Nat} {P : Program} (w : World) {o : Oper} {a : Act} {K : Act → World → Prop} {Q : Exit → Act → World → Prop}
    (s x : Operand) (t : TypeId) (hop : o.op = Op.call { callee := Callee.builtin Builtin.append, args := #[s, x], argTypes := #[t, t] })
    (base : Nat) (e : TypeId) (i : TypeInfo) (z : Value) (size bytes : Nat) (h1 : P.underlying t = some (.slice e)) (h2 : P.info? e = some i) (h3 : i.zero = some z) (h4 : i.size = size) (h5 : i.bytes = bytes) (h6 : z.cells.size = size) (h7 : 0 < size)
    (v : Value) (k : Nat) (xs : List Value) (hs : a.eval s = v) (hown : w.ownsRow base e size v k xs) (ad : Addr) (m c : Nat) (news : List Value) (hx : a.eval x = .slice (some ad) m c) (hn : news.length = m * size)
    (hc : ∀ j u, news[j]? = some u → w.cell? (ad.add j) = some u) (h1c : ∀ u ∈ news, u.oneCell' = true) (b1 : k + m ≤ maxLen) (b2 : (k + m) * bytes ≤ 140737488355328) (b3 : base ≤ w.heap.size)
    (hK : ∀ v' w', w'.ownsRow base e size v' (k + m) (xs ++ news) → w.grownBy w' v.ownBlock → K (a.put o.dst v') w') : Oper.wpIn F n P o a w K Q := by
  obtain ⟨v', w', hrun, r1, r2, r3⟩ := run_append_own (P := P) w base t o.type e i z size bytes h1 h2 h3 h4 h5 h6 h7 v k xs hown ad m c news hn hc h1c b1 b2 b3
  unfold Oper.wpIn
  refine ⟨?_, ?_⟩
  · simp [Oper.about, hop, resolve, Target.leads, Sem.run_pure]
  · rw [Oper.semAt_plain F _ _ (by rw [hop]; intro c hc'; cases hc')]
    simp [execOp, hop, resolve, invoke, builtin, hs, hx, hrun]
    exact hK v' w' r1 r2

/-- The text of one name. -/
def nameS (S : Nat → ByteArray) (M : Nat → Int) (len i : Nat) : ByteArray := mkS (nameL S M i (stretch (sameP S) i len))

theorem join_names (S : Nat → ByteArray) (M : Nat → Int) (i n : Nat) (h : i < n) : Lib.join ((startsL (sameP S) i n).map (fun j => nameL S M j (stretch (sameP S) j n))) [44] = foldL S M i n := by
  generalize hd : n - i = d
  induction d using Nat.strongRecOn generalizing i with
  | _ d ih =>
    have hp := stretch_pos (sameP S) i n
    rw [startsL_step _ _ _ h, List.map_cons, Lib.join_cons, foldL_eqn, dif_pos h]
    congr 1
    by_cases hl : i + stretch (sameP S) i n < n
    · rw [if_pos hl]
      have := ih (n - (i + stretch (sameP S) i n)) (by omega) (i + stretch (sameP S) i n) hl rfl
      rw [← this, startsL_step _ _ _ hl, List.map_cons, Lib.join_cons]
      simp [Lib.joinTail]
    · rw [if_neg hl, startsL_end _ _ _ hl]
      simp [Lib.joinTail]

set_option maxRecDepth 100000 in
set_option maxHeartbeats 2000000 in
theorem implFold_yes (b off len cap : Nat) (S : Nat → ByteArray) (M : Nat → Int) (w : World) (hc : len ≤ cap) (hm : cap ≤ maxLen) (R : RowAt w b off len S M) (hlo : listOk S M len = true) (ht : Tab w) :
    CallsIn Fence.wide 9 Tryd.prog 5 #[.slice (some ⟨b, off, none⟩) len cap] w fun e w' => e = .returned (.string (mkS (foldL S M 0 len))) ∧ Below w.heap.size w w' := by
  obtain ⟨i0, hi, hz0, hz1, hz2⟩ := info_parts infoStr
  have h30 : len ≤ 30 := by
    unfold listOk at hlo; rw [Bool.and_eq_true, decide_eq_true_eq] at hlo; omega
  have HOK : Hid (okUpto S M len = true) := by
    unfold listOk at hlo; rw [Bool.and_eq_true] at hlo; exact hlo.1
  have CO : Hid (∀ w', RowAt w' b off len S M → Calls Tryd.prog 7 #[.slice (some ⟨b, off, none⟩) len cap] w' fun e w2 => e = .returned (.bool true) ∧ Below w'.heap.size w' w2) := fun w' h => by rw [← hlo]; exact hostsOk_impl b off len cap S M w' hc hm h
  have HT := hid ht
  clear ht hlo
  have hmax : (9223372036854775807 : Nat) = maxLen := rfl
  refine callsIn_of_wp_marks Tryd.func5 rfl trivial ?_ rfl
  simp only [Tryd.ntmps5, List.size_toArray, List.length_cons, List.length_nil, Nat.reduceAdd, Nat.reduceSub, Array.replicate_succ, Array.replicate_zero, List.push_toArray, List.append_toArray, List.nil_append, List.cons_append]
  gi_wp2_with fail
  refine ⟨trivial, ?_⟩
  refine (callsIn_wide.2 (CO.out _ R)).mono ?_
  rintro e w1 ⟨rfl, hb1⟩
  have HB1 := hid hb1
  have R1 := R.below hb1
  clear hb1
  gi_wp2_with (refine ⟨trivial, ?_⟩; gi_at_call 14; refine (callsIn_wide.2 (runs_any _ _ _ _ _)).mono ?_; rintro e w' ⟨rfl, rfl⟩)
  obtain ⟨W0, hW0⟩ : ∃ W0, ((w1.alloc (.cells #[.slice none 0 0] 37)).alloc (.cells #[.slice (some ⟨b, off, none⟩) len cap] 23)).alloc (.cells #[.func (.func 15) #[] #[]] 41) = W0 := ⟨_, rfl⟩
  have bO : Boxed W0 w1.heap.size 37 (.slice none 0 0) := by rw [← hW0]; exact ((Boxed.new w1 _ _).alloc _).alloc _
  have b1 : Boxed W0 (w1.heap.size + 1) 23 (.slice (some ⟨b, off, none⟩) len cap) := by
    rw [← hW0]
    have := (Boxed.new (w1.alloc (.cells #[.slice none 0 0] 37)) 23 (.slice (some ⟨b, off, none⟩) len cap)).alloc (.cells #[.func (.func 15) #[] #[]] 41)
    rw [World.size_alloc] at this; exact this
  have b2 : Boxed W0 (w1.heap.size + 1 + 1) 41 (.func (.func 15) #[] #[]) := by
    rw [← hW0]
    have := Boxed.new ((w1.alloc (.cells #[.slice none 0 0] 37)).alloc (.cells #[.slice (some ⟨b, off, none⟩) len cap] 23)) 41 (.func (.func 15) #[] #[])
    rw [World.size_alloc, World.size_alloc] at this; exact this
  have hB0 : Below w1.heap.size w1 W0 := by rw [← hW0]; exact (((Below.refl _ w1).alloc (Nat.le_refl _) _).alloc (by simp) _).alloc (by simp; omega) _
  have hsz : W0.heap.size = w1.heap.size + 3 := by rw [← hW0]; simp
  have hR0 := R1.kept R1.old hB0
  try rw [hW0]
  refine wpIn_rangeFunc_ownG rfl (by omega) (gf := 28) (lb := #[.pointer (some ⟨w1.heap.size + 1, 0, none⟩), .pointer (some ⟨w1.heap.size + 1 + 1, 0, none⟩)]) rfl trivial (enters_of Tryd.func28 (by kernel_rfl) rfl)
    (same_stops 8 (by omega) (w1.heap.size + 1) (w1.heap.size + 1 + 1) w1.heap.size b off len cap S M hc hm R1.old W0 (by omega) (by omega) (by omega) b1.cell b2.cell hR0) KeepsRow.trans (keepsRow_b (by omega) (by omega) (by omega)) (Below.refl _ _) (fun _ => rfl)
    (Between w1 23 41 (.slice (some ⟨b, off, none⟩) len cap) (.func (.func 15) #[] #[]) len (nameS S M len))
    (fun _ _ _ => False)
    (between_own _ _ _ _ _ _ _ _ (by omega))
    (fun _ _ _ _ _ hs _ _ => hs)
    ⟨⟨_, bO, World.ownsRow_nil _ _ _ _, trivial⟩, b1, b2, hB0⟩
    (fun x => { tmps := #[.slice (some ⟨b, off, none⟩) len cap, undef, .string ⟨#[]⟩, .pointer (some ⟨w1.heap.size, 0, none⟩), .slice (some ⟨b, off + x.1 * 2, none⟩) (stretch (sameP S) x.1 len) (cap - x.1), .slice (some ⟨b, off, none⟩) len cap, .bool true, .bool false, .slice (some ⟨b, off, none⟩) len cap, .func (.func 28) #[] #[.pointer (some ⟨w1.heap.size + 1, 0, none⟩), .pointer (some ⟨w1.heap.size + 1 + 1, 0, none⟩)], .slice (some ⟨b, off + x.1 * 2, none⟩) (stretch (sameP S) x.1 len) (cap - x.1), undef, undef, undef, undef, undef, undef, undef], defers := [] }) ?assign ?body ?done ?stop
  case assign =>
    intro l x W K hK
    unfold handed
    gi_wp2
    exact hK
  case body =>
    rintro l pre ⟨i, hil⟩ W ⟨⟨v, hv, hrow, _⟩, b1W, b2W, hBW⟩ hlt
    have HBW := hid hBW
    clear hBW
    have HRW : Hid (RowAt W b off len S M) := R1.kept R1.old HBW.out
    have HTW : Hid (Tab W) := (HT.out.below HB1.out).below HBW.out
    obtain ⟨z, hz⟩ : ∃ z, z = nameS S M len i := ⟨_, rfl⟩
    obtain ⟨g, hgs⟩ : ∃ g, g = stretch (sameP S) i len := ⟨_, rfl⟩
    obtain ⟨cc, hcc⟩ : ∃ cc, cc = cap - i := ⟨_, rfl⟩
    dsimp only
    rw [← hgs, ← hcc]
    have HZ := hid hz
    have CF : Hid (∀ w', RowAt w' b off len S M → Tab w' → Calls Tryd.prog 16 #[.slice (some ⟨b, off + i * 2, none⟩) g cc] w' fun e w2 => e = .returned (.string z) ∧ Below w'.heap.size w' w2) := fun w' h ht => by
      rw [hz, nameS, ← hgs]
      exact foldName_any b off len cap i g cc S M w' hc hm hil hgs hcc h30 h HOK.out ht
    clear hz hgs hcc
    have hpl : pre.length < 30 := by omega
    have hcv := hv.cell
    have hmx : Tryd.prog.follows .mixedOrders = true := by kernel_rfl
    gi_wp2
    refine wpIn_region_any hmx ?_
    change wpAnyIn _ _ _ _ _ _ _ _ _ (World.drew _)
    refine wpAnyIn_ready (rs := [0, 1]) (by kernel_rfl) (by simp) (AllReadyIn.cons rfl (fun K hK => ?_) (AllReadyIn.cons rfl (fun K hK => ?_) AllReadyIn.nil))
    · go_simp
      refine hK _ _ ?_
      clear hK K
      refine wpAnyIn_ready (rs := [1]) (by kernel_rfl) (by simp) (AllReadyIn.cons rfl (fun K hK => ?_) AllReadyIn.nil)
      · go_simp
        refine hK _ _ ?_
        clear hK K
        refine wpAnyIn_ready (rs := [2]) (by kernel_rfl) (by simp) (AllReadyIn.cons rfl (fun K hK => ?_) AllReadyIn.nil)
        · go_simp
          gi_wp2_with fail
          refine ⟨trivial, ?_⟩
          refine (CallsIn.inRound l (callsIn_wide.2 (CF.out _ HRW.out.drew (HTW.out.below ((Below.refl _ _).drew))))).mono ?_
          rintro e w3 ⟨rfl, hb3'⟩
          have hb3 : Below W.heap.size W w3 := ((Below.refl _ _).drew).trans hb3'
          have HB3 : Hid (Below w1.heap.size w1 w3) := HBW.out.trans (hb3.mono HBW.out.size)
          have hv3 := boxed_below hv hb3
          have b13 := boxed_below b1W hb3
          have b23 := boxed_below b2W hb3
          have HO3 := hid (others_below hb3)
          have HBB := hid (hb3.mono HBW.out.size)
          have hrow3 := ownsRow_below hrow hb3
          have hcv3 := hv3.cell
          clear hb3 hb3' CF
          refine hK _ _ ?_
          clear hK K
          refine wpAnyIn_ready (rs := [3]) (by kernel_rfl) (by simp) (AllReadyIn.cons rfl (fun K hK => ?_) AllReadyIn.nil)
          · go_simp
            have hcv4 := (hv3.alloc (.cells #[.string z] 9)).cell
            refine hK _ _ ?_
            clear hK K
            refine wpAnyIn_ready (rs := [4]) (by kernel_rfl) (by simp) (AllReadyIn.cons rfl (fun K hK => ?_) AllReadyIn.nil)
            · refine wpIn_append_at _ _ _ 37 rfl w1.heap.size 9 i0 (.string ⟨#[]⟩) 1 16 Tryd.underlying37 hi hz0 hz1 hz2 rfl (by decide) _ _ _ rfl (hrow3.alloc _) ⟨w3.heap.size, 0, none⟩ 1 1 [.string z] rfl rfl (cell_one_new _ _ _) (by simp [Value.oneCell']) (by omega) (by omega) (by have := HB3.out.size; simp; omega) ?_
              intro v' wz hown' hgrow
              obtain ⟨g', cap', rfl⟩ := ownsRow_succ hown'
              obtain ⟨hv1, hv2, hr2, hk2, hb2⟩ := hv3.appended (by decide) hrow3 HB3.out.size (Nat.le_refl _) hown' hgrow
              have b1' := collect_box b13 (by decide) hrow3 hgrow
              have b2' := collect_box b23 (by decide) hrow3 hgrow
              have hc1 := hv1.cell
              have hf1 := hv1.frozen
              refine hK _ _ ?_
              clear hK K
              refine wpAnyIn_ready (rs := [5]) (by kernel_rfl) (by simp) (AllReadyIn.cons rfl (fun K hK => ?_) AllReadyIn.nil)
              · go_simp
                refine hK _ _ ?_
                clear hK K
                refine wpAnyIn_done (by kernel_rfl) ?_ _
                gi_wp2
                have b1'' := b1'.other (B' := w1.heap.size) (by omega) (.slice (some ⟨g', 0, none⟩) (pre.length + 1) cap')
                have b2'' := b2'.other (B' := w1.heap.size) (by omega) (.slice (some ⟨g', 0, none⟩) (pre.length + 1) cap')
                rw [HZ.out] at hr2
                exact ⟨(HO3.out.trans hk2).from _, ⟨HBB.out.trans hb2, b1''.cell.trans b1W.cell.symm, b2''.cell.trans b2W.cell.symm⟩, ⟨_, hv2, by simpa using hr2, trivial⟩, b1'', b2'', HB3.out.trans hb2⟩
    · go_simp
      refine hK _ _ ?_
      clear hK K
      refine wpAnyIn_ready (rs := [0, 2]) (by kernel_rfl) (by simp) (AllReadyIn.cons rfl (fun K hK => ?_) (AllReadyIn.cons rfl (fun K hK => ?_) AllReadyIn.nil))
      · go_simp
        refine hK _ _ ?_
        clear hK K
        refine wpAnyIn_ready (rs := [2]) (by kernel_rfl) (by simp) (AllReadyIn.cons rfl (fun K hK => ?_) AllReadyIn.nil)
        · go_simp
          gi_wp2_with fail
          refine ⟨trivial, ?_⟩
          refine (CallsIn.inRound l (callsIn_wide.2 (CF.out _ HRW.out.drew (HTW.out.below ((Below.refl _ _).drew))))).mono ?_
          rintro e w3 ⟨rfl, hb3'⟩
          have hb3 : Below W.heap.size W w3 := ((Below.refl _ _).drew).trans hb3'
          have HB3 : Hid (Below w1.heap.size w1 w3) := HBW.out.trans (hb3.mono HBW.out.size)
          have hv3 := boxed_below hv hb3
          have b13 := boxed_below b1W hb3
          have b23 := boxed_below b2W hb3
          have HO3 := hid (others_below hb3)
          have HBB := hid (hb3.mono HBW.out.size)
          have hrow3 := ownsRow_below hrow hb3
          have hcv3 := hv3.cell
          clear hb3 hb3' CF
          refine hK _ _ ?_
          clear hK K
          refine wpAnyIn_ready (rs := [3]) (by kernel_rfl) (by simp) (AllReadyIn.cons rfl (fun K hK => ?_) AllReadyIn.nil)
          · go_simp
            have hcv4 := (hv3.alloc (.cells #[.string z] 9)).cell
            refine hK _ _ ?_
            clear hK K
            refine wpAnyIn_ready (rs := [4]) (by kernel_rfl) (by simp) (AllReadyIn.cons rfl (fun K hK => ?_) AllReadyIn.nil)
            · refine wpIn_append_at _ _ _ 37 rfl w1.heap.size 9 i0 (.string ⟨#[]⟩) 1 16 Tryd.underlying37 hi hz0 hz1 hz2 rfl (by decide) _ _ _ rfl (hrow3.alloc _) ⟨w3.heap.size, 0, none⟩ 1 1 [.string z] rfl rfl (cell_one_new _ _ _) (by simp [Value.oneCell']) (by omega) (by omega) (by have := HB3.out.size; simp; omega) ?_
              intro v' wz hown' hgrow
              obtain ⟨g', cap', rfl⟩ := ownsRow_succ hown'
              obtain ⟨hv1, hv2, hr2, hk2, hb2⟩ := hv3.appended (by decide) hrow3 HB3.out.size (Nat.le_refl _) hown' hgrow
              have b1' := collect_box b13 (by decide) hrow3 hgrow
              have b2' := collect_box b23 (by decide) hrow3 hgrow
              have hc1 := hv1.cell
              have hf1 := hv1.frozen
              refine hK _ _ ?_
              clear hK K
              refine wpAnyIn_ready (rs := [5]) (by kernel_rfl) (by simp) (AllReadyIn.cons rfl (fun K hK => ?_) AllReadyIn.nil)
              · go_simp
                refine hK _ _ ?_
                clear hK K
                refine wpAnyIn_done (by kernel_rfl) ?_ _
                gi_wp2
                have b1'' := b1'.other (B' := w1.heap.size) (by omega) (.slice (some ⟨g', 0, none⟩) (pre.length + 1) cap')
                have b2'' := b2'.other (B' := w1.heap.size) (by omega) (.slice (some ⟨g', 0, none⟩) (pre.length + 1) cap')
                rw [HZ.out] at hr2
                exact ⟨(HO3.out.trans hk2).from _, ⟨HBB.out.trans hb2, b1''.cell.trans b1W.cell.symm, b2''.cell.trans b2W.cell.symm⟩, ⟨_, hv2, by simpa using hr2, trivial⟩, b1'', b2'', HB3.out.trans hb2⟩
      · go_simp
        gi_wp2_with fail
        refine ⟨trivial, ?_⟩
        refine (CallsIn.inRound l (callsIn_wide.2 (CF.out _ HRW.out.drew (HTW.out.below ((Below.refl _ _).drew))))).mono ?_
        rintro e w3 ⟨rfl, hb3'⟩
        have hb3 : Below W.heap.size W w3 := ((Below.refl _ _).drew).trans hb3'
        have HB3 : Hid (Below w1.heap.size w1 w3) := HBW.out.trans (hb3.mono HBW.out.size)
        have hv3 := boxed_below hv hb3
        have b13 := boxed_below b1W hb3
        have b23 := boxed_below b2W hb3
        have HO3 := hid (others_below hb3)
        have HBB := hid (hb3.mono HBW.out.size)
        have hrow3 := ownsRow_below hrow hb3
        have hcv3 := hv3.cell
        clear hb3 hb3' CF
        refine hK _ _ ?_
        clear hK K
        refine wpAnyIn_ready (rs := [0, 3]) (by kernel_rfl) (by simp) (AllReadyIn.cons rfl (fun K hK => ?_) (AllReadyIn.cons rfl (fun K hK => ?_) AllReadyIn.nil))
        · go_simp
          refine hK _ _ ?_
          clear hK K
          refine wpAnyIn_ready (rs := [3]) (by kernel_rfl) (by simp) (AllReadyIn.cons rfl (fun K hK => ?_) AllReadyIn.nil)
          · go_simp
            have hcv4 := (hv3.alloc (.cells #[.string z] 9)).cell
            refine hK _ _ ?_
            clear hK K
            refine wpAnyIn_ready (rs := [4]) (by kernel_rfl) (by simp) (AllReadyIn.cons rfl (fun K hK => ?_) AllReadyIn.nil)
            · refine wpIn_append_at _ _ _ 37 rfl w1.heap.size 9 i0 (.string ⟨#[]⟩) 1 16 Tryd.underlying37 hi hz0 hz1 hz2 rfl (by decide) _ _ _ rfl (hrow3.alloc _) ⟨w3.heap.size, 0, none⟩ 1 1 [.string z] rfl rfl (cell_one_new _ _ _) (by simp [Value.oneCell']) (by omega) (by omega) (by have := HB3.out.size; simp; omega) ?_
              intro v' wz hown' hgrow
              obtain ⟨g', cap', rfl⟩ := ownsRow_succ hown'
              obtain ⟨hv1, hv2, hr2, hk2, hb2⟩ := hv3.appended (by decide) hrow3 HB3.out.size (Nat.le_refl _) hown' hgrow
              have b1' := collect_box b13 (by decide) hrow3 hgrow
              have b2' := collect_box b23 (by decide) hrow3 hgrow
              have hc1 := hv1.cell
              have hf1 := hv1.frozen
              refine hK _ _ ?_
              clear hK K
              refine wpAnyIn_ready (rs := [5]) (by kernel_rfl) (by simp) (AllReadyIn.cons rfl (fun K hK => ?_) AllReadyIn.nil)
              · go_simp
                refine hK _ _ ?_
                clear hK K
                refine wpAnyIn_done (by kernel_rfl) ?_ _
                gi_wp2
                have b1'' := b1'.other (B' := w1.heap.size) (by omega) (.slice (some ⟨g', 0, none⟩) (pre.length + 1) cap')
                have b2'' := b2'.other (B' := w1.heap.size) (by omega) (.slice (some ⟨g', 0, none⟩) (pre.length + 1) cap')
                rw [HZ.out] at hr2
                exact ⟨(HO3.out.trans hk2).from _, ⟨HBB.out.trans hb2, b1''.cell.trans b1W.cell.symm, b2''.cell.trans b2W.cell.symm⟩, ⟨_, hv2, by simpa using hr2, trivial⟩, b1'', b2'', HB3.out.trans hb2⟩
        · go_simp
          have hcv4 := (hv3.alloc (.cells #[.string z] 9)).cell
          refine hK _ _ ?_
          clear hK K
          refine wpAnyIn_ready (rs := [0]) (by kernel_rfl) (by simp) (AllReadyIn.cons rfl (fun K hK => ?_) AllReadyIn.nil)
          · go_simp
            refine hK _ _ ?_
            clear hK K
            refine wpAnyIn_ready (rs := [4]) (by kernel_rfl) (by simp) (AllReadyIn.cons rfl (fun K hK => ?_) AllReadyIn.nil)
            · refine wpIn_append_at _ _ _ 37 rfl w1.heap.size 9 i0 (.string ⟨#[]⟩) 1 16 Tryd.underlying37 hi hz0 hz1 hz2 rfl (by decide) _ _ _ rfl (hrow3.alloc _) ⟨w3.heap.size, 0, none⟩ 1 1 [.string z] rfl rfl (cell_one_new _ _ _) (by simp [Value.oneCell']) (by omega) (by omega) (by have := HB3.out.size; simp; omega) ?_
              intro v' wz hown' hgrow
              obtain ⟨g', cap', rfl⟩ := ownsRow_succ hown'
              obtain ⟨hv1, hv2, hr2, hk2, hb2⟩ := hv3.appended (by decide) hrow3 HB3.out.size (Nat.le_refl _) hown' hgrow
              have b1' := collect_box b13 (by decide) hrow3 hgrow
              have b2' := collect_box b23 (by decide) hrow3 hgrow
              have hc1 := hv1.cell
              have hf1 := hv1.frozen
              refine hK _ _ ?_
              clear hK K
              refine wpAnyIn_ready (rs := [5]) (by kernel_rfl) (by simp) (AllReadyIn.cons rfl (fun K hK => ?_) AllReadyIn.nil)
              · go_simp
                refine hK _ _ ?_
                clear hK K
                refine wpAnyIn_done (by kernel_rfl) ?_ _
                gi_wp2
                have b1'' := b1'.other (B' := w1.heap.size) (by omega) (.slice (some ⟨g', 0, none⟩) (pre.length + 1) cap')
                have b2'' := b2'.other (B' := w1.heap.size) (by omega) (.slice (some ⟨g', 0, none⟩) (pre.length + 1) cap')
                rw [HZ.out] at hr2
                exact ⟨(HO3.out.trans hk2).from _, ⟨HBB.out.trans hb2, b1''.cell.trans b1W.cell.symm, b2''.cell.trans b2W.cell.symm⟩, ⟨_, hv2, by simpa using hr2, trivial⟩, b1'', b2'', HB3.out.trans hb2⟩
  case done =>
    rintro D ys W hD hS ⟨⟨v, hv, hrow, _⟩, b1W, b2W, hBW⟩ hK
    have hcv := hv.cell
    have HBW : Hid (Below w.heap.size w W) := HB1.out.trans (hBW.mono HB1.out.size)
    have HSZ := hid hBW.size
    have hDW : D < W.heap.size := (Array.getElem?_eq_some_iff.1 hK).1
    have HK := hid hK
    have HS1 := hid HB1.out.size
    clear hBW hK
    have HJ : Hid (∃ (oa : Option Addr) (n cp : Nat), v = .slice oa n cp ∧ Calls Tryd.prog 17 #[.slice oa n cp, .string ⟨#[44]⟩] W fun e w' => e = .returned (.string (mkS (foldL S M 0 len))) ∧ Below W.heap.size W w') := by
      by_cases hl0 : len = 0
      · have hy0 : ys.length = 0 := by
          have := congrArg List.length hS
          rw [startsL_end _ _ _ (by omega), List.length_map, List.length_nil] at this
          exact this
        have hf0 : mkS (foldL S M 0 len) = ⟨#[]⟩ := by rw [foldL_eqn, dif_neg (by omega)]; rfl
        rw [hy0] at hrow
        rw [hf0]
        rcases hrow.2 with ⟨e, _⟩ | ⟨g, cp, cur, e, _⟩
        · exact ⟨_, _, _, e, (Go.Proofs.Tryd.strings_Join_none none 0 ⟨#[44]⟩ W).mono (by rintro e w' ⟨rfl, rfl⟩; exact ⟨rfl, Below.refl _ _⟩)⟩
        · exact ⟨_, _, _, e, (Go.Proofs.Tryd.strings_Join_none _ cp ⟨#[44]⟩ W).mono (by rintro e w' ⟨rfl, rfl⟩; exact ⟨rfl, Below.refl _ _⟩)⟩
      · have hyl : 1 ≤ ys.length := by
          have := congrArg List.length hS
          rw [startsL_step _ _ _ (by omega)] at this
          simp at this; omega
        have hyl2 : ys.length ≤ 30 := by
          have := congrArg List.length hS
          have := startsL_len (sameP S) 0 len
          rw [List.length_map] at *
          omega
        obtain ⟨g, cp, e, hgw, hcp, hcells⟩ := row_cells hrow hyl
        have HJN : Lib.join ((ys.map (fun i => nameS S M len i.1)).map (·.data.toList)) [44] = foldL S M 0 len := by
          rw [← join_names S M 0 len (by omega), ← hS, List.map_map, List.map_map]
          congr 1
        have HNL := foldL_len S M 0 len (fun j _ h => (okB_num (okUpto_at S M len j HOK.out h)).1) (fun j _ h => (okB_num (okUpto_at S M len j HOK.out h)).2.2)
        have h := Go.Proofs.Tryd.strings_Join g 0 cp (ys.map (fun i => nameS S M len i.1)) ⟨#[44]⟩ W (fun j x hx => by
            have := hcells j (.string x) (by rw [List.getElem?_map] at hx ⊢; cases e : ys[j]? with
              | none => rw [e] at hx; cases hx
              | some y => rw [e] at hx; simp at hx ⊢; exact hx)
            simpa using this) hgw (by simp; omega) (by simpa using hcp) (by rw [HJN]; omega)
        rw [List.length_map, HJN] at h
        exact ⟨_, _, _, e, h⟩
    obtain ⟨oa, nn, cp, rfl, hJ⟩ := HJ.out
    have HJJ := hid hJ
    clear hJ HJ hrow
    gi_wp2_with fail
    refine ⟨trivial, ?_⟩
    refine (callsIn_wide.2 HJJ.out).mono ?_
    rintro e w5 ⟨rfl, hb5⟩
    have HK5 : Hid (w5.heap[D]? = some (.deferred (some []))) := (hb5.block D hDW).trans HK.out
    have HB5 : Hid (Below w.heap.size w w5) := HBW.out.trans (hb5.mono HBW.out.size)
    clear hb5 HJJ
    gi_wp2
    refine ⟨by simp, .inl ⟨_, _, rfl, run_takeDeferred HK5.out, ?_⟩⟩
    refine ⟨_, results_tmp rfl _ _ _, rfl, ?_⟩
    exact HB5.out.trans (belowK_b (w := w) (Nat.le_refl _) w5 D _ _ (by have := HS1.out; omega) HK5.out rfl rfl)
  case stop =>
    rintro D c pre W _ _ h _
    exact h.elim

set_option maxHeartbeats 600000 in
theorem implFold_any (b off len cap : Nat) (S : Nat → ByteArray) (M : Nat → Int) (w : World) (hc : len ≤ cap) (hm : cap ≤ maxLen) (R : RowAt w b off len S M) (ht : Tab w) :
    Calls Tryd.prog 5 #[.slice (some ⟨b, off, none⟩) len cap] w fun e w' => e = .returned (.string (if listOk S M len = true then mkS (foldL S M 0 len) else ⟨#[]⟩)) ∧ Below w.heap.size w w' := by
  cases hlo : listOk S M len
  · rw [if_neg (by decide)]
    have CO : Hid (Calls Tryd.prog 7 #[.slice (some ⟨b, off, none⟩) len cap] w fun e w2 => e = .returned (.bool false) ∧ Below w.heap.size w w2) := by rw [← hlo]; exact hostsOk_impl b off len cap S M w hc hm R
    clear hlo
    go_enter Tryd.func5, Tryd.ntmps5
    go_wp2_with fail
    refine CO.out.mono ?_
    rintro e w1 ⟨rfl, hb1⟩
    have HB1 := hid hb1
    clear hb1 CO
    go_wp2
    go_ret
    exact ⟨rfl, HB1.out⟩
  · rw [if_pos rfl]
    exact callsIn_wide.1 (implFold_yes b off len cap S M w hc hm R hlo ht)

end Go.Proofs.YtahhjhhnjpbocaaDoor
