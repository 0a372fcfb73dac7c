/- DERIVED. The program's walk: one name with its numbers. -/
import Derived.RangeFuncBox
import Derived.Maps.AppendAt
import Derived.Deep.Onto
import Derived.Test.YtahhjhhnjpbocaaDoorFoldIter
import Derived.Test.YtahhjhhnjpbocaaDoorFoldNums
import Derived.Test.YtahhjhhnjpbocaaDoorPut
namespace Go.Proofs.YtahhjhhnjpbocaaDoor
open Go.RowKit Go.Shelf

attribute [local go_sem] Oper.semAt_some

theorem keepsRow_b {n₀ B1 B2 : Nat} {w : World} (hn : n₀ ≤ w.heap.size) (h1 : B1 < w.heap.size) (h2 : B2 < w.heap.size) (W : World) (l : Nat) (o o' : Obj) (hl : w.heap.size ≤ l) (h : W.heap[l]? = some o) (hc : o.isCells = false) (hw : o.isWalk = false) : KeepsRow n₀ B1 B2 W (W.putObj l o') := by
  have hlt := (Array.getElem?_eq_some_iff.1 h).1
  have hg := grownBy_putObj' W l o'
  exact ⟨belowK_b hn W l o o' hl h hc hw, World.cell?_of_block (a := ⟨B1, 0, none⟩) (hg.block B1 (by omega) (fun e => by cases e; omega)), World.cell?_of_block (a := ⟨B2, 0, none⟩) (hg.block B2 (by omega) (fun e => by cases e; omega))⟩

theorem ahead_stops (n : Nat) (hn : 1 ≤ n) (B1 B2 n₀ b off len cap : Nat) (S : Nat → ByteArray) (M : Nat → Int) (hc : len ≤ cap) (hm : cap ≤ maxLen) (hb : b < n₀) (hnum : ∀ i, i < len → 0 ≤ M i ∧ M i ≤ 999)
    (w : World) (hB1 : B1 < w.heap.size) (hB2 : B2 < w.heap.size) (hn₀ : n₀ ≤ w.heap.size)
    (c1 : w.cell? ⟨B1, 0, none⟩ = some (.slice (some ⟨b, off, none⟩) len cap)) (c2 : w.cell? ⟨B2, 0, none⟩ = some (.func (.func 29) #[] #[])) (R : RowAt w b off len S M) :
    SeqStopsK Fence.wide n Tryd.prog 28 #[.pointer (some ⟨B1, 0, none⟩), .pointer (some ⟨B2, 0, none⟩)] (handed b off len cap (nextP M)) (KeepsRow n₀ B1 B2) (fun ys => ys.map (·.1) = startsL (nextP M) 0 len) (fun _ => True) len w :=
  fun l J Jx W hW hJ _ hY h0 => runsAhead n hn l B1 B2 n₀ b off len cap (nextP M) S M hc hm hb
    (fun j w h1 h2 => by
      have e : nextP M j = (M (j - 1) + 1 == M j) := by
        unfold nextP
        rw [Bool.eq_iff_iff, beq_iff_eq, beq_iff_eq]; exact ⟨fun h => h.symm, fun h => h.symm⟩
      rw [e]
      exact justAhead_any _ _ _ _ w (hnum _ (by omega)).1 (hnum _ (by omega)).2)
    J Jx W.heap.size hJ W (Nat.lt_of_lt_of_le hB1 hW.size) (Nat.lt_of_lt_of_le hB2 hW.size) (Nat.le_trans hn₀ hW.size) hY
    ((hW.cell (p := ⟨B1, 0, none⟩) hB1).trans c1) ((hW.cell (p := ⟨B2, 0, none⟩) hB2).trans c2) (R.kept (Nat.lt_of_lt_of_le hb hn₀) hW) h0

theorem same_stops (n : Nat) (hn : 1 ≤ n) (B1 B2 n₀ b off len cap : Nat) (S : Nat → ByteArray) (M : Nat → Int) (hc : len ≤ cap) (hm : cap ≤ maxLen) (hb : b < n₀)
    (w : World) (hB1 : B1 < w.heap.size) (hB2 : B2 < w.heap.size) (hn₀ : n₀ ≤ w.heap.size)
    (c1 : w.cell? ⟨B1, 0, none⟩ = some (.slice (some ⟨b, off, none⟩) len cap)) (c2 : w.cell? ⟨B2, 0, none⟩ = some (.func (.func 15) #[] #[])) (R : RowAt w b off len S M) :
    SeqStopsK Fence.wide n Tryd.prog 28 #[.pointer (some ⟨B1, 0, none⟩), .pointer (some ⟨B2, 0, none⟩)] (handed b off len cap (sameP S)) (KeepsRow n₀ B1 B2) (fun ys => ys.map (·.1) = startsL (sameP S) 0 len) (fun _ => True) len w :=
  fun l J Jx W hW hJ _ hY h0 => runsSame n hn l B1 B2 n₀ b off len cap (sameP S) S M hc hm hb
    (fun j w h1 h2 => by
      have e : sameP S j = ((S (j - 1)).toList == (S j).toList) := by
        unfold sameP
        rw [Bool.eq_iff_iff, beq_iff_eq, beq_iff_eq]; exact ⟨fun h => h.symm, fun h => h.symm⟩
      rw [e]
      exact sameName_any _ _ _ _ w)
    J Jx W.heap.size hJ W (Nat.lt_of_lt_of_le hB1 hW.size) (Nat.lt_of_lt_of_le hB2 hW.size) (Nat.le_trans hn₀ hW.size) hY
    ((hW.cell (p := ⟨B1, 0, none⟩) hB1).trans c1) ((hW.cell (p := ⟨B2, 0, none⟩) hB2).trans c2) (R.kept (Nat.lt_of_lt_of_le hb hn₀) hW) h0

/-- The text of one run. -/
def runS (M : Nat → Int) (len i : Nat) : ByteArray := mkS (runL M i (stretch (nextP M) i len))

theorem join_nums (M : Nat → Int) (i n : Nat) (h : i < n) : Lib.join ((startsL (nextP M) i n).map (fun j => runL M j (stretch (nextP M) j n))) [44] = numsL M i n := by
  generalize hd : n - i = d
  induction d using Nat.strongRecOn generalizing i with
  | _ d ih =>
    have hp := stretch_pos (nextP M) i n
    rw [startsL_step _ _ _ h, List.map_cons, Lib.join_cons, numsL_eqn, dif_pos h]
    congr 1
    by_cases hl : i + stretch (nextP M) i n < n
    · rw [if_pos hl]
      have := ih (n - (i + stretch (nextP M) i n)) (by omega) (i + stretch (nextP M) i n) hl rfl
      rw [← this, startsL_step _ _ _ hl, List.map_cons, Lib.join_cons]
      simp [Lib.joinTail]
    · rw [if_neg hl, startsL_end _ _ _ hl]
      simp [Lib.joinTail]

theorem infoStr : (Tryd.prog.info? 9).map (fun i => (i.zero, i.size, i.bytes)) = some (some (.string ⟨#[]⟩), 1, 16) := by kernel_rfl

theorem ownsRow_below {W W' : World} {base : Nat} {e : TypeId} {size : Nat} {v : Value} {k : Nat} {xs : List Value} (h : W.ownsRow base e size v k xs) (hb : Below W.heap.size W W') : W'.ownsRow base e size v k xs := by
  refine h.kept (row := none) ⟨hb.os, hb.tape, hb.output, hb.size, fun i hi _ => hb.block i hi⟩ ?_
  rcases h.2 with ⟨rfl, _⟩ | ⟨g, cap, cur, rfl, _⟩
  · exact .inl rfl
  · exact .inr (by simp [Value.ownBlock])

theorem boxed_below {W W' : World} {B : Nat} {t : TypeId} {v : Value} (h : Boxed W B t v) (hb : Below W.heap.size W W') : Boxed W' B t v := (hb.block B h.lt).trans h

theorem others_below {W W' : World} (hb : Below W.heap.size W W') : KeepsOthers W W' :=
  KeepsOthers.of_grownBy (row := none) ⟨hb.os, hb.tape, hb.output, hb.size, fun i hi _ => hb.block i hi⟩ (fun j o ej _ => by cases ej)

theorem collect_box {W w1 : World} {n₀ B : Nat} {t e : TypeId} {size k : Nat} {v u : Value} {xs : List Value} {tmp : Obj} (h : Boxed W B t u) (hte : t ≠ e) (hrow : W.ownsRow n₀ e size v k xs) (hgrow : (W.alloc tmp).grownBy w1 v.ownBlock) : Boxed w1 B t u :=
  (h.alloc tmp).kept hgrow (h.not_row hte hrow)

theorem region_then {P : Program} {c : Code} {K : Act → World → Prop} {Q : Exit → Act → World → Prop} {a : Act} {w : World} (h : c.wp P (Exit.then K (fun _ _ _ => False)) a w) : c.wp P (Exit.then K Q) a w :=
  wp_mono h (fun e a w hq => by cases e <;> first | exact hq | exact False.elim hq)

theorem startsL_len (p : Nat → Bool) (i n : Nat) : (startsL p i n).length ≤ n - i := by
  generalize hd : n - i = d
  induction d using Nat.strongRecOn generalizing i with
  | _ d ih =>
    by_cases h : i < n
    · have hp := stretch_pos p i n
      rw [startsL_step _ _ _ h, List.length_cons]
      have := ih (n - (i + stretch p i n)) (by omega) (i + stretch p i n) rfl
      omega
    · rw [startsL_end _ _ _ h]; simp

theorem row_cells {W : World} {base : Nat} {e : TypeId} {v : Value} {k : Nat} {xs : List Value} (h : W.ownsRow base e 1 v k xs) (hk : 1 ≤ k) :
    ∃ g cp, v = .slice (some ⟨g, 0, none⟩) k cp ∧ g < W.heap.size ∧ k ≤ cp ∧ ∀ (j : Nat) x, xs[j]? = some x → W.cell? ⟨g, j, none⟩ = some x := by
  rcases h.2 with ⟨_, h0⟩ | ⟨g, cap, cur, rfl, _, hgb, hkc, _, _, htk⟩
  · omega
  · refine ⟨g, cap, rfl, (Array.getElem?_eq_some_iff.1 hgb).1, hkc, fun j x hx => ?_⟩
    rw [← htk, List.getElem?_take] at hx
    split at hx
    · simp [World.cell?, hgb]
      simpa using hx
    · cases hx

/-- What lies between two rounds. -/
def Between (w : World) (t1 t2 : TypeId) (u1 u2 : Value) (n : Nat) (f : Nat → ByteArray) (pre : List (At n)) (W : World) : Prop :=
  (∃ v, Boxed W w.heap.size 37 v ∧ W.ownsRow w.heap.size 9 1 v pre.length (pre.map (fun i => Value.string (f i.1))) ∧ True) ∧ (Boxed W (w.heap.size + 1) t1 u1 ∧ (Boxed W (w.heap.size + 1 + 1) t2 u2 ∧ Below w.heap.size w W))

theorem between_own (w : World) (t1 t2 : TypeId) (u1 u2 : Value) (n : Nat) (f : Nat → ByteArray) (B : Nat) (hB : w.heap.size ≤ B) : OwnFrom B (Between w t1 t2 u1 u2 n f) :=
  OwnFrom.and (Own.from (holdsRow_own w.heap.size w.heap.size 37 9 1 (fun pre : List (At n) => pre.length) (fun pre => pre.map (fun i => Value.string (f i.1))) (fun _ _ => True)) _)
    (OwnFrom.and (Own.from (boxed_own _ _ (fun _ => u1)) _) (OwnFrom.and (Own.from (boxed_own _ _ (fun _ => u2)) _) (ownFrom_below (Nat.le_refl _) hB)))

set_option maxRecDepth 100000 in
set_option maxHeartbeats 2000000 in
theorem foldName_many (b off len cap : Nat) (S : Nat → ByteArray) (M : Nat → Int) (w : World) (hc : len ≤ cap) (hm : cap ≤ maxLen) (h2 : 2 ≤ len) (h30 : len ≤ 30) (R : RowAt w b off len S M)
    (hname : (S 0).size ≤ 6) (hnum : ∀ i, i < len → 0 ≤ M i ∧ M i ≤ 999) (ht : Tab w) :
    CallsIn Fence.wide 9 Tryd.prog 16 #[.slice (some ⟨b, off, none⟩) len cap] w fun e w' => e = .returned (.string (mkS (nameL S M 0 len))) ∧ Below w.heap.size w w' := by
  obtain ⟨i0, hi, hz0, hz1, hz2⟩ := info_parts infoStr
  have HM := hid hnum
  have HT := hid ht
  clear hnum ht
  have hmax : (9223372036854775807 : Nat) = maxLen := rfl
  refine callsIn_of_wp_marks Tryd.func16 rfl trivial ?_ rfl
  simp only [Tryd.ntmps16, List.size_toArray, List.length_cons, List.length_nil, Nat.reduceAdd, Nat.reduceSub, Array.replicate_succ, Array.replicate_zero, List.push_toArray, List.append_toArray, List.nil_append, List.cons_append]
  have hne : ((len : Int) == 1) = false := by simp; omega
  gi_wp2_with (refine ⟨trivial, ?_⟩; gi_at_call 14; refine (callsIn_wide.2 (runs_any _ _ _ _ _)).mono ?_; rintro e w' ⟨rfl, rfl⟩)
  obtain ⟨W0, hW0⟩ : ∃ W0, ((w.alloc (.cells #[.slice none 0 0] 37)).alloc (.cells #[.slice (some ⟨b, off, none⟩) len cap] 23)).alloc (.cells #[.func (.func 29) #[] #[]] 41) = W0 := ⟨_, rfl⟩
  have bO : Boxed W0 w.heap.size 37 (.slice none 0 0) := by rw [← hW0]; exact ((Boxed.new w _ _).alloc _).alloc _
  have b1 : Boxed W0 (w.heap.size + 1) 23 (.slice (some ⟨b, off, none⟩) len cap) := by
    rw [← hW0]
    have := (Boxed.new (w.alloc (.cells #[.slice none 0 0] 37)) 23 (.slice (some ⟨b, off, none⟩) len cap)).alloc (.cells #[.func (.func 29) #[] #[]] 41)
    rw [World.size_alloc] at this; exact this
  have b2 : Boxed W0 (w.heap.size + 1 + 1) 41 (.func (.func 29) #[] #[]) := by
    rw [← hW0]
    have := Boxed.new ((w.alloc (.cells #[.slice none 0 0] 37)).alloc (.cells #[.slice (some ⟨b, off, none⟩) len cap] 23)) 41 (.func (.func 29) #[] #[])
    rw [World.size_alloc, World.size_alloc] at this; exact this
  have hB0 : Below w.heap.size w W0 := by rw [← hW0]; exact (((Below.refl _ w).alloc (Nat.le_refl _) _).alloc (by simp) _).alloc (by simp; omega) _
  have hsz : W0.heap.size = w.heap.size + 3 := by rw [← hW0]; simp
  have hR0 := R.kept R.old hB0
  try rw [hW0]
  refine wpIn_rangeFunc_ownG rfl (by omega) (gf := 28) (lb := #[.pointer (some ⟨w.heap.size + 1, 0, none⟩), .pointer (some ⟨w.heap.size + 1 + 1, 0, none⟩)]) rfl trivial (enters_of Tryd.func28 (by kernel_rfl) rfl)
    (ahead_stops 8 (by omega) (w.heap.size + 1) (w.heap.size + 1 + 1) w.heap.size b off len cap S M hc hm R.old HM.out W0 (by omega) (by omega) (by omega) b1.cell b2.cell hR0) KeepsRow.trans (keepsRow_b (by omega) (by omega) (by omega)) (Below.refl _ _) (fun _ => rfl)
    (Between w 23 41 (.slice (some ⟨b, off, none⟩) len cap) (.func (.func 29) #[] #[]) len (runS M len))
    (fun _ _ _ => False)
    (between_own _ _ _ _ _ _ _ _ (by omega))
    (fun _ _ _ _ _ hs _ _ => hs)
    ⟨⟨_, bO, World.ownsRow_nil _ _ _ _, trivial⟩, b1, b2, hB0⟩
    (fun x => { tmps := #[.slice (some ⟨b, off, none⟩) len cap, undef, .string ⟨#[]⟩, .pointer (some ⟨w.heap.size, 0, none⟩), .slice (some ⟨b, off + x.1 * 2, none⟩) (stretch (nextP M) x.1 len) (cap - x.1), undef, .slice (some ⟨b, off, none⟩) len cap, .int .i64 (len : Int), .bool false, undef, undef, undef, undef, .slice (some ⟨b, off, none⟩) len cap, .func (.func 28) #[] #[.pointer (some ⟨w.heap.size + 1, 0, none⟩), .pointer (some ⟨w.heap.size + 1 + 1, 0, none⟩)], .slice (some ⟨b, off + x.1 * 2, none⟩) (stretch (nextP M) x.1 len) (cap - x.1), undef, undef, undef, undef, undef, undef, undef, undef, undef, undef, undef, undef, undef, undef, undef, undef, undef, undef, undef, undef, undef, undef, undef, undef, undef, undef, undef, undef, undef, undef, undef, undef], defers := [] }) ?assign ?body ?done ?stop
  case assign =>
    intro l x W K hK
    unfold handed
    gi_wp2
    exact hK
  case body =>
    rintro l pre ⟨i, hil⟩ W ⟨⟨v, hv, hrow, _⟩, b1W, b2W, hBW⟩ hlt
    have HBW := hid hBW
    clear hBW
    have HRW : Hid (RowAt W b off len S M) := R.kept R.old HBW.out
    have hg1 := stretch_pos (nextP M) i len
    have hg2 := stretch_le (nextP M) i len hil
    obtain ⟨g, hgs⟩ : ∃ g, g = stretch (nextP M) i len := ⟨_, rfl⟩
    have HG := hid hgs.symm
    rw [← hgs] at hg1 hg2
    dsimp only
    rw [← hgs]
    clear hgs
    obtain ⟨cc, hcc⟩ : ∃ cc, cc = cap - i := ⟨_, rfl⟩
    rw [← hcc]
    have hgc : g ≤ cc := by omega
    have hcm : cc ≤ 9223372036854775807 := by omega
    clear hcc
    obtain ⟨u, hu⟩ : ∃ u : Nat, M i = (u : Int) := ⟨(M i).toNat, by have := HM.out i hil; omega⟩
    have hub : u ≤ 999 := by have := HM.out i hil; omega
    obtain ⟨r, hr⟩ : ∃ r, r = decS u := ⟨_, rfl⟩
    have hrs : r.size ≤ 1000 := by have := decS_size u; rw [hr]; omega
    have HRL : Hid (r.data.toList = decL (M i)) := by show _ = _; rw [hr, decS_l, hu]
    have CD : Hid (∀ w, Tab w → Calls Tryd.prog 23 #[.int .i64 (u : Int)] w fun e w' => e = .returned (.string r) ∧ Below w.heap.size w w') := fun w ht => by rw [hr]; exact itoa_any u w (by omega) ht
    have c1 := HRW.out.num i hil
    rw [hu] at c1
    clear hu hr
    have hgp : (0 : Int) < (g : Int) := by omega
    have hbw : b < w.heap.size := R.old
    have hpl : pre.length < 30 := by omega
    by_cases hone : g = 1
    · have HZ : Hid (r = runS M len i) := by
        refine mkS_of ?_
        rw [HRL.out, HG.out, runL, if_neg (by omega)]; simp
      have hone' : ¬ (1 : Int) < (g : Int) := by omega
      have HONE := hid hone
      clear hone
      gi_wp2_with fail
      refine ⟨trivial, ?_⟩
      refine (CallsIn.inRound l (callsIn_wide.2 (CD.out _ (HT.out.below HBW.out)))).mono ?_
      rintro e w3 ⟨rfl, hb3⟩
      have HB3 : Hid (Below w.heap.size w w3) := HBW.out.trans (hb3.mono HBW.out.size)
      have hv3 := boxed_below hv hb3
      have b13 := boxed_below b1W hb3
      have b23 := boxed_below b2W hb3
      have HO3 := hid (others_below hb3)
      have HBB := hid (hb3.mono HBW.out.size)
      replace hrow := ownsRow_below hrow hb3
      clear hb3 CD c1 hv
      have hcv := hv3.cell
      gi_wp2_with (gi_at_builtin; refine wpListIn_append_own _ rfl _ _ 37 rfl w.heap.size 9 i0 (.string ⟨#[]⟩) 1 16 Tryd.underlying37 hi hz0 hz1 hz2 rfl (by decide) _ _ _ rfl (hrow.alloc _) ⟨w3.heap.size, 0, none⟩ 1 1 [.string r] rfl rfl (cell_one_new _ _ _) (by simp [Value.oneCell']) (by omega) (by omega) (by have := HB3.out.size; simp; omega) ?_; intro v' wz hown' hgrow _; obtain ⟨g', cap', rfl⟩ := ownsRow_succ hown'; obtain ⟨hv1, hv2, hr2, hk2, hb2⟩ := hv3.appended (by decide) hrow HB3.out.size (Nat.le_refl _) hown' hgrow; have b1' := collect_box b13 (by decide) hrow hgrow; have b2' := collect_box b23 (by decide) hrow hgrow; have hc1 := hv1.cell; have hf1 := hv1.frozen)
      have b1'' := b1'.other (B' := w.heap.size) (by omega) (.slice (some ⟨g', 0, none⟩) (pre.length + 1) cap')
      have b2'' := b2'.other (B' := w.heap.size) (by omega) (.slice (some ⟨g', 0, none⟩) (pre.length + 1) cap')
      rw [HZ.out] at hr2
      exact ⟨(HO3.out.trans hk2).from _, ⟨HBB.out.trans hb2, b1''.cell.trans b1W.cell.symm, b2''.cell.trans b2W.cell.symm⟩, ⟨_, hv2, by simpa using hr2, trivial⟩, b1'', b2'', HB3.out.trans hb2⟩
    · obtain ⟨p, hp⟩ : ∃ p, p = g - 1 := ⟨_, rfl⟩
      have HP := hid hp
      have hsub : (g : Int) - 1 = (p : Int) := by omega
      have hwp : IntKind.i64.wrap (p : Int) = (p : Int) := by rw [IntKind.wrap_i64]; omega
      have hpg : p < g := by omega
      have hgm : (1 : Int) < (g : Int) := by omega
      clear hp
      obtain ⟨vv, hvv⟩ : ∃ vv : Nat, M (i + p) = (vv : Int) := ⟨(M (i + p)).toNat, by have := HM.out (i + p) (by omega); omega⟩
      have hvb : vv ≤ 999 := by have := HM.out (i + p) (by omega); omega
      obtain ⟨r2, hr2⟩ : ∃ r2, r2 = decS vv := ⟨_, rfl⟩
      have hrs2 : r2.size ≤ 1000 := by have := decS_size vv; rw [hr2]; omega
      have HRL2 : Hid (r2.data.toList = decL (M (i + p))) := by show _ = _; rw [hr2, decS_l, hvv]
      have CD2 : Hid (∀ w, Tab w → Calls Tryd.prog 23 #[.int .i64 (vv : Int)] w fun e w' => e = .returned (.string r2) ∧ Below w.heap.size w w') := fun w ht => by rw [hr2]; exact itoa_any vv w (by omega) ht
      have c2 := HRW.out.num (i + p) (by omega)
      rw [hvv, show off + (i + p) * 2 + 1 = off + i * 2 + p * 2 + 1 by omega] at c2
      clear hvv hr2
      obtain ⟨d1, hd1⟩ : ∃ d1, d1 = ⟨#[45]⟩ ++ r2 := ⟨_, rfl⟩
      have hds : d1.size ≤ 1001 := by rw [hd1, ByteArray.size_append]; have : (ByteArray.mk #[45]).size = 1 := rfl; omega
      have HD : Hid (d1.data.toList = 45 :: decL (M (i + p))) := by show _ = _; rw [hd1, cat_l, HRL2.out]; rfl
      have hadd1 := fun W => run_string_add_sum (P := Tryd.prog) (w := W) ⟨#[45]⟩ r2 (by have : (ByteArray.mk #[45]).size = 1 := rfl; omega)
      rw [← hd1] at hadd1
      clear hd1
      obtain ⟨z, hz⟩ : ∃ z, z = r ++ d1 := ⟨_, rfl⟩
      have HZL : Hid (z.data.toList = decL (M i) ++ 45 :: decL (M (i + p))) := by show _ = _; rw [hz, cat_l, HRL.out, HD.out]
      have hadd2 := fun W => run_string_add_sum (P := Tryd.prog) (w := W) r d1 (by omega)
      rw [← hz] at hadd2
      clear hz
      have HZ : Hid (z = runS M len i) := by
        refine mkS_of ?_
        rw [HZL.out, HG.out, runL, if_pos (by omega), show i + g - 1 = i + p by omega]
      have HONE := hid hone
      clear hone
      gi_wp2_with fail
      refine ⟨trivial, ?_⟩
      refine (CallsIn.inRound l (callsIn_wide.2 (CD.out _ (HT.out.below HBW.out)))).mono ?_
      rintro e w2 ⟨rfl, hb2⟩
      have HB2 : Hid (Below w.heap.size w w2) := HBW.out.trans (hb2.mono HBW.out.size)
      have HWB2 := hid hb2
      have c3 := (hb2.cell (p := ⟨b, off + i * 2 + p * 2 + 1, none⟩) (by have := HBW.out.size; simp; omega)).trans c2
      clear hb2 CD c1 c2
      gi_wp2_with fail
      refine ⟨trivial, ?_⟩
      refine (CallsIn.inRound l (callsIn_wide.2 (CD2.out _ (HT.out.below HB2.out)))).mono ?_
      rintro e w3 ⟨rfl, hb3'⟩
      have hb3 : Below W.heap.size W w3 := HWB2.out.trans (hb3'.mono HWB2.out.size)
      have HB3 : Hid (Below w.heap.size w w3) := HBW.out.trans (hb3.mono HBW.out.size)
      have hv3 := boxed_below hv hb3
      have b13 := boxed_below b1W hb3
      have b23 := boxed_below b2W hb3
      have HO3 := hid (others_below hb3)
      have HBB := hid (hb3.mono HBW.out.size)
      replace hrow := ownsRow_below hrow hb3
      clear hb3 hb3' CD2 c3 hv
      have hcv := hv3.cell
      gi_wp2_with (gi_at_builtin; refine wpListIn_append_own _ rfl _ _ 37 rfl w.heap.size 9 i0 (.string ⟨#[]⟩) 1 16 Tryd.underlying37 hi hz0 hz1 hz2 rfl (by decide) _ _ _ rfl (hrow.alloc _) ⟨w3.heap.size, 0, none⟩ 1 1 [.string z] rfl rfl (cell_one_new _ _ _) (by simp [Value.oneCell']) (by omega) (by omega) (by have := HB3.out.size; simp; omega) ?_; intro v' wz hown' hgrow _; obtain ⟨g', cap', rfl⟩ := ownsRow_succ hown'; obtain ⟨hv1, hv2, hr2, hk2, hb2⟩ := hv3.appended (by decide) hrow HB3.out.size (Nat.le_refl _) hown' hgrow; have b1' := collect_box b13 (by decide) hrow hgrow; have b2' := collect_box b23 (by decide) hrow hgrow; have hc1 := hv1.cell; have hf1 := hv1.frozen)
      have b1'' := b1'.other (B' := w.heap.size) (by omega) (.slice (some ⟨g', 0, none⟩) (pre.length + 1) cap')
      have b2'' := b2'.other (B' := w.heap.size) (by omega) (.slice (some ⟨g', 0, none⟩) (pre.length + 1) cap')
      rw [HZ.out] at hr2
      exact ⟨(HO3.out.trans hk2).from _, ⟨HBB.out.trans hb2, b1''.cell.trans b1W.cell.symm, b2''.cell.trans b2W.cell.symm⟩, ⟨_, hv2, by simpa using hr2, trivial⟩, b1'', b2'', HB3.out.trans hb2⟩
  case done =>
    rintro D ys W hD hS ⟨⟨v, hv, hrow, _⟩, b1W, b2W, hBW⟩ hK
    have hcv := hv.cell
    have hyl : 1 ≤ ys.length := by
      have := congrArg List.length hS
      rw [startsL_step _ _ _ (by omega)] at this
      simp at this; omega
    have hyl2 : ys.length ≤ 30 := by
      have := congrArg List.length hS
      have := startsL_len (nextP M) 0 len
      rw [List.length_map] at *
      omega
    obtain ⟨g, cp, cells⟩ := row_cells hrow hyl
    obtain ⟨rfl, hgw, hcp, hcells⟩ := cells
    have HJN : Hid (Lib.join ((ys.map (fun i => runS M len i.1)).map (·.data.toList)) [44] = numsL M 0 len) := by
      show _ = _
      rw [← join_nums M 0 len (by omega), ← hS, List.map_map, List.map_map]
      congr 1
    obtain ⟨jn, hjn⟩ : ∃ jn, jn = mkS (numsL M 0 len) := ⟨_, rfl⟩
    have HNL := hid (numsL_len M 0 len (fun j _ h => (HM.out j h).2))
    have HJL : Hid (jn.data.toList = numsL M 0 len) := by show _ = _; rw [hjn]; simp [mkS]
    have hjs : jn.size ≤ 61000 := by
      have h1 := HNL.out
      have h2 := congrArg List.length HJL.out
      have h3 : jn.data.toList.length = jn.size := by simp
      omega
    have CJ : Hid (Calls Tryd.prog 17 #[.slice (some ⟨g, 0, none⟩) ys.length cp, .string ⟨#[44]⟩] W.drew fun e w' => e = .returned (.string jn) ∧ Below W.drew.heap.size W.drew w') := by
      have h := Go.Proofs.Tryd.strings_Join g 0 cp (ys.map (fun i => runS M len i.1)) ⟨#[44]⟩ W.drew (fun j x hx => by
          have := hcells j (.string x) (by rw [List.getElem?_map] at hx ⊢; cases e : ys[j]? with
            | none => rw [e] at hx; cases hx
            | some y => rw [e] at hx; simp at hx ⊢; exact hx)
          simpa using this) (by simpa using hgw) (by simp; omega) (by simpa using hcp) (by rw [HJN.out]; have := HNL.out; omega)
      rw [List.length_map] at h
      rw [HJN.out] at h
      rw [hjn]; exact h
    clear hjn
    obtain ⟨a1, ha1⟩ : ∃ a1, a1 = S 0 ++ ⟨#[91]⟩ := ⟨_, rfl⟩
    have HA1 : Hid (a1.data.toList = (S 0).data.toList ++ [91]) := by show _ = _; rw [ha1, cat_l]
    have has1 : a1.size ≤ 7 := by rw [ha1, ByteArray.size_append]; have : (ByteArray.mk #[91]).size = 1 := rfl; omega
    have hadd1 := fun W => run_string_add_sum (P := Tryd.prog) (w := W) (S 0) ⟨#[91]⟩ (by have : (ByteArray.mk #[91]).size = 1 := rfl; omega)
    rw [← ha1] at hadd1
    clear ha1
    obtain ⟨a2, ha2⟩ : ∃ a2, a2 = a1 ++ jn := ⟨_, rfl⟩
    have HA2 : Hid (a2.data.toList = (S 0).data.toList ++ [91] ++ numsL M 0 len) := by show _ = _; rw [ha2, cat_l, HA1.out, HJL.out]
    have has2 : a2.size ≤ 61007 := by rw [ha2, ByteArray.size_append]; omega
    have hadd2 := fun W => run_string_add_sum (P := Tryd.prog) (w := W) a1 jn (by omega)
    rw [← ha2] at hadd2
    clear ha2
    obtain ⟨a3, ha3⟩ : ∃ a3, a3 = a2 ++ ⟨#[93]⟩ := ⟨_, rfl⟩
    have HA3 : Hid (a3 = mkS (nameL S M 0 len)) := by
      refine mkS_of ?_
      rw [ha3, cat_l, HA2.out, nameL, if_neg (by omega)]
      simp
    have hadd3 := fun W => run_string_add_sum (P := Tryd.prog) (w := W) a2 ⟨#[93]⟩ (by have : (ByteArray.mk #[93]).size = 1 := rfl; omega)
    rw [← ha3] at hadd3
    clear ha3
    have HBW := hid hBW
    clear hBW
    have HRW : Hid (RowAt W b off len S M) := R.kept R.old HBW.out
    have c0 := HRW.out.name 0 (by omega)
    rw [Nat.zero_mul, Nat.add_zero] at c0
    have hl0 : (0 : Int) < (len : Int) := by omega
    have hl1 : 0 < len := by omega
    have HK := hid hK
    have hDW : D < W.heap.size := (Array.getElem?_eq_some_iff.1 hK).1
    have hbw : b < w.heap.size := R.old
    clear hK hcells
    gi_wp2_with fail
    refine wpIn_wide.2 (region_then ?_)
    refine wp_region_held_drew (S := fun w' => w'.cell? ⟨b, off, none⟩ = some (.string (S 0)) ∧ w'.cell? ⟨w.heap.size, 0, none⟩ = some (.slice (some ⟨g, 0, none⟩) ys.length cp)) (by kernel_rfl) ?_ (fun hS => ?_)
    · exact ⟨c0, hcv⟩
    refine takeH_on 0 (v := ?_) rfl rfl (by kernel_rfl) (by kernel_rfl) (by kernel_rfl) (fun _ _ _ h => h) (by rfl) hS (fun w hSw => ?_) ?_
    rotate_left
    · ((try dsimp only at hSw); go_simp; try with_reducible rfl)
    simp only [List.setIfInBounds_toArray, List.set_cons_zero, List.set_cons_succ]
    refine takeH_on 1 (v := .pointer (some ⟨b, off, none⟩)) rfl rfl (by kernel_rfl) (by kernel_rfl) (by kernel_rfl) (fun _ _ _ h => h) (by rfl) hS (fun w hSw => ?_) ?_
    · ((try dsimp only at hSw); go_simp; try with_reducible rfl)
    simp only [List.setIfInBounds_toArray, List.set_cons_zero, List.set_cons_succ]
    refine takeH_on 2 (v := ?_) rfl rfl (by kernel_rfl) (by kernel_rfl) (by kernel_rfl) (fun _ _ _ h => h) (by rfl) hS (fun w hSw => ?_) ?_
    rotate_left
    · ((try dsimp only at hSw); go_simp; try with_reducible rfl)
    simp only [List.setIfInBounds_toArray, List.set_cons_zero, List.set_cons_succ]
    refine takeH_on 3 (v := ?_) rfl rfl (by kernel_rfl) (by kernel_rfl) (by kernel_rfl) (fun _ _ _ h => h) (by rfl) hS (fun w hSw => ?_) ?_
    rotate_left
    · ((try dsimp only at hSw); go_simp; try with_reducible rfl)
    simp only [List.setIfInBounds_toArray, List.set_cons_zero, List.set_cons_succ]
    refine takeH_on 4 (v := .string a1) rfl rfl (by kernel_rfl) (by kernel_rfl) (by kernel_rfl) (fun _ _ _ h => h) (by rfl) hS (fun w hSw => ?_) ?_
    · ((try dsimp only at hSw); go_simp; try with_reducible rfl)
    simp only [List.setIfInBounds_toArray, List.set_cons_zero, List.set_cons_succ]
    refine takeH_on 5 (v := ?_) rfl rfl (by kernel_rfl) (by kernel_rfl) (by kernel_rfl) (fun _ _ _ h => h) (by rfl) hS (fun w hSw => ?_) ?_
    rotate_left
    · ((try dsimp only at hSw); go_simp; try with_reducible rfl)
    simp only [List.setIfInBounds_toArray, List.set_cons_zero, List.set_cons_succ]
    refine wpAnyH_ready (rs := [6]) (by kernel_rfl) (by simp) (AllReadyH.cons rfl (fun K hK => ?_) AllReadyH.nil)
    clear hS
    go_simp
    go_wp2_with fail
    refine CJ.out.mono ?_
    rintro e w5 ⟨rfl, hb5⟩
    have k1 := (hb5.cell (p := ⟨b, off, none⟩) (by have := HBW.out.size; simp; omega)).trans c0
    have k2 := (hb5.cell (p := ⟨w.heap.size, 0, none⟩) hv.lt).trans hcv
    have HK5 : Hid (w5.heap[D]? = some (.deferred (some []))) := (hb5.block D hDW).trans HK.out
    have HB5 : Hid (Below w.heap.size w w5) := HBW.out.drew.trans (hb5.mono HBW.out.size)
    clear hb5 CJ
    refine Shut.out hK _ _ ⟨k1, k2⟩ (fun hS => ?_)
    clear hK K
    refine takeH_on 7 (v := .string a2) rfl rfl (by kernel_rfl) (by kernel_rfl) (by kernel_rfl) (fun _ _ _ h => h) (by rfl) hS (fun w hSw => ?_) ?_
    · ((try dsimp only at hSw); go_simp; try with_reducible rfl)
    simp only [List.setIfInBounds_toArray, List.set_cons_zero, List.set_cons_succ]
    refine takeH_on 8 (v := .string a3) rfl rfl (by kernel_rfl) (by kernel_rfl) (by kernel_rfl) (fun _ _ _ h => h) (by rfl) hS (fun w hSw => ?_) ?_
    · ((try dsimp only at hSw); go_simp; try with_reducible rfl)
    simp only [List.setIfInBounds_toArray, List.set_cons_zero, List.set_cons_succ]
    refine takeH_on 9 (v := ?_) rfl rfl (by kernel_rfl) (by kernel_rfl) (by kernel_rfl) (fun _ _ _ h => h) (by rfl) hS (fun w hSw => ?_) ?_
    rotate_left
    · ((try dsimp only at hSw); go_simp; try with_reducible rfl)
    simp only [List.setIfInBounds_toArray, List.set_cons_zero, List.set_cons_succ]
    refine wpAnyH_done (by kernel_rfl) ?_ _
    gi_wp2
    refine ⟨by simp, .inl ⟨_, _, rfl, run_takeDeferred HK5.out, ?_⟩⟩
    refine ⟨_, results_tmp rfl _ _ _, by rw [HA3.out]; rfl, ?_⟩
    exact HB5.out.trans (belowK_b (w := w) (Nat.le_refl _) w5 D _ _ (by omega) HK5.out rfl rfl)
  case stop =>
    rintro D c pre W _ _ h _
    exact h.elim

end Go.Proofs.YtahhjhhnjpbocaaDoor
