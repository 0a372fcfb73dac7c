/- DERIVED. The walks of the law's own marks at rows of texts: markText, markStringS, heldStringS, and of eqStringS. -/
import Derived.Test.YtmafkelegjjnfacDoorRowStr
import Derived.Test.YtmafkelegjjnfacDoorDec
import Derived.Deep.RegionHeld3
import Derived.Deep.QuietTactic
import Derived.BigQuiet
namespace Go.Proofs.YtmafkelegjjnfacDoor
open Go.RowKit

/-- The figures of a mark, ahead of others. -/
def markL : Nat → Nat → ByteArray → ByteArray
  | 0, _, s => s
  | f + 1, k, s => if k = 0 then s else markL f (k / 10) (⟨#[UInt8.ofNat (48 + k % 10)]⟩ ++ s)

theorem markL_zero (f : Nat) (s : ByteArray) : markL f 0 s = s := by
  cases f with
  | zero => rfl
  | succ f => rw [markL, if_pos rfl]

theorem markL_step (f k : Nat) (s : ByteArray) (hf : k ≤ f) (hk : k ≠ 0) : ∃ g, k / 10 ≤ g ∧ markL f k s = markL g (k / 10) (⟨#[UInt8.ofNat (48 + k % 10)]⟩ ++ s) := by
  obtain ⟨g, rfl⟩ : ∃ g, f = g + 1 := ⟨f - 1, by omega⟩
  exact ⟨g, by omega, by rw [markL, if_neg hk]⟩

def markS (k : Nat) : ByteArray := ⟨#[109]⟩ ++ markL k k ⟨#[]⟩

set_option maxRecDepth 100000 in
set_option maxHeartbeats 800000 in
theorem markText_any (k : Nat) (w : World) (h1 : 1 ≤ k) (h6 : k ≤ 9999999) :
    Calls Tryd.prog 12 #[.int .i64 (k : Int)] w fun e w' => e = .returned (.string (markS k)) ∧ Below w.heap.size w w' := by
  obtain ⟨T, hT⟩ : ∃ T, T = markL k k ⟨#[]⟩ := ⟨_, rfl⟩
  unfold markS
  rw [← hT]
  have HT := hid hT
  clear hT
  have hneg : ¬ (k : Int) ≤ 0 := by omega
  go_enter Tryd.func12, Tryd.ntmps12
  go_wp2
  go_loopw [0, 3] (fun n s wr => Below w.heap.size w wr ∧ ∃ (j f d : Nat) (t : ByteArray), n = .int .i64 (j : Int) ∧ s = .string t ∧ j ≤ f ∧ j ≤ 9999999 ∧ j < 10 ^ d ∧ t.size + d ≤ 7 ∧ T = markL f j t) (fun n _ _ => (intOf n).toNat)
  case atStart => exact ⟨Below.refl _ _, k, k, 7, ⟨#[]⟩, rfl, rfl, Nat.le_refl _, h6, by omega, by decide, HT.out⟩
  case round =>
    obtain ⟨hB, j, f, d, t, rfl, rfl, hjf, hj6, hjd, htd, hr⟩ := hrel
    have HB := hid hB
    have HR := hid hr
    clear hB hr
    by_cases hz : j = 0
    · subst hz
      have HE : Hid (T = t) := by show T = t; rw [HR.out, markL_zero]
      have e109 : (⟨#[109]⟩ : ByteArray).size = 1 := rfl
      have hsum : (⟨#[109]⟩ : ByteArray).size + t.size ≤ 9223372036854775807 := by omega
      have hadd := fun W => run_string_add_sum (P := Tryd.prog) (w := W) ⟨#[109]⟩ t hsum
      clear e109 hsum
      clear hjd
      go_wp2
      go_ret
      exact ⟨by rw [HE.out]; rfl, HB.out⟩
    · have hjpos : (0 : Int) < (j : Int) := by omega
      have HSTEP := hid (markL_step f j t hjf hz)
      have hd1 : 1 ≤ d := by
        rcases Nat.eq_zero_or_pos d with e | e
        · subst e; simp at hjd; omega
        · exact e
      have HD : Hid (j / 10 < 10 ^ (d - 1)) := by
        obtain ⟨d', rfl⟩ : ∃ d', d = d' + 1 := ⟨d - 1, by omega⟩
        show j / 10 < 10 ^ (d' + 1 - 1)
        rw [Nat.add_sub_cancel, Nat.div_lt_iff_lt_mul (by decide)]
        rw [Nat.pow_succ] at hjd; exact hjd
      have hcv := conv_one (wr.alloc (.cells #[.int .u8 (48 + (j : Int) % 10)] 5)) wr.heap.size (48 + (j : Int) % 10) (by omega) (by omega) (by simp)
      rw [show (48 + (j : Int) % 10).toNat = 48 + j % 10 by omega] at hcv
      obtain ⟨z, hz⟩ : ∃ z : ByteArray, z = ⟨#[UInt8.ofNat (48 + j % 10)]⟩ := ⟨_, rfl⟩
      have hzs : z.size = 1 := by rw [hz]; rfl
      rw [← hz] at hcv HSTEP
      have hsum : z.size + t.size ≤ 9223372036854775807 := by omega
      have hadd := fun W => run_string_add_sum (P := Tryd.prog) (w := W) z t hsum
      have HSZ : Hid ((z ++ t).size = 1 + t.size) := by
        show (z ++ t).size = _
        rw [ByteArray.size_append, hzs]
      clear hz hzs hsum
      have hw1 : IntKind.i64.wrap ((j : Int) / 10) = (j : Int) / 10 := by rw [IntKind.wrap_i64]; omega
      have hm : (j : Int).tmod 10 = (j : Int) % 10 := Int.tmod_eq_emod_of_nonneg (by omega)
      have hqd : (j : Int).tdiv 10 = (j : Int) / 10 := Int.tdiv_eq_ediv_of_nonneg (by omega)
      have hw2 : IntKind.i64.wrap (48 + (j : Int) % 10) = 48 + (j : Int) % 10 := by rw [IntKind.wrap_i64]; omega
      have hw3 : IntKind.u8.wrap (48 + (j : Int) % 10) = 48 + (j : Int) % 10 := by rw [IntKind.wrap_u8]; omega
      have HJD := hid hjd
      have HTD := hid htd
      have HD1 := hid hd1
      have HS := hid HB.out.size
      clear hjd htd hd1 hz
      go_wp2
      go_roundw
      case rel =>
        obtain ⟨g, hg1, hg2⟩ := HSTEP.out
        have a1 := HTD.out
        have a2 := HD1.out
        have a3 := HSZ.out
        exact ⟨HB.out.alloc HS.out _, j / 10, g, d - 1, z ++ t, by go_num, rfl, hg1, by omega, HD.out, by omega, by rw [HR.out, hg2]⟩
      case measure => simp [intOf]; omega

/-- Texts lie in a row. -/
def TextsAt (w : World) (oa : Option Addr) (P : List ByteArray) : Prop := ∀ i (h : i < P.length), ∃ g, oa = some ⟨g, 0, none⟩ ∧ g < w.heap.size ∧ w.cell? ⟨g, i, none⟩ = some (.string P[i])

theorem TextsAt.below {w w' : World} {oa : Option Addr} {P : List ByteArray} (h : TextsAt w oa P) (hb : Below w.heap.size w w') : TextsAt w' oa P := by
  intro i hi
  obtain ⟨g, e, hg, hc⟩ := h i hi
  exact ⟨g, e, Nat.lt_of_lt_of_le hg hb.size, by rw [hb.cell (p := ⟨g, i, none⟩) hg]; exact hc⟩

theorem TextsAt.front {w : World} {oa : Option Addr} {P Q : List ByteArray} (h : TextsAt w oa (P ++ Q)) : TextsAt w oa P := by
  intro i hi
  obtain ⟨g, e, hg, hc⟩ := h i (by simp; omega)
  refine ⟨g, e, hg, ?_⟩
  rw [hc, List.getElem_append_left hi]

theorem texts_of {w : World} {base : Nat} {v : Value} {P : List ByteArray} (h : w.ownsRow base 9 1 v P.length (P.map Value.string)) : ∃ oa cp, v = .slice oa P.length cp ∧ P.length ≤ cp ∧ cp ≤ maxLen ∧ TextsAt w oa P := by
  rcases Nat.eq_zero_or_pos P.length with h0 | h0
  · rcases h.2 with ⟨e, _⟩ | ⟨g, cap, cur, e, _, _, hk, hm, _⟩
    · exact ⟨none, 0, by rw [h0]; exact e, by omega, Nat.zero_le _, fun i hi => by omega⟩
    · exact ⟨_, cap, e, hk, hm, fun i hi => by omega⟩
  · obtain ⟨g, cp, e, _, hg, hk, hm, hc⟩ := srow_cells h h0
    refine ⟨_, cp, e, hk, hm, fun i hi => ⟨g, rfl, hg, hc i _ ?_⟩⟩
    rw [List.getElem?_map, List.getElem?_eq_getElem hi]
    rfl

set_option maxHeartbeats 800000 in
theorem eqStr_same (oa ob : Option Addr) (ca cb : Nat) (P : List ByteArray) (w : World) (hl : P.length ≤ 100000) (hA : TextsAt w oa P) (hB : TextsAt w ob P) :
    Calls Tryd.prog 6 #[.slice oa P.length ca, .slice ob P.length cb] w fun e w' => e = .returned (.bool true) ∧ Below w.heap.size w w' := by
  have HA := hid hA
  have HB := hid hB
  clear hA hB
  obtain ⟨n, hn⟩ : ∃ n, n = P.length := ⟨_, rfl⟩
  have HN := hid hn
  rw [← hn] at hl ⊢
  clear hn
  go_enter Tryd.func6, Tryd.ntmps6
  go_wp2
  go_loopw [5] (fun i wr => ∃ k nq : Nat, k ≤ n ∧ i = .int .i64 k ∧ wr = w.drewN nq) (fun i _ => n - (intOf i).toNat)
  case atStart => exact ⟨0, 0, Nat.zero_le _, rfl, rfl⟩
  case round =>
    obtain ⟨k, nq, hk, rfl, rfl⟩ := hrel
    by_cases hlt : k < n
    · have hltI : (k : Int) < (n : Int) := by omega
      obtain ⟨ga, rfl, _, hca⟩ := HA.out k (by have := HN.out; omega)
      obtain ⟨gb, rfl, _, hcb⟩ := HB.out k (by have := HN.out; omega)
      obtain ⟨x, hx⟩ : ∃ x, x = P[k]'(by have := HN.out; omega) := ⟨_, rfl⟩
      rw [← hx] at hca hcb
      clear hx
      go_wp2
      go_quiet (fail)
      go_wp2
      go_roundw
      case rel => exact ⟨k + 1, _, by omega, by go_num, rfl⟩
      case measure => simp [intOf]; omega
    · have hltI : ¬ (k : Int) < (n : Int) := by omega
      go_wp2
      go_ret
      exact ⟨rfl, below_drewN (Below.refl _ _) _⟩

/-- What marks are. -/
def markV (i : Nat) : Value := .string (markS (i + 1))

def markedL (j : Nat) (xs : List Value) : List Value := (List.range j).map markV ++ xs.drop j

theorem marked_set (j : Nat) (xs : List Value) (h : j < xs.length) : (markedL j xs).set j (markV j) = markedL (j + 1) xs := by
  unfold markedL
  have hl : ((List.range j).map markV).length = j := by simp
  rw [List.set_append_right _ _ (by omega), hl, Nat.sub_self, List.range_succ, List.map_append, List.append_assoc]
  congr 1
  rw [List.drop_eq_getElem_cons h]
  rfl

theorem marked_all (xs : List Value) : markedL xs.length xs = (List.range xs.length).map markV := by
  unfold markedL
  simp

theorem own_cell {w : World} {base g cp n : Nat} {e : TypeId} {xs : List Value} (h : w.ownsRow base e 1 (.slice (some ⟨g, 0, none⟩) n cp) n xs) (j : Nat) (hj : j < n) : (∃ u, w.cell? ⟨g, j, none⟩ = some u) ∧ w.frozen? ⟨g, j, none⟩ = false := by
  rcases h.2 with ⟨e, _⟩ | ⟨g', cap, cur, e, _, hb, hkc, _, hcur, _⟩
  · cases e
  · injection e with e1 e2 e3
    injection e1 with e1
    injection e1 with e1
    subst e1
    have : j < cur.size := by rw [hcur]; omega
    exact ⟨⟨cur[j], by simp [World.cell?, hb, this]⟩, by simp [World.frozen?, hb]⟩

theorem heap_setCell_at (w : World) (g j : Nat) (cur : Array Value) (e : TypeId) (v : Value) (hh : w.heap[g]? = some (.cells cur e (0, 0))) : (w.setCell ⟨g, j, none⟩ v).heap[g]? = some (.cells (cur.setIfInBounds j v) e (0, 0)) := by
  have hlt := (Array.getElem?_eq_some_iff.1 hh).1
  have e0 : w.heap[g] = .cells cur e (0, 0) := by
    have := Array.getElem?_eq_getElem hlt
    rw [hh] at this
    exact (Option.some.inj this).symm
  unfold World.setCell
  simp [hlt, Array.getElem_modify, e0]

theorem row_store {w : World} {base : Nat} {e : TypeId} {g n cap : Nat} {xs : List Value} (h : w.ownsRow base e 1 (.slice (some ⟨g, 0, none⟩) n cap) n xs) (j : Nat) (v : Value) : (w.setCell ⟨g, j, none⟩ v).ownsRow base e 1 (.slice (some ⟨g, 0, none⟩) n cap) n (xs.set j v) := by
  obtain ⟨h1, h2⟩ := h
  refine ⟨by rw [List.length_set]; exact h1, ?_⟩
  rcases h2 with ⟨h0, _⟩ | ⟨g', cap', cur, hv, hg, hh, hn, hcap, hsz, htake⟩
  · cases h0
  · cases hv
    refine Or.inr ⟨g, cap, cur.setIfInBounds j v, rfl, hg, heap_setCell_at w g j cur e v hh, hn, hcap, by rw [Array.size_setIfInBounds]; exact hsz, ?_⟩
    rw [Array.toList_setIfInBounds, List.take_set, htake]

theorem grown_set (w : World) (g j : Nat) (u : Value) : w.grownBy (w.setCell ⟨g, j, none⟩ u) (some g) :=
  ⟨rfl, rfl, rfl, by simp [World.setCell], fun k _ hne => Below.heap_setCell _ _ _ _ (fun e => hne (by rw [e]))⟩

theorem grown_below {w w' : World} (h : Below w.heap.size w w') (row : Option Nat) : w.grownBy w' row := ⟨h.os, h.tape, h.output, h.size, fun k hk _ => h.block k hk⟩

theorem below_drew1 (w : World) : Below w.heap.size w w.drew := (Below.refl _ _).drew

set_option maxHeartbeats 400000 in
theorem mark_zero (oa : Option Addr) (cap : Nat) (w : World) :
    Calls Tryd.prog 7 #[.slice oa 0 cap, .int .i64 1] w fun e w' => e = .returned (.int .i64 1) ∧ w' = w := by
  go_enter Tryd.func7, Tryd.ntmps7
  go_wp2
  go_loop [1, 5] (fun k i => k = .int .i64 1 ∧ i = .int .i64 0) (fun _ _ => 0)
  case atStart => exact ⟨rfl, rfl⟩
  case round =>
    obtain ⟨rfl, rfl⟩ := hrel
    go_wp2
    go_ret
    exact ⟨rfl, rfl⟩

set_option maxHeartbeats 400000 in
theorem held_zero (oa : Option Addr) (cap : Nat) (w : World) :
    Calls Tryd.prog 8 #[.slice oa 0 cap, .int .i64 1] w fun e w' => e = .returned (.int .i64 1) ∧ w' = w := by
  go_enter Tryd.func8, Tryd.ntmps8
  go_wp2
  go_loop [1, 5] (fun k i => k = .int .i64 1 ∧ i = .int .i64 0) (fun _ _ => 0)
  case atStart => exact ⟨rfl, rfl⟩
  case round =>
    obtain ⟨rfl, rfl⟩ := hrel
    go_wp2
    go_ret
    exact ⟨rfl, rfl⟩

set_option maxRecDepth 100000 in
set_option maxHeartbeats 800000 in
theorem mark_any (g n cap base : Nat) (xs : List Value) (w : World) (hn : n ≤ 10000) (hx : xs.length = n) (h0 : w.ownsRow base 9 1 (.slice (some ⟨g, 0, none⟩) n cap) n xs) :
    Calls Tryd.prog 7 #[.slice (some ⟨g, 0, none⟩) n cap, .int .i64 1] w fun e w' => e = .returned (.int .i64 ((n + 1 : Nat) : Int)) ∧ w'.ownsRow base 9 1 (.slice (some ⟨g, 0, none⟩) n cap) n ((List.range n).map markV) ∧ w.grownBy w' (some g) := by
  have H0 := hid h0
  have HX := hid hx
  clear h0 hx
  go_enter Tryd.func7, Tryd.ntmps7
  go_wp2
  go_loopw [1, 5] (fun k i wr => ∃ j : Nat, j ≤ n ∧ i = .int .i64 (j : Int) ∧ k = .int .i64 ((j + 1 : Nat) : Int) ∧ wr.ownsRow base 9 1 (.slice (some ⟨g, 0, none⟩) n cap) n (markedL j xs) ∧ w.grownBy wr (some g)) (fun _ i _ => n - (intOf i).toNat)
  case atStart => exact ⟨0, Nat.zero_le _, rfl, rfl, by simpa [markedL] using H0.out, grown_below (Below.refl _ _) _⟩
  case round =>
    obtain ⟨j, hj, rfl, rfl, hown, hgr⟩ := hrel
    have HOWN := hid hown
    have HGR := hid hgr
    clear hown hgr
    by_cases hlt : j < n
    · obtain ⟨k, hk⟩ : ∃ k, k = j + 1 := ⟨_, rfl⟩
      have HK := hid hk
      rw [← hk]
      have hk1 : 1 ≤ k := by omega
      have hk2 : k ≤ 20000 := by omega
      have hjn : (j : Int) < (n : Int) := by omega
      have hj0 : (0 : Int) ≤ (j : Int) := by omega
      have CM := hid (fun W => markText_any k W hk1 (by omega))
      obtain ⟨z, hz⟩ : ∃ z, z = markS k := ⟨_, rfl⟩
      rw [← hz] at CM
      have HZ : Hid (markV j = .string z) := by show _ = _; unfold markV; rw [hz, hk]
      clear hz hk
      go_wp2_with fail
      refine (CM.out _).mono ?_
      rintro e w1 ⟨rfl, hb1⟩
      have HO := hid (row_ownBelow HOWN.out hb1)
      have HG1 : Hid (w.grownBy w1 (some g)) := HGR.out.trans (grown_below hb1 _)
      obtain ⟨⟨u, hu⟩, hf⟩ := own_cell HO.out j hlt
      clear hb1
      go_wp2
      go_roundw
      case rel =>
        have ek := HK.out
        refine ⟨j + 1, by omega, by go_num, ?_, ?_, HG1.out.trans (grown_set _ _ _ _)⟩
        · rw [ek]
          congr 1
        · have := row_store HO.out j (.string z)
          rw [← HZ.out, marked_set j xs (by rw [HX.out]; exact hlt)] at this
          rw [← HZ.out]
          exact this
      case measure => simp [intOf]; omega
    · have hj' : j = n := by omega
      subst hj'
      obtain ⟨k, hk⟩ : ∃ k, k = j + 1 := ⟨_, rfl⟩
      rw [← hk]
      have HK := hid hk
      clear hk
      have HF : Hid (wr.ownsRow base 9 1 (.slice (some ⟨g, 0, none⟩) j cap) j ((List.range j).map markV)) := by
        have := HOWN.out
        have e := marked_all xs
        rw [HX.out] at e
        rw [e] at this
        exact this
      go_wp2
      go_ret
      exact ⟨by rw [← HK.out]; rfl, HF.out, HGR.out⟩

set_option maxRecDepth 100000 in
set_option maxHeartbeats 800000 in
theorem held_any (g n cap : Nat) (w : World) (hn : n ≤ 10000) (R : ∀ i, i < n → w.cell? ⟨g, i, none⟩ = some (markV i)) :
    Calls Tryd.prog 8 #[.slice (some ⟨g, 0, none⟩) n cap, .int .i64 1] w fun e w' => e = .returned (.int .i64 ((n + 1 : Nat) : Int)) ∧ Below w.heap.size w w' := by
  have HR := hid R
  clear R
  go_enter Tryd.func8, Tryd.ntmps8
  go_wp2
  go_loopw [1, 5] (fun k i wr => ∃ j : Nat, j ≤ n ∧ i = .int .i64 (j : Int) ∧ k = .int .i64 ((j + 1 : Nat) : Int) ∧ Below w.heap.size w wr) (fun _ i _ => n - (intOf i).toNat)
  case atStart => exact ⟨0, Nat.zero_le _, rfl, rfl, Below.refl _ _⟩
  case round =>
    obtain ⟨j, hj, rfl, rfl, hB⟩ := hrel
    have HB := hid hB
    clear hB
    by_cases hlt : j < n
    · obtain ⟨k, hk⟩ : ∃ k, k = j + 1 := ⟨_, rfl⟩
      have HK := hid hk
      rw [← hk]
      have hk1 : 1 ≤ k := by omega
      have hk2 : k ≤ 20000 := by omega
      have hjn : (j : Int) < (n : Int) := by omega
      have hj0 : (0 : Int) ≤ (j : Int) := by omega
      have CM := hid (fun W => markText_any k W hk1 (by omega))
      obtain ⟨z, hz⟩ : ∃ z, z = markS k := ⟨_, rfl⟩
      rw [← hz] at CM
      have c0 : wr.cell? ⟨g, j, none⟩ = some (.string z) := by
        have h1 := HR.out j hlt
        rw [HB.out.cell (p := ⟨g, j, none⟩) (World.block_lt_of_cell? w _ h1), h1, hz, hk]; rfl
      have hgw : g < wr.heap.size := World.block_lt_of_cell? wr _ c0
      clear hz hk
      go_wp2_with fail
      go_region_held3 (fun w' => w'.cell? ⟨g, j, none⟩ = some (.string z)) (go_keep)
        ((go_at_call 12; refine (CM.out _).mono ?_; rintro e w1 ⟨rfl, hb1⟩; have HB1 := hid hb1; have k0 : w1.cell? ⟨g, j, none⟩ = some (.string z) := (by rw [hb1.cell (by exact hgw)]; exact c0); clear hb1))
      all_goals
        go_wp2
        go_roundw
        case rel =>
          have ek := HK.out
          refine ⟨j + 1, by omega, by go_num, by rw [ek]; congr 1, HB.out.trans (((below_drew1 wr).mono HB.out.size).trans (HB1.out.mono (by have := HB.out.size; simpa using this)))⟩
        case measure => simp [intOf]; omega
    · have hj' : j = n := by omega
      subst hj'
      obtain ⟨k, hk⟩ : ∃ k, k = j + 1 := ⟨_, rfl⟩
      rw [← hk]
      have HK := hid hk
      clear hk
      go_wp2
      go_ret
      exact ⟨by rw [← HK.out]; rfl, HB.out⟩

end Go.Proofs.YtmafkelegjjnfacDoor
