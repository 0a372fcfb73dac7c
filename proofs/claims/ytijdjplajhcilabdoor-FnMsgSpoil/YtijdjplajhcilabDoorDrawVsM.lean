/- DERIVED. The walks of what draws votes: l16Votes. The walks of what draws entries: l16Ballot, l16Entries. -/
import Derived.Test.YtijdjplajhcilabDoorGetEnts
import Derived.Test.YtijdjplajhcilabDoorDrawHostM
import Derived.Deep.LoopGhost
namespace Go.Proofs.YtijdjplajhcilabDoor
open Go.RowKit

theorem Drawn.belowV {R : Nat} {oa : Option Addr} {len cap q : Nat} {w w1 w2 : World} (h : Drawn R oa len cap q w w1) (hb : Below w1.heap.size w1 w2) : Drawn R oa len cap q w w2 :=
  ⟨h.1.keep hb, h.2.trans (Keeps.of_below hb h.1.old)⟩

theorem Drawn.thenV {R : Nat} {oa : Option Addr} {len cap q q' : Nat} {w w1 w2 : World} (h : Drawn R oa len cap q w w1) (k : Drawn R oa len cap q' w1 w2) : Drawn R oa len cap q' w w2 :=
  ⟨k.1, h.2.trans k.2⟩

/-- A reader, behind a row that has grown. -/
theorem Drawn.growV {R : Nat} {oa : Option Addr} {len cap p0 q g : Nat} {w w1 w2 : World} (h0 : RdAt w R oa len cap p0) (h : Drawn R oa len cap q w w1) (hg : w1.grownBy w2 (some g)) (hw : w.heap.size ≤ g) : Drawn R oa len cap q w w2 := by
  have hR := h0.old
  have hs := h.2.size
  have hcell : ∀ b o, b < w.heap.size → w2.cell? ⟨b, o, none⟩ = w1.cell? ⟨b, o, none⟩ := fun b o hb => World.cell?_of_block (a := ⟨b, o, none⟩) (hg.block b (by omega) (fun e => by injection e with e; omega))
  have hfro : ∀ b o, b < w.heap.size → w2.frozen? ⟨b, o, none⟩ = w1.frozen? ⟨b, o, none⟩ := fun b o hb => World.frozen?_of_block (a := ⟨b, o, none⟩) (hg.block b (by omega) (fun e => by injection e with e; omega))
  refine ⟨⟨Nat.lt_of_lt_of_le h.1.old hg.size, by rw [hcell R 0 hR]; exact h.1.code, by rw [hcell R 1 hR]; exact h.1.place, by rw [hfro R 1 hR]; exact h.1.free, h.1.short, fun i hi => ?_⟩, ⟨Nat.le_trans hs hg.size, fun B w0 hB hb => ?_, fun b o hb hn => by rw [hcell b o hb]; exact h.2.cell b o hb hn, fun b o hb => by rw [hfro b o hb]; exact h.2.frozen b o hb, fun b hb hn => (hg.block b (by omega) (fun e => by injection e with e; omega)).trans (h.2.block b hb hn)⟩⟩
  · obtain ⟨b, off, c, e, hb, hn, hc, h1, h2⟩ := h.1.bytes i hi
    obtain ⟨b', off', c', e', hb', _⟩ := h0.bytes i hi
    rw [e] at e'
    injection e' with e'
    injection e' with e1 e2
    subst e1
    exact ⟨b, off, c, e, Nat.lt_of_lt_of_le hb hg.size, hn, by rw [hcell b _ hb']; exact hc, h1, h2⟩
  · exact (h.2.below B w0 hB hb).grown hg (by omega) (fun k hk => by injection hk with hk; omega)

theorem own_blockV {w : World} {base : Nat} {e : TypeId} {size n : Nat} {v : Value} {xs : List Value} (h : w.ownsRow base e size v n xs) : (∃ g, v.ownBlock = some g ∧ base ≤ g) ∨ v.ownBlock = none := by
  cases hv : v.ownBlock with
  | none => exact Or.inr rfl
  | some g => exact Or.inl ⟨g, rfl, (h.lt g hv).1⟩

theorem Drawn.grownV {R : Nat} {oa : Option Addr} {len cap p0 q size n : Nat} {e : TypeId} {v : Value} {xs : List Value} {w w1 w2 : World} (h0 : RdAt w R oa len cap p0) (h : Drawn R oa len cap q w w1) (hown : w1.ownsRow w.heap.size e size v n xs) (hg : w1.grownBy w2 v.ownBlock) : Drawn R oa len cap q w w2 := by
  rcases own_blockV hown with ⟨g, hv, hb⟩ | hv
  · rw [hv] at hg; exact Drawn.growV h0 h hg hb
  · rw [hv] at hg
    exact h.belowV ⟨hg.os, hg.tape, hg.output, hg.size, fun k hk => hg.block k hk (fun e => by cases e)⟩

theorem cell_newV (w : World) (u : Value) (e : TypeId) : ∀ (j : Nat) x, [u][j]? = some x → (w.alloc (.cells #[u] e)).cell? ((⟨w.heap.size, 0, none⟩ : Addr).add j) = some x := by
  intro j x hj
  match j, hj with
  | 0, hj => simp at hj; subst hj; simp [Addr.add]
  | n + 1, hj => simp at hj

theorem ints_ten (W : World) : IntsAt (W.alloc (.cells #[.int .i64 (-1), .int .i64 0, .int .i64 0, .int .i64 0, .int .i64 1, .int .i64 1, .int .i64 2, .int .i64 123, .int .i64 126, .int .i64 127] 3)) W.heap.size 10 (-1) 127 := by
  refine ints_new W _ _ _ 10 (-1) 127 rfl (by rfl) ?_
  intro v hv
  simp at hv
  rcases hv with rfl | rfl | rfl | rfl | rfl | rfl | rfl | rfl <;> simp [intOk]

theorem ints_three (W : World) : IntsAt (W.alloc (.cells #[.int .i64 (-2), .int .i64 128, .int .i64 0] 3)) W.heap.size 3 (-2) 128 := by
  refine ints_new W _ _ _ 3 (-2) 128 rfl (by rfl) ?_
  intro v hv
  simp at hv
  rcases hv with rfl | rfl | rfl <;> simp [intOk]

set_option maxRecDepth 100000 in
set_option maxHeartbeats 1600000 in
theorem votes_any (R : Nat) (oa : Option Addr) (len cap p n : Nat) (w : World) (h : RdAt w R oa len cap p) (hp : p ≤ 100000) (hn : n ≤ 3) :
    Calls Tryd.prog 22 #[.pointer (some ⟨R, 0, none⟩), .int .i64 (n : Int)] w fun e w' => (∃ v : Value, e = .returned v ∧ ∃ V : List Int, w'.ownsRow w.heap.size 3 1 v V.length (V.map (Value.int .i64)) ∧ V.length ≤ 3) ∧ (∃ q, q ≤ p + 3 ∧ Drawn R oa len cap q w w') := by
  have HR := hid h
  have hRo := h.old
  obtain ⟨i0, hi, hz0, hz1, hz2⟩ := info_parts infoInt
  have HAL : Hid (Below w.heap.size w (w.alloc (.cells #[] 3))) := (Below.refl _ _).alloc (Nat.le_refl _) _
  have HROW : Hid ((w.alloc (.cells #[] 3)).ownsRow w.heap.size 3 1 (.slice (some ⟨w.heap.size, 0, none⟩) 0 0) 0 []) := World.ownsRow_made w #[] 0 (Nat.le_refl _) (by decide) rfl
  have HD0 : Hid (Drawn R oa len cap p w (w.alloc (.cells #[] 3))) := ⟨h.keep HAL.out, Keeps.of_below HAL.out h.old⟩
  clear h
  go_enter Tryd.func22, Tryd.ntmps22
  go_wp2
  go_loopg [5] n (fun gh v wr => ∃ (V : List Int) (q : Nat), V.length + gh = n ∧ q + gh ≤ p + n ∧ wr.ownsRow w.heap.size 3 1 v V.length (V.map (Value.int .i64)) ∧ Drawn R oa len cap q w wr)
  case atStart => exact ⟨[], p, by simp, by omega, HROW.out, HD0.out⟩
  case round =>
    obtain ⟨V, q, hV, hq, hrow, hd⟩ := hrel
    have HD := hid hd
    have HRW := hid hrow
    have hRw := hd.1.old
    have HSZ := hid hd.2.size
    obtain ⟨ov, cv, rfl⟩ := rowv_shape hrow
    clear hd hrow HD0 HROW HAL
    cases gk with
    | zero =>
      have hcI : ¬ (V.length : Int) < (n : Int) := by omega
      have HV3 : Hid (V.length ≤ 3) := by show _ ≤ _; omega
      obtain ⟨m, hm⟩ : ∃ m, m = V.length := ⟨_, rfl⟩
      have HM := hid hm
      rw [← hm] at hcI ⊢
      clear hV hm
      go_wp2
      go_ret
      exact ⟨⟨.slice ov m cv, rfl, V, by rw [HM.out]; exact HRW.out, HV3.out⟩, q, by omega, HD.out⟩
    | succ g =>
      have hcI : (V.length : Int) < (n : Int) := by omega
      obtain ⟨m, hm⟩ : ∃ m, m = V.length := ⟨_, rfl⟩
      have HM := hid hm
      rw [← hm] at hcI hV ⊢
      clear hm
      go_wp2_with fail
      refine (one_any R _ 10 (-1) 127 oa len cap q _ (HD.out.1.keep ((Below.refl _ _).alloc (Nat.le_refl _) _)) (by omega) (by decide) (by decide) ?_ ?_ ?_).mono ?_
      · simp
      · omega
      · exact ints_ten _
      rintro e w2 ⟨⟨z, rfl, hz⟩, hd2⟩
      have HD2 : Hid (Drawn R oa len cap (q + 1) w w2) := ⟨hd2.1, HD.out.2.trans ((Keeps.of_below ((Below.refl _ _).alloc (Nat.le_refl _) _) hRw).trans hd2.2)⟩
      have hown2 : w2.ownsRow w.heap.size 3 1 (.slice ov m cv) m (V.map (Value.int .i64)) := by
        have := rowv_keeps (row_below HRW.out ((Below.refl _ _).alloc (Nat.le_refl _) _)) hd2.2 hRo
        rw [← HM.out] at this
        exact this
      have HS2 : Hid (w.heap.size ≤ w2.heap.size) := HD2.out.2.size
      clear hd2 hz
      go_wp2_with (at_builtin; refine wpList_append_own _ rfl _ _ 23 rfl w.heap.size 3 i0 (.int .i64 0) 1 8 Tryd.underlying23 hi hz0 hz1 hz2 rfl (by decide) _ _ _ rfl (hown2.alloc _) ⟨w2.heap.size, 0, none⟩ 1 1 [.int .i64 z] rfl rfl (cell_newV _ _ _) (by simp [Value.oneCell']) (by unfold maxLen; omega) (by omega) (by have := HS2.out; simp; omega) ?_)
      intro v' w3 hown' hgrow _
      have HD3 : Hid (Drawn R oa len cap (q + 1) w w3) := Drawn.grownV HR.out (HD2.out.belowV ((Below.refl _ _).alloc (Nat.le_refl _) _)) (hown2.alloc _) hgrow
      have HOWN' := hid hown'
      clear hown' hgrow hown2
      go_wp2
      go_roundg g
      case measure => omega
      case rel =>
        refine ⟨V ++ [z], q + 1, by simp; rw [← HM.out]; omega, by omega, ?_, HD3.out⟩
        have := HOWN'.out
        rw [HM.out] at this
        simpa using this

end Go.Proofs.YtijdjplajhcilabDoor

namespace Go.Proofs.YtijdjplajhcilabDoor
open Go.RowKit

theorem ints_ballot (W : World) (x : Int) (hx0 : 0 ≤ x) (hx1 : x < 30) : IntsAt (W.alloc (.cells #[.int .i64 1, .int .i64 3, .int .i64 4, .int .i64 5, .int .i64 6, .int .i64 7, .int .i64 8, .int .i64 9, .int .i64 10, .int .i64 (3 + x), .int .i64 9998, .int .i64 9999] 3)) W.heap.size 12 0 9999 := by
  refine ints_new W _ _ _ 12 0 9999 rfl (by rfl) ?_
  intro v hv
  simp at hv
  rcases hv with rfl | rfl | rfl | rfl | rfl | rfl | rfl | rfl | rfl | rfl | rfl | rfl <;> simp [intOk] <;> omega

set_option maxRecDepth 100000 in
set_option maxHeartbeats 1600000 in
theorem ballot_any (R : Nat) (oa : Option Addr) (len cap p : Nat) (w : World) (h : RdAt w R oa len cap p) (hp : p ≤ 100000) :
    Calls Tryd.prog 46 #[.pointer (some ⟨R, 0, none⟩)] w fun e w' => (∃ z : Int, e = .returned (.int .i64 z)) ∧ Drawn R oa len cap (p + 2) w w' := by
  have HR := hid h
  clear h
  go_enter Tryd.func46, Tryd.ntmps46
  go_wp2_with fail
  refine (pick_any R oa len cap p 30 _ HR.out (by omega) (by decide)).mono ?_
  rintro e w1 ⟨⟨x, rfl, hx0, hx1⟩, hd⟩
  have HD1 := hid hd
  have hRw := hd.1.old
  have hw : IntKind.i64.wrap (3 + x) = 3 + x := by rw [IntKind.wrap_i64]; omega
  clear hd
  go_wp2_with fail
  refine (one_any R _ 12 0 9999 oa len cap (p + 1) _ (HD1.out.1.keep ((Below.refl _ _).alloc (Nat.le_refl _) _)) (by omega) (by decide) (by decide) ?_ ?_ (ints_ballot _ x hx0 hx1)).mono ?_
  · simp
  · omega
  rintro e w2 ⟨⟨z, rfl, _⟩, hd2⟩
  have HD2 : Hid (Drawn R oa len cap (p + 2) w w2) := ⟨hd2.1, HD1.out.2.trans ((Keeps.of_below ((Below.refl _ _).alloc (Nat.le_refl _) _) hRw).trans hd2.2)⟩
  clear hd2
  go_wp2
  go_ret
  exact ⟨⟨z, rfl⟩, HD2.out⟩

set_option maxRecDepth 100000 in
set_option maxHeartbeats 3200000 in
theorem drawEnts_any (R : Nat) (oa : Option Addr) (len cap p n : Nat) (w : World) (h : RdAt w R oa len cap p) (hp : p ≤ 90000) (hn : n ≤ 3) :
    Calls Tryd.prog 47 #[.pointer (some ⟨R, 0, none⟩), .int .i64 (n : Int)] w fun e w' => (∃ v : Value, e = .returned v ∧ ∃ (L : List Ent) (xs : List Value), w'.ownsRow w.heap.size 53 3 v L.length xs ∧ ECells w.heap.size w' L xs ∧ L.length ≤ 3) ∧ (∃ q, q ≤ p + 20 ∧ Drawn R oa len cap q w w') := by
  have HR := hid h
  have HRo : Hid (R < w.heap.size) := h.old
  obtain ⟨i0, hi, hz0, hz1, hz2⟩ := info_parts infoEnt
  have hal : Below w.heap.size w (w.alloc (.cells #[] 53)) := (Below.refl _ _).alloc (Nat.le_refl _) _
  have HROW : Hid ((w.alloc (.cells #[] 53)).ownsRow w.heap.size 53 3 (.slice (some ⟨w.heap.size, 0, none⟩) 0 0) 0 []) := World.ownsRow_made w #[] 0 (Nat.le_refl _) (by decide) rfl
  have HD0 : Hid (Drawn R oa len cap p w (w.alloc (.cells #[] 53))) := ⟨h.keep hal, Keeps.of_below hal h.old⟩
  clear h hal
  go_enter Tryd.func47, Tryd.ntmps47
  go_wp2_with fail
  refine (pick_any R oa len cap p 2 _ HD0.out.1 (by omega) (by decide)).mono ?_
  rintro e w1 ⟨⟨x, rfl, hx0, hx1⟩, hd⟩
  have HD1 := hid (HD0.out.thenV hd)
  have HROW1 := hid (rowv_keeps HROW.out hd.2 HRo.out)
  clear hd
  go_wp2_with fail
  refine (pick_any R oa len cap (p + 1) 4 _ HD1.out.1 (by omega) (by decide)).mono ?_
  rintro e w2 ⟨⟨y, rfl, hy0, hy1⟩, hd⟩
  have HD2 := hid (HD1.out.thenV hd)
  have HROW2 := hid (rowv_keeps HROW1.out hd.2 HRo.out)
  obtain ⟨k, rfl⟩ : ∃ k : Nat, y = (k : Int) := ⟨y.toNat, by omega⟩
  clear hd HROW HROW1 HD0 HD1
  have hk3 : k ≤ 3 := by omega
  clear hy0 hy1
  go_wp2
  go_loopw [5, 6, 7] (fun v zi ni wr => ∃ (j : Nat) (z : Int) (L : List Ent) (xs : List Value) (q : Nat), j ≤ 3 ∧ ni = .int .i64 (j : Int) ∧ zi = .int .i64 z ∧ -100 ≤ z ∧ z ≤ 100 - 10 * j ∧ Hid (L.length + j ≤ 3) ∧ q + 6 * j ≤ p + 20 ∧ Hid (wr.ownsRow w.heap.size 53 3 v L.length xs) ∧ Hid (ECells w.heap.size wr L xs) ∧ Hid (Drawn R oa len cap q w wr)) (fun _ _ ni _ => (intOf ni).toNat)
  case atStart => exact ⟨k, x, [], [], p + 2, hk3, rfl, rfl, by omega, by omega, by show 0 + k ≤ 3; omega, by omega, HROW2, ⟨rfl, fun i hi => absurd hi (Nat.not_lt_zero _)⟩, HD2⟩
  case round =>
    obtain ⟨j, z, L, xs, q, hj, rfl, rfl, hz1', hz2', HLL, hq, HRW, HEC, HD⟩ := hrel
    obtain ⟨ov, cv, rfl⟩ := rowv_shape HRW.out
    have HL3 : Hid (L.length ≤ 3) := by have := HLL.out; show _ ≤ _; omega
    obtain ⟨m, hm⟩ : ∃ m, m = L.length := ⟨_, rfl⟩
    have HM := hid hm
    rw [← hm]
    clear hm
    have hm3 : m ≤ 3 := by rw [HM.out]; exact HL3.out
    by_cases hgo : 0 < j ∧ z < 12
    · obtain ⟨hj0, hz12⟩ := hgo
      have hjI : (0 : Int) < (j : Int) := by omega
      go_wp2_with fail
      refine (ballot_any R oa len cap q _ HD.out.1 (by omega)).mono ?_
      rintro e w3 ⟨⟨bb, rfl⟩, hd⟩
      have HD3 := hid (HD.out.thenV hd)
      have HRW3 := hid (rowv_keeps HRW.out hd.2 HRo.out)
      have HEC3 := hid (HEC.out.kept (kept_keeps hd.2 HRo.out))
      clear hd
      go_wp2_with fail
      refine (votes_any R oa len cap (q + 2) n _ HD3.out.1 (by omega) hn).mono ?_
      rintro e w4 ⟨⟨v, rfl, V, hv, hV3⟩, q4, hq4, hd⟩
      have HD4 := hid (HD3.out.thenV hd)
      have HRW4 := hid (rowv_keeps HRW3.out hd.2 HRo.out)
      have HEC4 := hid (HEC3.out.kept (kept_keeps hd.2 HRo.out))
      obtain ⟨ovv, cvv, rfl⟩ := rowv_shape hv
      have HNI : Hid (NumsIn w.heap.size w4 ovv V) := (NumsIn.of_row hv).base HD3.out.2.size
      have HS4 : Hid (w.heap.size ≤ w4.heap.size) := HD4.out.2.size
      obtain ⟨vn, hvn⟩ : ∃ vn, vn = V.length := ⟨_, rfl⟩
      have HVN := hid hvn
      rw [← hvn] at hV3 ⊢
      have hown := HRW4.out
      rw [← HM.out] at hown
      clear hd hv hvn
      go_wp2_with (at_builtin; refine wpList_append_own _ rfl _ _ 24 rfl w.heap.size 53 i0 (.agg #[.int .i64 0, .int .i64 0, .slice none 0 0]) 3 40 Tryd.underlying24 hi hz0 hz1 hz2 rfl (by decide) _ _ _ rfl (hown.alloc _) ⟨w4.heap.size, 0, none⟩ 1 1 [.int .i64 z, .int .i64 bb, .slice ovv vn cvv] rfl rfl (cell_three _ _ _ _ _) (by simp [Value.oneCell']) (by unfold maxLen; omega) (by omega) (by have := HS4.out; simp; omega) ?_)
      intro v' w5 hown' hgrow _
      have hala : Below w4.heap.size w4 (w4.alloc (.cells #[.int .i64 z, .int .i64 bb, .slice ovv vn cvv] 53)) := (Below.refl _ _).alloc (Nat.le_refl _) _
      have HD5 : Hid (Drawn R oa len cap q4 w w5) := Drawn.grownV HR.out (HD4.out.belowV hala) (hown.alloc _) hgrow
      have HEC5 : Hid (ECells w.heap.size w5 (L ++ [(z, bb, V)]) (xs ++ [.int .i64 z, .int .i64 bb, .slice ovv vn cvv])) := by
        show ECells _ _ _ _
        rw [HVN.out]
        exact (ECells.add HEC4.out (by have := HVN.out; omega) HNI.out).kept (fun b cur fz hb hh => kept_grown (hown.alloc _) hgrow b cur fz hb (kept_below hala b cur fz hb hh))
      have HRW5 : Hid (w5.ownsRow w.heap.size 53 3 v' (L ++ [(z, bb, V)]).length (xs ++ [.int .i64 z, .int .i64 bb, .slice ovv vn cvv])) := by
        show w5.ownsRow _ _ _ _ _ _
        rw [List.length_append, ← HM.out]
        exact hown'
      have HLN : Hid ((L ++ [(z, bb, V)]).length + (j - 1) ≤ 3) := by have := HLL.out; show _ ≤ _; rw [List.length_append]; simp; omega
      clear hown hown' hgrow hala
      go_wp2_with fail
      refine (pick_any R oa len cap q4 2 _ HD5.out.1 (by omega) (by decide)).mono ?_
      rintro e w6 ⟨⟨x2, rfl, hx20, hx21⟩, hd⟩
      have HD6 := hid (HD5.out.thenV hd)
      have HRW6 := hid (rowv_keeps HRW5.out hd.2 HRo.out)
      have HEC6 := hid (HEC5.out.kept (kept_keeps hd.2 HRo.out))
      have hw1 : IntKind.i64.wrap (z + 1) = z + 1 := by rw [IntKind.wrap_i64]; omega
      have hw2 : IntKind.i64.wrap (z + 1 + x2) = z + 1 + x2 := by rw [IntKind.wrap_i64]; omega
      have hw3 : IntKind.i64.wrap ((j : Int) - 1) = (j : Int) - 1 := by rw [IntKind.wrap_i64]; omega
      clear hd
      go_wp2
      go_roundw
      case rel => exact ⟨j - 1, z + 1 + x2, L ++ [(z, bb, V)], _, q4 + 1, by omega, by first | rfl | (congr 1; omega), by first | rfl | (congr 1; omega), by omega, by omega, HLN, by omega, HRW6, HEC6, HD6⟩
      case measure => simp [intOf]; omega
    · by_cases hj0 : 0 < j
      · have hjI : (0 : Int) < (j : Int) := by omega
        have hz12 : ¬ z < 12 := fun h => hgo ⟨hj0, h⟩
        clear hgo
        go_wp2
        go_ret
        exact ⟨⟨.slice ov m cv, rfl, L, xs, by rw [HM.out]; exact HRW.out, HEC.out, HL3.out⟩, q, by omega, HD.out⟩
      · have hjI : ¬ (0 : Int) < (j : Int) := by omega
        clear hgo
        go_wp2
        go_ret
        exact ⟨⟨.slice ov m cv, rfl, L, xs, by rw [HM.out]; exact HRW.out, HEC.out, HL3.out⟩, q, by omega, HD.out⟩

end Go.Proofs.YtijdjplajhcilabDoor

