/- DERIVED. The walks of what draws votes: l16Votes, DrawPolicy. -/
import Derived.Test.YtgkhkogenbphfadVotePol
import Derived.Test.YtgkhkogenbphfadDrawHost2
import Derived.Deep.LoopGhost
namespace Go.Proofs.Ytgkhkogenbphfad
open Go.RowKit

theorem infoInt : (Try.prog.info? 3).map (fun i => (i.zero, i.size, i.bytes)) = some (some (.int .i64 0), 1, 8) := by kernel_rfl

theorem rowv_shape {base : Nat} {e : TypeId} {size n : Nat} {v : Value} {xs : List Value} {w : World} (h : w.ownsRow base e size v n xs) : ∃ oa cp, v = .slice oa n cp := by
  rcases h.2 with ⟨e1, e2⟩ | ⟨g, cap, cur, e1, _⟩
  · subst e2; exact ⟨_, _, e1⟩
  · exact ⟨_, _, e1⟩

theorem rowv_keeps {w w' : World} {base R : Nat} {e : TypeId} {size n : Nat} {v : Value} {xs : List Value} (h : w.ownsRow base e size v n xs) (hk : Keeps R w w') (hR : R < base) : w'.ownsRow base e size v n xs := by
  refine ⟨h.1, ?_⟩
  rcases h.2 with h0 | ⟨g, cap, cur, e1, e2, hb, e3⟩
  · exact Or.inl h0
  · refine Or.inr ⟨g, cap, cur, e1, e2, ?_, e3⟩
    rw [hk.block g ?_ (by omega)]
    · exact hb
    · rcases Nat.lt_or_ge g w.heap.size with hh | hh
      · exact hh
      · rw [Array.getElem?_eq_none hh] at hb; cases hb

theorem row_base {w : World} {base b' : Nat} {e : TypeId} {size n : Nat} {v : Value} {xs : List Value} (h : w.ownsRow b' e size v n xs) (hb : base ≤ b') : w.ownsRow base e size v n xs := by
  refine ⟨h.1, ?_⟩
  rcases h.2 with h0 | ⟨g, cap, cur, e1, e2, h3⟩
  · exact Or.inl h0
  · exact Or.inr ⟨g, cap, cur, e1, Nat.le_trans hb e2, h3⟩

theorem Drawn.belowV {R : Nat} {oa : Option Addr} {len cap q : Nat} {w w1 w2 : World} (h : Drawn R oa len cap q w w1) (hb : Below w1.heap.size w1 w2) : Drawn R oa len cap q w w2 :=
  ⟨h.1.keep hb, h.2.trans (Keeps.of_below hb h.1.old)⟩

theorem Drawn.thenV {R : Nat} {oa : Option Addr} {len cap q q' : Nat} {w w1 w2 : World} (h : Drawn R oa len cap q w w1) (k : Drawn R oa len cap q' w1 w2) : Drawn R oa len cap q' w w2 :=
  ⟨k.1, h.2.trans k.2⟩

/-- A reader, behind a row that has grown. -/
theorem Drawn.growV {R : Nat} {oa : Option Addr} {len cap p0 q g : Nat} {w w1 w2 : World} (h0 : RdAt w R oa len cap p0) (h : Drawn R oa len cap q w w1) (hg : w1.grownBy w2 (some g)) (hw : w.heap.size ≤ g) : Drawn R oa len cap q w w2 := by
  have hR := h0.old
  have hs := h.2.size
  have hcell : ∀ b o, b < w.heap.size → w2.cell? ⟨b, o, none⟩ = w1.cell? ⟨b, o, none⟩ := fun b o hb => World.cell?_of_block (a := ⟨b, o, none⟩) (hg.block b (by omega) (fun e => by injection e with e; omega))
  have hfro : ∀ b o, b < w.heap.size → w2.frozen? ⟨b, o, none⟩ = w1.frozen? ⟨b, o, none⟩ := fun b o hb => World.frozen?_of_block (a := ⟨b, o, none⟩) (hg.block b (by omega) (fun e => by injection e with e; omega))
  refine ⟨⟨Nat.lt_of_lt_of_le h.1.old hg.size, by rw [hcell R 0 hR]; exact h.1.code, by rw [hcell R 1 hR]; exact h.1.place, by rw [hfro R 1 hR]; exact h.1.free, h.1.short, fun i hi => ?_⟩, ⟨Nat.le_trans hs hg.size, fun B w0 hB hb => ?_, fun b o hb hn => by rw [hcell b o hb]; exact h.2.cell b o hb hn, fun b o hb => by rw [hfro b o hb]; exact h.2.frozen b o hb, fun b hb hn => (hg.block b (by omega) (fun e => by injection e with e; omega)).trans (h.2.block b hb hn)⟩⟩
  · obtain ⟨b, off, c, e, hb, hn, hc, h1, h2⟩ := h.1.bytes i hi
    obtain ⟨b', off', c', e', hb', _⟩ := h0.bytes i hi
    rw [e] at e'
    injection e' with e'
    injection e' with e1 e2
    subst e1
    exact ⟨b, off, c, e, Nat.lt_of_lt_of_le hb hg.size, hn, by rw [hcell b _ hb']; exact hc, h1, h2⟩
  · exact (h.2.below B w0 hB hb).grown hg (by omega) (fun k hk => by injection hk with hk; omega)

theorem own_blockV {w : World} {base : Nat} {e : TypeId} {size n : Nat} {v : Value} {xs : List Value} (h : w.ownsRow base e size v n xs) : (∃ g, v.ownBlock = some g ∧ base ≤ g) ∨ v.ownBlock = none := by
  cases hv : v.ownBlock with
  | none => exact Or.inr rfl
  | some g => exact Or.inl ⟨g, rfl, (h.lt g hv).1⟩

theorem Drawn.grownV {R : Nat} {oa : Option Addr} {len cap p0 q size n : Nat} {e : TypeId} {v : Value} {xs : List Value} {w w1 w2 : World} (h0 : RdAt w R oa len cap p0) (h : Drawn R oa len cap q w w1) (hown : w1.ownsRow w.heap.size e size v n xs) (hg : w1.grownBy w2 v.ownBlock) : Drawn R oa len cap q w w2 := by
  rcases own_blockV hown with ⟨g, hv, hb⟩ | hv
  · rw [hv] at hg; exact Drawn.growV h0 h hg hb
  · rw [hv] at hg
    exact h.belowV ⟨hg.os, hg.tape, hg.output, hg.size, fun k hk => hg.block k hk (fun e => by cases e)⟩

theorem cell_new1 (w : World) (u : Value) (e : TypeId) : ∀ (j : Nat) x, [u][j]? = some x → (w.alloc (.cells #[u] e)).cell? ((⟨w.heap.size, 0, none⟩ : Addr).add j) = some x := by
  intro j x hj
  match j, hj with
  | 0, hj => simp at hj; subst hj; simp [Addr.add]
  | n + 1, hj => simp at hj

theorem ints_ten (W : World) : IntsAt (W.alloc (.cells #[.int .i64 (-1), .int .i64 0, .int .i64 0, .int .i64 0, .int .i64 1, .int .i64 1, .int .i64 2, .int .i64 123, .int .i64 126, .int .i64 127] 3)) W.heap.size 10 (-1) 127 := by
  refine ints_new W _ _ _ 10 (-1) 127 rfl (by rfl) ?_
  intro v hv
  simp at hv
  rcases hv with rfl | rfl | rfl | rfl | rfl | rfl | rfl | rfl <;> simp [intOk]

theorem ints_three (W : World) : IntsAt (W.alloc (.cells #[.int .i64 (-2), .int .i64 128, .int .i64 0] 3)) W.heap.size 3 (-2) 128 := by
  refine ints_new W _ _ _ 3 (-2) 128 rfl (by rfl) ?_
  intro v hv
  simp at hv
  rcases hv with rfl | rfl | rfl <;> simp [intOk]

set_option maxRecDepth 100000 in
set_option maxHeartbeats 1600000 in
theorem votes_any (R : Nat) (oa : Option Addr) (len cap p n : Nat) (w : World) (h : RdAt w R oa len cap p) (hp : p ≤ 100000) (hn : n ≤ 3) :
    Calls Try.prog 8 #[.pointer (some ⟨R, 0, none⟩), .int .i64 (n : Int)] w fun e w' => (∃ v : Value, e = .returned v ∧ ∃ V : List Int, w'.ownsRow w.heap.size 3 1 v V.length (V.map (Value.int .i64)) ∧ V.length ≤ 3) ∧ (∃ q, q ≤ p + 3 ∧ Drawn R oa len cap q w w') := by
  have HR := hid h
  have hRo := h.old
  obtain ⟨i0, hi, hz0, hz1, hz2⟩ := info_parts infoInt
  have HAL : Hid (Below w.heap.size w (w.alloc (.cells #[] 3))) := (Below.refl _ _).alloc (Nat.le_refl _) _
  have HROW : Hid ((w.alloc (.cells #[] 3)).ownsRow w.heap.size 3 1 (.slice (some ⟨w.heap.size, 0, none⟩) 0 0) 0 []) := World.ownsRow_made w #[] 0 (Nat.le_refl _) (by decide) rfl
  have HD0 : Hid (Drawn R oa len cap p w (w.alloc (.cells #[] 3))) := ⟨h.keep HAL.out, Keeps.of_below HAL.out h.old⟩
  clear h
  go_enter Try.func8, Try.ntmps8
  go_wp2
  go_loopg [5] n (fun gh v wr => ∃ (V : List Int) (q : Nat), V.length + gh = n ∧ q + gh ≤ p + n ∧ wr.ownsRow w.heap.size 3 1 v V.length (V.map (Value.int .i64)) ∧ Drawn R oa len cap q w wr)
  case atStart => exact ⟨[], p, by simp, by omega, HROW.out, HD0.out⟩
  case round =>
    obtain ⟨V, q, hV, hq, hrow, hd⟩ := hrel
    have HD := hid hd
    have HRW := hid hrow
    have hRw := hd.1.old
    have HSZ := hid hd.2.size
    obtain ⟨ov, cv, rfl⟩ := rowv_shape hrow
    clear hd hrow HD0 HROW HAL
    cases gk with
    | zero =>
      have hcI : ¬ (V.length : Int) < (n : Int) := by omega
      have HV3 : Hid (V.length ≤ 3) := by show _ ≤ _; omega
      obtain ⟨m, hm⟩ : ∃ m, m = V.length := ⟨_, rfl⟩
      have HM := hid hm
      rw [← hm] at hcI ⊢
      clear hV hm
      go_wp2
      go_ret
      exact ⟨⟨.slice ov m cv, rfl, V, by rw [HM.out]; exact HRW.out, HV3.out⟩, q, by omega, HD.out⟩
    | succ g =>
      have hcI : (V.length : Int) < (n : Int) := by omega
      obtain ⟨m, hm⟩ : ∃ m, m = V.length := ⟨_, rfl⟩
      have HM := hid hm
      rw [← hm] at hcI hV ⊢
      clear hm
      go_wp2_with fail
      refine (one_any R _ 10 (-1) 127 oa len cap q _ (HD.out.1.keep ((Below.refl _ _).alloc (Nat.le_refl _) _)) (by omega) (by decide) (by decide) ?_ ?_ ?_).mono ?_
      · simp
      · omega
      · exact ints_ten _
      rintro e w2 ⟨⟨z, rfl, hz⟩, hd2⟩
      have HD2 : Hid (Drawn R oa len cap (q + 1) w w2) := ⟨hd2.1, HD.out.2.trans ((Keeps.of_below ((Below.refl _ _).alloc (Nat.le_refl _) _) hRw).trans hd2.2)⟩
      have hown2 : w2.ownsRow w.heap.size 3 1 (.slice ov m cv) m (V.map (Value.int .i64)) := by
        have := rowv_keeps (row_below HRW.out ((Below.refl _ _).alloc (Nat.le_refl _) _)) hd2.2 hRo
        rw [← HM.out] at this
        exact this
      have HS2 : Hid (w.heap.size ≤ w2.heap.size) := HD2.out.2.size
      clear hd2 hz
      go_wp2_with (at_builtin; refine wpList_append_own _ rfl _ _ 23 rfl w.heap.size 3 i0 (.int .i64 0) 1 8 Try.underlying23 hi hz0 hz1 hz2 rfl (by decide) _ _ _ rfl (hown2.alloc _) ⟨w2.heap.size, 0, none⟩ 1 1 [.int .i64 z] rfl rfl (cell_new1 _ _ _) (by simp [Value.oneCell']) (by unfold maxLen; omega) (by omega) (by have := HS2.out; simp; omega) ?_)
      intro v' w3 hown' hgrow _
      have HD3 : Hid (Drawn R oa len cap (q + 1) w w3) := Drawn.grownV HR.out (HD2.out.belowV ((Below.refl _ _).alloc (Nat.le_refl _) _)) (hown2.alloc _) hgrow
      have HOWN' := hid hown'
      clear hown' hgrow hown2
      go_wp2
      go_roundg g
      case measure => omega
      case rel =>
        refine ⟨V ++ [z], q + 1, by simp; rw [← HM.out]; omega, by omega, ?_, HD3.out⟩
        have := HOWN'.out
        rw [HM.out] at this
        simpa using this

set_option maxRecDepth 100000 in
set_option maxHeartbeats 1600000 in
theorem drawPolicy_any (oa : Option Addr) (len cap : Nat) (w : World) (h : CodeAt w oa len) (hc : len ≤ cap) (hm : cap ≤ maxLen) :
    Calls Try.prog 4 #[.slice oa len cap] w fun e w' => (∃ (p : Int) (v : Value), e = .returned (.tuple #[.int .i64 p, v]) ∧ ∃ V : List Int, w'.ownsRow w.heap.size 3 1 v V.length (V.map (Value.int .i64)) ∧ V.length ≤ 4) ∧ Below w.heap.size w w' := by
  have HC := hid h
  obtain ⟨i0, hi, hz0, hz1, hz2⟩ := info_parts infoInt
  clear h
  go_enter Try.func4, Try.ntmps4
  go_wp2_with fail
  refine (open_any oa len cap _ HC.out hc hm).mono ?_
  rintro e w1 ⟨rfl, ⟨l1, c1, hr1⟩, hb1⟩
  have HB1 := hid hb1
  have HR1 := hid hr1
  have hRo := hr1.old
  clear hb1 hr1
  go_wp2_with fail
  refine (pick_any w.heap.size oa l1 c1 0 4 _ HR1.out (by omega) (by decide)).mono ?_
  rintro e w2 ⟨⟨x, rfl, hx0, hx1⟩, hd2⟩
  obtain ⟨n, rfl⟩ : ∃ n : Nat, x = (n : Int) := ⟨x.toNat, by omega⟩
  have HD2 := hid hd2
  clear hd2
  go_wp2_with fail
  refine (votes_any w.heap.size oa l1 c1 1 n _ HD2.out.1 (by omega) (by omega)).mono ?_
  rintro e w3 ⟨⟨v, rfl, V, hrow, hV⟩, q, hq, hd3⟩
  have HD3 : Hid (Drawn w.heap.size oa l1 c1 q w1 w3) := HD2.out.thenV hd3
  have HRW : Hid (w3.ownsRow w1.heap.size 3 1 v V.length (V.map (Value.int .i64))) := row_base hrow HD2.out.2.size
  obtain ⟨ov, cv, rfl⟩ := rowv_shape hrow
  obtain ⟨m, hmm⟩ : ∃ m, m = V.length := ⟨_, rfl⟩
  have HM := hid hmm
  rw [← hmm] at hV ⊢
  clear hd3 hrow HD2 hmm
  go_wp2_with fail
  refine (pick_any w.heap.size oa l1 c1 q 16 _ HD3.out.1 (by omega) (by decide)).mono ?_
  rintro e w4 ⟨⟨y, rfl, hy0, hy1⟩, hd4⟩
  have HD4 : Hid (Drawn w.heap.size oa l1 c1 (q + 1) w1 w4) := HD3.out.thenV hd4
  have HRW4 : Hid (w4.ownsRow w1.heap.size 3 1 (.slice ov m cv) m (V.map (Value.int .i64))) := by
    have := rowv_keeps HRW.out hd4.2 hRo
    rw [← HM.out] at this
    exact this
  have hRw := hd4.1.old
  clear hd4 HD3 HRW
  by_cases hy : y = 0
  · subst hy
    go_wp2_with fail
    refine (one_any w.heap.size _ 3 (-2) 128 oa l1 c1 (q + 1) _ (HD4.out.1.keep ((Below.refl _ _).alloc (Nat.le_refl _) _)) (by omega) (by decide) (by decide) ?_ ?_ ?_).mono ?_
    · simp
    · omega
    · exact ints_three _
    rintro e w5 ⟨⟨z, rfl, hz⟩, hd5⟩
    have HD5 : Hid (Drawn w.heap.size oa l1 c1 (q + 2) w1 w5) := ⟨hd5.1, HD4.out.2.trans ((Keeps.of_below ((Below.refl _ _).alloc (Nat.le_refl _) _) hRw).trans hd5.2)⟩
    have hown5 : w5.ownsRow w1.heap.size 3 1 (.slice ov m cv) m (V.map (Value.int .i64)) := by
      exact rowv_keeps (row_below HRW4.out ((Below.refl _ _).alloc (Nat.le_refl _) _)) hd5.2 hRo
    have HS5 : Hid (w1.heap.size ≤ w5.heap.size) := HD5.out.2.size
    clear hd5 hz HD4 HRW4
    go_wp2_with (at_builtin; refine wpList_append_own _ rfl _ _ 23 rfl w1.heap.size 3 i0 (.int .i64 0) 1 8 Try.underlying23 hi hz0 hz1 hz2 rfl (by decide) _ _ _ rfl (hown5.alloc _) ⟨w5.heap.size, 0, none⟩ 1 1 [.int .i64 z] rfl rfl (cell_new1 _ _ _) (by simp [Value.oneCell']) (by unfold maxLen; omega) (by omega) (by have := HS5.out; simp; omega) ?_)
    intro v' w6 hown' hgrow _
    have HD6 : Hid (Drawn w.heap.size oa l1 c1 (q + 2) w1 w6) := Drawn.grownV HR1.out (HD5.out.belowV ((Below.refl _ _).alloc (Nat.le_refl _) _)) (hown5.alloc _) hgrow
    have HOWN6 := hid hown'
    obtain ⟨ov6, cv6, rfl⟩ := rowv_shape hown'
    clear hown' hgrow hown5 HD5
    go_wp2_with fail
    refine (pick_any w.heap.size oa l1 c1 (q + 2) 5 _ HD6.out.1 (by omega) (by decide)).mono ?_
    rintro e w7 ⟨⟨x, rfl, hx0, hx1⟩, hd7⟩
    have HRW7 : Hid (w7.ownsRow w.heap.size 3 1 (.slice ov6 (m + 1) cv6) (V ++ [z]).length ((V ++ [z]).map (Value.int .i64))) := by
      have := row_base (rowv_keeps HOWN6.out hd7.2 hRo) HB1.out.size
      show World.ownsRow _ _ _ _ _ _ _
      rw [List.length_append, List.map_append, ← HM.out]
      exact this
    have HB7 : Hid (Below w.heap.size w w7) := ((HD6.out.thenV hd7).2.below w.heap.size w (Nat.le_refl _) HB1.out)
    have HL : Hid ((V ++ [z]).length ≤ 4) := by show _ ≤ _; rw [List.length_append, ← HM.out]; simp; omega
    clear hd7 HOWN6 HD6
    go_wp2
    go_ret2
    exact ⟨⟨x, .slice ov6 (m + 1) cv6, rfl, V ++ [z], HRW7.out, HL.out⟩, HB7.out⟩
  · have hyb : (y == 0) = false := by rw [beq_eq_false_iff_ne]; exact hy
    clear hy
    go_wp2_with fail
    refine (pick_any w.heap.size oa l1 c1 (q + 1) 5 _ HD4.out.1 (by omega) (by decide)).mono ?_
    rintro e w7 ⟨⟨x, rfl, hx0, hx1⟩, hd7⟩
    have HRW7 : Hid (w7.ownsRow w.heap.size 3 1 (.slice ov m cv) V.length (V.map (Value.int .i64))) := by
      have := row_base (rowv_keeps HRW4.out hd7.2 hRo) HB1.out.size
      rw [← HM.out]
      exact this
    have HB7 : Hid (Below w.heap.size w w7) := ((HD4.out.thenV hd7).2.below w.heap.size w (Nat.le_refl _) HB1.out)
    have HL : Hid (V.length ≤ 4) := by show _ ≤ _; rw [← HM.out]; omega
    clear hd7 HRW4 HD4
    go_wp2
    go_ret2
    exact ⟨⟨x, .slice ov m cv, rfl, V, HRW7.out, HL.out⟩, HB7.out⟩

end Go.Proofs.Ytgkhkogenbphfad
