/- DERIVED. The walk of what draws any message: l16AnyMsg. -/
import Derived.Test.YtijdjplajhcilabDoorDrawMsgR
import Derived.Test.YtijdjplajhcilabDoorRegB
import Derived.Lib.AppendIntMem
namespace Go.Proofs.YtijdjplajhcilabDoor
open Go.RowKit

theorem readyB_append {P : Program} {ops : Array Oper} {o : Oper} {a : Act} {w : World} {K : Act → World → Prop} {Q : Exit → Act → World → Prop} {E : Prop}
    (hg : o.guard = none) (s x : Operand) (t : TypeId) (hop : o.op = Op.call { callee := Callee.builtin Builtin.append, args := #[s, x], argTypes := #[t, t] })
    (base : Nat) (e : TypeId) (i : TypeInfo) (z : Value) (size bytes : Nat) (h1 : P.underlying t = some (.slice e)) (h2 : P.info? e = some i) (h3 : i.zero = some z) (h4 : i.size = size) (h5 : i.bytes = bytes) (h6 : z.cells.size = size) (h7 : 0 < size)
    (v : Value) (k : Nat) (xs : List Value) (hs : a.eval s = v) (hown : w.ownsRow base e size v k xs) (ad : Addr) (m c : Nat) (news : List Value) (hx : a.eval x = .slice (some ad) m c) (hn : news.length = m * size)
    (hc : ∀ j u, news[j]? = some u → w.cell? (ad.add j) = some u) (h1c : ∀ u ∈ news, u.oneCell' = true) (b1 : k + m ≤ maxLen) (b2 : (k + m) * bytes ≤ 140737488355328) (b3 : base ≤ w.heap.size)
    (hK : ∀ v' w', w'.ownsRow base e size v' (k + m) (xs ++ news) → w.grownBy w' v.ownBlock → K (a.put o.dst v') w') : if Region.wanted o (yielded ops a.tmps) = true then Oper.wp P o a w K Q else E := by
  obtain ⟨v', w', hrun, r1, r2, r3⟩ := run_append_own (P := P) w base t o.type e i z size bytes h1 h2 h3 h4 h5 h6 h7 v k xs hown ad m c news hn hc h1c b1 b2 b3
  have hw : Region.wanted o (yielded ops a.tmps) = true := by simp [Region.wanted, hg]
  rw [if_pos hw]
  unfold Oper.wp
  simp [execOp, hop, resolve, invoke, builtin, hs, hx, hrun, Result.andThen]
  exact hK v' w' r1 r2

/-- The parts of a message in block g. -/
structure MX (base g : Nat) (w : World) (a b c d e : Int) (o1 o2 : Option Addr) (c1 c2 : Nat) (V : List Int) (L : List Ent) (xs : List Value) : Prop where
  m : w.heap[g]? = some (.cells #[.int .i64 a, .int .i64 b, .int .i64 c, .int .i64 d, .int .i64 e, .slice o1 V.length c1, .slice o2 L.length c2] 26 (0, 0))
  v : w.ownsRow base 3 1 (.slice o1 V.length c1) V.length (V.map (Value.int .i64))
  l : w.ownsRow base 53 3 (.slice o2 L.length c2) L.length xs
  x : ECells base w L xs

variable {base g R : Nat} {w w' : World} {a b c d e : Int} {o1 o2 : Option Addr} {c1 c2 : Nat} {V : List Int} {L : List Ent} {xs : List Value}

theorem MX.below (h : MX base g w a b c d e o1 o2 c1 c2 V L xs) (k : Below w.heap.size w w') : MX base g w' a b c d e o1 o2 c1 c2 V L xs :=
  ⟨by rw [k.block g (Array.getElem?_eq_some_iff.1 h.m).1]; exact h.m, row_below h.v k, row_below h.l k, h.x.kept (fun b cur fz hb hh => kept_below k b cur fz hb hh)⟩

theorem MX.keeps (h : MX base g w a b c d e o1 o2 c1 c2 V L xs) (k : Keeps R w w') (hR : R < base) (hg : g ≠ R) : MX base g w' a b c d e o1 o2 c1 c2 V L xs :=
  ⟨keeps_block h.m k hg, rowv_keeps h.v k hR, rowv_keeps h.l k hR, h.x.kept (kept_keeps k hR)⟩

theorem MX.lt (h : MX base g w a b c d e o1 o2 c1 c2 V L xs) : g < w.heap.size := (Array.getElem?_eq_some_iff.1 h.m).1

/-- Another block than that of a row of another type. -/
theorem grown_other {bs e' size n : Nat} {v : Value} {ys : List Value} {cur : Array Value} {t : TypeId} {fz : Nat × Nat} (h : w.ownsRow bs e' size v n ys) (gr : w.grownBy w' v.ownBlock) (hb : w.heap[g]? = some (.cells cur t fz)) (hne : e' ≠ t) : w'.heap[g]? = some (.cells cur t fz) := by
  rw [gr.block g (Array.getElem?_eq_some_iff.1 hb).1 ?_]
  · exact hb
  · intro c
    rcases h.2 with ⟨e1, _⟩ | ⟨g', cap, cur', e1, _, hg', _⟩
    · rw [e1] at c; cases c
    · rw [e1] at c
      injection c with c
      subst c
      rw [hg'] at hb
      injection hb with hb
      injection hb with _ h2 _
      exact hne h2

theorem row_grown_other {bs b2 e' e2 size n size2 n2 : Nat} {v v2 : Value} {ys zs : List Value} (h : w.ownsRow bs e' size v n ys) (gr : w.grownBy w' v.ownBlock) (h2 : w.ownsRow b2 e2 size2 v2 n2 zs) (hne : e' ≠ e2) : w'.ownsRow b2 e2 size2 v2 n2 zs := by
  refine ⟨h2.1, ?_⟩
  rcases h2.2 with h0 | ⟨g', cap, cur, e1, e3, hb, e4⟩
  · exact Or.inl h0
  · exact Or.inr ⟨g', cap, cur, e1, e3, grown_other h gr hb hne, e4⟩

theorem neIntEnt : (3 : TypeId) ≠ 53 := by decide
theorem neEntInt : (53 : TypeId) ≠ 3 := by decide

theorem ecells_grown {v : Value} (gr : w.grownBy w' v.ownBlock) (hx : ECells base w L xs) (hs : v.ownBlock = none ∨ L = []) : ECells base w' L xs := by
  rcases hs with hs | rfl
  · rw [hs] at gr
    exact hx.kept (fun b cur fz _ hb => by rw [gr.block b (Array.getElem?_eq_some_iff.1 hb).1 (by simp)]; exact hb)
  · exact ⟨hx.1, fun i hi => absurd hi (Nat.not_lt_zero _)⟩

/-- What holds of numbers that lie in a block holds behind what keeps all blocks but R. -/
theorem IntsAt.keep {B n : Nat} {lo hi : Int} (h : IntsAt w B n lo hi) (hB : B < w.heap.size) (k : Keeps R w w') (hR : B ≠ R) : IntsAt w' B n lo hi := by
  intro i hi'
  obtain ⟨z, hz, h1, h2⟩ := h i hi'
  exact ⟨z, by rw [k.cell B i hB hR]; exact hz, h1, h2⟩

theorem ints_kind (W : World) : IntsAt (W.alloc (.cells #[.int .i64 0, .int .i64 10, .int .i64 5] 3)) W.heap.size 3 (0) 10 := by
  refine ints_new W _ _ _ 3 (0) 10 rfl (by rfl) ?_
  intro v hv
  simp at hv
  rcases hv with rfl | rfl | rfl <;> simp [intOk]

theorem ints_from (W : World) : IntsAt (W.alloc (.cells #[.int .i64 (-1), .int .i64 3, .int .i64 13, .int .i64 10] 3)) W.heap.size 4 (-1) 13 := by
  refine ints_new W _ _ _ 4 (-1) 13 rfl (by rfl) ?_
  intro v hv
  simp at hv
  rcases hv with rfl | rfl | rfl | rfl <;> simp [intOk]

theorem ints_bal (W : World) : IntsAt (W.alloc (.cells #[.int .i64 (-1), .int .i64 10000, .int .i64 0] 3)) W.heap.size 3 (-1) 10000 := by
  refine ints_new W _ _ _ 3 (-1) 10000 rfl (by rfl) ?_
  intro v hv
  simp at hv
  rcases hv with rfl | rfl | rfl <;> simp [intOk]

theorem ints_ins (W : World) : IntsAt (W.alloc (.cells #[.int .i64 (-1), .int .i64 13] 3)) W.heap.size 2 (-1) 13 := by
  refine ints_new W _ _ _ 2 (-1) 13 rfl (by rfl) ?_
  intro v hv
  simp at hv
  rcases hv with rfl | rfl <;> simp [intOk]

theorem ints_vot (W : World) : IntsAt (W.alloc (.cells #[.int .i64 (-2), .int .i64 128, .int .i64 0, .int .i64 (-1)] 3)) W.heap.size 4 (-2) 128 := by
  refine ints_new W _ _ _ 4 (-2) 128 rfl (by rfl) ?_
  intro v hv
  simp at hv
  rcases hv with rfl | rfl | rfl | rfl <;> simp [intOk]

theorem ints_ein (W : World) : IntsAt (W.alloc (.cells #[.int .i64 0, .int .i64 12, .int .i64 11] 3)) W.heap.size 3 (0) 12 := by
  refine ints_new W _ _ _ 3 (0) 12 rfl (by rfl) ?_
  intro v hv
  simp at hv
  rcases hv with rfl | rfl | rfl <;> simp [intOk]

theorem ints_ebal (W : World) : IntsAt (W.alloc (.cells #[.int .i64 0, .int .i64 1] 3)) W.heap.size 2 (0) 1 := by
  refine ints_new W _ _ _ 2 (0) 1 rfl (by rfl) ?_
  intro v hv
  simp at hv
  rcases hv with rfl | rfl <;> simp [intOk]

set_option maxRecDepth 100000 in
set_option maxHeartbeats 6400000 in
theorem drawAny_any (R : Nat) (oa : Option Addr) (len cap p : Nat) (w : World) (h : RdAt w R oa len cap p) (hp : p ≤ 70000) :
    Calls Tryd.prog 8 #[.pointer (some ⟨R, 0, none⟩)] w fun ee w' => (∃ (a b c d e : Int) (o1 o2 : Option Addr) (c1 c2 : Nat) (V : List Int) (L : List Ent) (xs : List Value), ee = .returned (.agg #[.int .i64 a, .int .i64 b, .int .i64 c, .int .i64 d, .int .i64 e, .slice o1 V.length c1, .slice o2 L.length c2]) ∧ w'.ownsRow w.heap.size 3 1 (.slice o1 V.length c1) V.length (V.map (Value.int .i64)) ∧ w'.ownsRow w.heap.size 53 3 (.slice o2 L.length c2) L.length xs ∧ ECells w.heap.size w' L xs ∧ V.length ≤ 6 ∧ L.length ≤ 6) ∧ (∃ q, q ≤ p + 60 ∧ Drawn R oa len cap q w w') := by
  obtain ⟨i1, hi1, hy0, hy1, hy2⟩ := info_parts infoInt
  obtain ⟨i0, hi, hz0, hz1, hz2⟩ := info_parts infoEnt
  have HR := hid h
  have HRo : Hid (R < w.heap.size) := h.old
  have hal : Below w.heap.size w (w.alloc (.cells #[.int .i64 0, .int .i64 0, .int .i64 0, .int .i64 0, .int .i64 0, .slice none 0 0, .slice none 0 0] 26)) := (Below.refl _ _).alloc (Nat.le_refl _) _
  have HZ0 : Hid ((w.alloc (.cells #[.int .i64 0, .int .i64 0, .int .i64 0, .int .i64 0, .int .i64 0, .slice none 0 0, .slice none 0 0] 26)).heap[w.heap.size]? = some (.cells #[.int .i64 0, .int .i64 0, .int .i64 0, .int .i64 0, .int .i64 0, .slice none 0 0, .slice none 0 0] 26 (0, 0))) := alloc_new _ _
  have HD0 : Hid (Drawn R oa len cap p w (w.alloc (.cells #[.int .i64 0, .int .i64 0, .int .i64 0, .int .i64 0, .int .i64 0, .slice none 0 0, .slice none 0 0] 26))) := ⟨h.keep hal, Keeps.of_below hal h.old⟩
  have HNE : Hid (w.heap.size ≠ R) := by have := h.old; show _ ≠ _; omega
  clear h hal
  go_enter Tryd.func8, Tryd.ntmps8
  go_wp2_with fail
  refine (pick_any R oa len cap p 3 _ HD0.out.1 (by omega) (by decide)).mono ?_
  rintro e w1 ⟨⟨x, rfl, hx0, hx1⟩, hd⟩
  have HD1 := hid (HD0.out.thenV hd)
  have HZ1 := hid (keeps_block HZ0.out hd.2 HNE.out)
  have hw1 : IntKind.i64.wrap (1 + x) = 1 + x := by rw [IntKind.wrap_i64]; omega
  clear hd
  go_wp2_with fail
  refine (drawMsg_any R oa len cap (p + 1) (1 + x) _ HD1.out.1 (by omega) (by omega) (by omega)).mono ?_
  rintro e w2 ⟨⟨a, b, c, d, e, o1, o2, c1, c2, V, L, xs, rfl, hv, hl, hx, hV, hL, hN⟩, q2, hq2, hd⟩
  have HD2 := hid (HD1.out.thenV hd)
  have HZ2 := hid (keeps_block HZ1.out hd.2 HNE.out)
  have hv2 := row_base hv HD1.out.2.size
  have hl2 := row_base hl HD1.out.2.size
  have hx2 : ECells w.heap.size w2 L xs := ⟨hx.1, fun i hi => by obtain ⟨ov', n', cv', g1, g2, g3, g4, g5, g6⟩ := hx.2 i hi; exact ⟨ov', n', cv', g1, g2, g3, g4, g5, g6.base HD1.out.2.size⟩⟩
  have hal : Below w2.heap.size w2 (w2.alloc (.cells #[.int .i64 a, .int .i64 b, .int .i64 c, .int .i64 d, .int .i64 e, .slice o1 V.length c1, .slice o2 L.length c2] 26)) := (Below.refl _ _).alloc (Nat.le_refl _) _
  have HX3 : Hid (MX w.heap.size w2.heap.size (w2.alloc (.cells #[.int .i64 a, .int .i64 b, .int .i64 c, .int .i64 d, .int .i64 e, .slice o1 V.length c1, .slice o2 L.length c2] 26)) a b c d e o1 o2 c1 c2 V L xs) := ⟨alloc_new _ _, row_below hv2 hal, row_below hl2 hal, ecells_bel hx2 hal⟩
  have HD3 := hid (HD2.out.belowV hal)
  have HZ3 : Hid ((w2.alloc (.cells #[.int .i64 a, .int .i64 b, .int .i64 c, .int .i64 d, .int .i64 e, .slice o1 V.length c1, .slice o2 L.length c2] 26)).heap[w.heap.size]? = some (.cells #[.int .i64 0, .int .i64 0, .int .i64 0, .int .i64 0, .int .i64 0, .slice none 0 0, .slice none 0 0] 26 (0, 0))) := alloc_keep HZ2.out
  have HG : Hid (w.heap.size < w2.heap.size) := (Array.getElem?_eq_some_iff.1 HZ2.out).1
  have HGR : Hid (w2.heap.size ≠ R) := by have := HRo.out; have := HG.out; show _ ≠ _; omega
  have HV := hid hV
  have HL := hid hL
  have HN := hid hN
  clear hd hv hl hx hv2 hl2 hx2 hal hV hL hN hw1 hx0 hx1
  go_wp2_with fail
  refine (pick_any R oa len cap q2 16 _ HD3.out.1 (by omega) (by decide)).mono ?_
  rintro e' w4 ⟨⟨y, rfl, hy3, hy4⟩, hd⟩
  have HD4 := hid (HD3.out.thenV hd)
  have HZ4 := hid (keeps_block HZ3.out hd.2 HNE.out)
  have HX4 := hid (HX3.out.keeps hd.2 HRo.out HGR.out)
  have hR4 := hd.1.old
  have hg4 : w2.heap.size < w4.heap.size := HX4.out.lt
  clear hd
  have hy : y = 0 ∨ y = 1 ∨ y = 2 ∨ y = 3 ∨ y = 4 ∨ y = 5 ∨ 6 ≤ y := by omega
  rcases hy with rfl | rfl | rfl | rfl | rfl | rfl | hy
  · go_wp2_with fail
    have hal : Below w4.heap.size w4 (w4.alloc (.cells #[.int .i64 0, .int .i64 10, .int .i64 5] 3)) := (Below.refl _ _).alloc (Nat.le_refl _) _
    refine (one_any R _ 3 (0) 10 oa len cap (q2 + 1) _ (HD4.out.1.keep hal) (by omega) (by decide) (by decide) ?_ ?_ (ints_kind _)).mono ?_
    · simp
    · omega
    rintro e' w5 ⟨⟨z, rfl, _⟩, hd⟩
    have hk := (Keeps.of_below hal hR4).trans hd.2
    have HD5 : Hid (Drawn R oa len cap (q2 + 2) w w5) := ⟨hd.1, HD4.out.2.trans hk⟩
    have HZ5 := hid (keeps_block HZ4.out hk HNE.out)
    have HX5 := hid (HX4.out.keeps hk HRo.out HGR.out)
    clear hd hk hal
    have hm := HX5.out.m
    have hv := HX5.out.v
    have hl := HX5.out.l
    have hx := HX5.out.x
    have m0 : w5.cell? ⟨w2.heap.size, 0, none⟩ = some (.int .i64 a) := by rw [in_block hm 0]; rfl
    have m1 : w5.cell? ⟨w2.heap.size, 1, none⟩ = some (.int .i64 b) := by rw [in_block hm 1]; rfl
    have m2 : w5.cell? ⟨w2.heap.size, 2, none⟩ = some (.int .i64 c) := by rw [in_block hm 2]; rfl
    have m3 : w5.cell? ⟨w2.heap.size, 3, none⟩ = some (.int .i64 d) := by rw [in_block hm 3]; rfl
    have m4 : w5.cell? ⟨w2.heap.size, 4, none⟩ = some (.int .i64 e) := by rw [in_block hm 4]; rfl
    have m5 : w5.cell? ⟨w2.heap.size, 5, none⟩ = some (.slice o1 V.length c1) := by rw [in_block hm 5]; rfl
    have m6 : w5.cell? ⟨w2.heap.size, 6, none⟩ = some (.slice o2 L.length c2) := by rw [in_block hm 6]; rfl
    have mf : w5.frozen? ⟨w2.heap.size, 0, none⟩ = false := free_block hm 0
    have z0 : w5.cell? ⟨w.heap.size, 0, none⟩ = some (.int .i64 0) := by rw [in_block HZ5.out 0]; rfl
    have fz0 : w5.frozen? ⟨w.heap.size, 0, none⟩ = false := free_block HZ5.out 0
    have z1 : w5.cell? ⟨w.heap.size, 1, none⟩ = some (.int .i64 0) := by rw [in_block HZ5.out 1]; rfl
    have fz1 : w5.frozen? ⟨w.heap.size, 1, none⟩ = false := free_block HZ5.out 1
    have z2 : w5.cell? ⟨w.heap.size, 2, none⟩ = some (.int .i64 0) := by rw [in_block HZ5.out 2]; rfl
    have fz2 : w5.frozen? ⟨w.heap.size, 2, none⟩ = false := free_block HZ5.out 2
    have z3 : w5.cell? ⟨w.heap.size, 3, none⟩ = some (.int .i64 0) := by rw [in_block HZ5.out 3]; rfl
    have fz3 : w5.frozen? ⟨w.heap.size, 3, none⟩ = false := free_block HZ5.out 3
    have z4 : w5.cell? ⟨w.heap.size, 4, none⟩ = some (.int .i64 0) := by rw [in_block HZ5.out 4]; rfl
    have fz4 : w5.frozen? ⟨w.heap.size, 4, none⟩ = false := free_block HZ5.out 4
    have z5 : w5.cell? ⟨w.heap.size, 5, none⟩ = some (.slice none 0 0) := by rw [in_block HZ5.out 5]; rfl
    have fz5 : w5.frozen? ⟨w.heap.size, 5, none⟩ = false := free_block HZ5.out 5
    have z6 : w5.cell? ⟨w.heap.size, 6, none⟩ = some (.slice none 0 0) := by rw [in_block HZ5.out 6]; rfl
    have fz6 : w5.frozen? ⟨w.heap.size, 6, none⟩ = false := free_block HZ5.out 6
    have hmA := hm
    have hb0 := set_other HZ5.out w2.heap.size 0 (.int .i64 z) (Nat.ne_of_lt HG.out)
    have hb1 := set_block _ w.heap.size 0 _ _ (.int .i64 z) hb0
    have hb2 := set_block _ w.heap.size 1 _ _ (.int .i64 b) hb1
    have hb3 := set_block _ w.heap.size 2 _ _ (.int .i64 c) hb2
    have hb4 := set_block _ w.heap.size 3 _ _ (.int .i64 d) hb3
    have hb5 := set_block _ w.heap.size 4 _ _ (.int .i64 e) hb4
    have hb6 := set_block _ w.heap.size 5 _ _ (.slice o1 V.length c1) hb5
    have HVF := hid (row_ty (row_ty (row_ty (row_ty (row_ty (row_ty (row_ty (row_ty (hv) hmA neMsgInt 0 (.int .i64 z)) hb0 neMsgInt 0 (.int .i64 z)) hb1 neMsgInt 1 (.int .i64 b)) hb2 neMsgInt 2 (.int .i64 c)) hb3 neMsgInt 3 (.int .i64 d)) hb4 neMsgInt 4 (.int .i64 e)) hb5 neMsgInt 5 (.slice o1 V.length c1)) hb6 neMsgInt 6 (.slice o2 L.length c2))
    have HLF := hid (row_ty (row_ty (row_ty (row_ty (row_ty (row_ty (row_ty (row_ty (hl) hmA neMsgEnt 0 (.int .i64 z)) hb0 neMsgEnt 0 (.int .i64 z)) hb1 neMsgEnt 1 (.int .i64 b)) hb2 neMsgEnt 2 (.int .i64 c)) hb3 neMsgEnt 3 (.int .i64 d)) hb4 neMsgEnt 4 (.int .i64 e)) hb5 neMsgEnt 5 (.slice o1 V.length c1)) hb6 neMsgEnt 6 (.slice o2 L.length c2))
    have HXF := hid (ecells_ty (ecells_ty (ecells_ty (ecells_ty (ecells_ty (ecells_ty (ecells_ty (ecells_ty (hx) hmA neMsgInt 0 (.int .i64 z)) hb0 neMsgInt 0 (.int .i64 z)) hb1 neMsgInt 1 (.int .i64 b)) hb2 neMsgInt 2 (.int .i64 c)) hb3 neMsgInt 3 (.int .i64 d)) hb4 neMsgInt 4 (.int .i64 e)) hb5 neMsgInt 5 (.slice o1 V.length c1)) hb6 neMsgInt 6 (.slice o2 L.length c2))
    have HDF := hid (Drawn.store HR.out (Drawn.store HR.out (Drawn.store HR.out (Drawn.store HR.out (Drawn.store HR.out (Drawn.store HR.out (Drawn.store HR.out (Drawn.store HR.out (HD5.out) w2.heap.size 0 (.int .i64 z) (Nat.le_of_lt HG.out)) w.heap.size 0 (.int .i64 z) (Nat.le_refl _)) w.heap.size 1 (.int .i64 b) (Nat.le_refl _)) w.heap.size 2 (.int .i64 c) (Nat.le_refl _)) w.heap.size 3 (.int .i64 d) (Nat.le_refl _)) w.heap.size 4 (.int .i64 e) (Nat.le_refl _)) w.heap.size 5 (.slice o1 V.length c1) (Nat.le_refl _)) w.heap.size 6 (.slice o2 L.length c2) (Nat.le_refl _))
    have HVL : Hid (V.length ≤ 6) := (Nat.le_trans HV.out (by decide))
    have HLLn : Hid (L.length ≤ 6) := (Nat.le_trans HL.out (by decide))
    clear hmA hm hv hl hx hb0 hb1 hb2 hb3 hb4 hb5 hb6
    have hga : ¬ w2.heap.size = w.heap.size := Nat.ne_of_gt HG.out
    have hgb : ¬ w.heap.size = w2.heap.size := Nat.ne_of_lt HG.out
    have hgc := HG.out
    go_wp2
    refine bodyPost_ret (v := .agg #[.int .i64 z, .int .i64 b, .int .i64 c, .int .i64 d, .int .i64 e, .slice o1 V.length c1, .slice o2 L.length c2]) (by simp [results, Tryd.results8, go_sem, z0, z1, z2, z3, z4, z5, z6]) rfl ?_
    exact ⟨⟨z, b, c, d, e, o1, o2, c1, c2, V, L, xs, rfl, HVF.out, HLF.out, HXF.out, HVL.out, HLLn.out⟩, _, by omega, HDF.out⟩
  · go_wp2_with fail
    have hal : Below w4.heap.size w4 (w4.alloc (.cells #[.int .i64 (-1), .int .i64 3, .int .i64 13, .int .i64 10] 3)) := (Below.refl _ _).alloc (Nat.le_refl _) _
    refine (one_any R _ 4 (-1) 13 oa len cap (q2 + 1) _ (HD4.out.1.keep hal) (by omega) (by decide) (by decide) ?_ ?_ (ints_from _)).mono ?_
    · simp
    · omega
    rintro e' w5 ⟨⟨z, rfl, _⟩, hd⟩
    have hk := (Keeps.of_below hal hR4).trans hd.2
    have HD5 : Hid (Drawn R oa len cap (q2 + 2) w w5) := ⟨hd.1, HD4.out.2.trans hk⟩
    have HZ5 := hid (keeps_block HZ4.out hk HNE.out)
    have HX5 := hid (HX4.out.keeps hk HRo.out HGR.out)
    clear hd hk hal
    have hm := HX5.out.m
    have hv := HX5.out.v
    have hl := HX5.out.l
    have hx := HX5.out.x
    have m0 : w5.cell? ⟨w2.heap.size, 0, none⟩ = some (.int .i64 a) := by rw [in_block hm 0]; rfl
    have m1 : w5.cell? ⟨w2.heap.size, 1, none⟩ = some (.int .i64 b) := by rw [in_block hm 1]; rfl
    have m2 : w5.cell? ⟨w2.heap.size, 2, none⟩ = some (.int .i64 c) := by rw [in_block hm 2]; rfl
    have m3 : w5.cell? ⟨w2.heap.size, 3, none⟩ = some (.int .i64 d) := by rw [in_block hm 3]; rfl
    have m4 : w5.cell? ⟨w2.heap.size, 4, none⟩ = some (.int .i64 e) := by rw [in_block hm 4]; rfl
    have m5 : w5.cell? ⟨w2.heap.size, 5, none⟩ = some (.slice o1 V.length c1) := by rw [in_block hm 5]; rfl
    have m6 : w5.cell? ⟨w2.heap.size, 6, none⟩ = some (.slice o2 L.length c2) := by rw [in_block hm 6]; rfl
    have mf : w5.frozen? ⟨w2.heap.size, 1, none⟩ = false := free_block hm 1
    have z0 : w5.cell? ⟨w.heap.size, 0, none⟩ = some (.int .i64 0) := by rw [in_block HZ5.out 0]; rfl
    have fz0 : w5.frozen? ⟨w.heap.size, 0, none⟩ = false := free_block HZ5.out 0
    have z1 : w5.cell? ⟨w.heap.size, 1, none⟩ = some (.int .i64 0) := by rw [in_block HZ5.out 1]; rfl
    have fz1 : w5.frozen? ⟨w.heap.size, 1, none⟩ = false := free_block HZ5.out 1
    have z2 : w5.cell? ⟨w.heap.size, 2, none⟩ = some (.int .i64 0) := by rw [in_block HZ5.out 2]; rfl
    have fz2 : w5.frozen? ⟨w.heap.size, 2, none⟩ = false := free_block HZ5.out 2
    have z3 : w5.cell? ⟨w.heap.size, 3, none⟩ = some (.int .i64 0) := by rw [in_block HZ5.out 3]; rfl
    have fz3 : w5.frozen? ⟨w.heap.size, 3, none⟩ = false := free_block HZ5.out 3
    have z4 : w5.cell? ⟨w.heap.size, 4, none⟩ = some (.int .i64 0) := by rw [in_block HZ5.out 4]; rfl
    have fz4 : w5.frozen? ⟨w.heap.size, 4, none⟩ = false := free_block HZ5.out 4
    have z5 : w5.cell? ⟨w.heap.size, 5, none⟩ = some (.slice none 0 0) := by rw [in_block HZ5.out 5]; rfl
    have fz5 : w5.frozen? ⟨w.heap.size, 5, none⟩ = false := free_block HZ5.out 5
    have z6 : w5.cell? ⟨w.heap.size, 6, none⟩ = some (.slice none 0 0) := by rw [in_block HZ5.out 6]; rfl
    have fz6 : w5.frozen? ⟨w.heap.size, 6, none⟩ = false := free_block HZ5.out 6
    have hmA := hm
    have hb0 := set_other HZ5.out w2.heap.size 1 (.int .i64 z) (Nat.ne_of_lt HG.out)
    have hb1 := set_block _ w.heap.size 0 _ _ (.int .i64 a) hb0
    have hb2 := set_block _ w.heap.size 1 _ _ (.int .i64 z) hb1
    have hb3 := set_block _ w.heap.size 2 _ _ (.int .i64 c) hb2
    have hb4 := set_block _ w.heap.size 3 _ _ (.int .i64 d) hb3
    have hb5 := set_block _ w.heap.size 4 _ _ (.int .i64 e) hb4
    have hb6 := set_block _ w.heap.size 5 _ _ (.slice o1 V.length c1) hb5
    have HVF := hid (row_ty (row_ty (row_ty (row_ty (row_ty (row_ty (row_ty (row_ty (hv) hmA neMsgInt 1 (.int .i64 z)) hb0 neMsgInt 0 (.int .i64 a)) hb1 neMsgInt 1 (.int .i64 z)) hb2 neMsgInt 2 (.int .i64 c)) hb3 neMsgInt 3 (.int .i64 d)) hb4 neMsgInt 4 (.int .i64 e)) hb5 neMsgInt 5 (.slice o1 V.length c1)) hb6 neMsgInt 6 (.slice o2 L.length c2))
    have HLF := hid (row_ty (row_ty (row_ty (row_ty (row_ty (row_ty (row_ty (row_ty (hl) hmA neMsgEnt 1 (.int .i64 z)) hb0 neMsgEnt 0 (.int .i64 a)) hb1 neMsgEnt 1 (.int .i64 z)) hb2 neMsgEnt 2 (.int .i64 c)) hb3 neMsgEnt 3 (.int .i64 d)) hb4 neMsgEnt 4 (.int .i64 e)) hb5 neMsgEnt 5 (.slice o1 V.length c1)) hb6 neMsgEnt 6 (.slice o2 L.length c2))
    have HXF := hid (ecells_ty (ecells_ty (ecells_ty (ecells_ty (ecells_ty (ecells_ty (ecells_ty (ecells_ty (hx) hmA neMsgInt 1 (.int .i64 z)) hb0 neMsgInt 0 (.int .i64 a)) hb1 neMsgInt 1 (.int .i64 z)) hb2 neMsgInt 2 (.int .i64 c)) hb3 neMsgInt 3 (.int .i64 d)) hb4 neMsgInt 4 (.int .i64 e)) hb5 neMsgInt 5 (.slice o1 V.length c1)) hb6 neMsgInt 6 (.slice o2 L.length c2))
    have HDF := hid (Drawn.store HR.out (Drawn.store HR.out (Drawn.store HR.out (Drawn.store HR.out (Drawn.store HR.out (Drawn.store HR.out (Drawn.store HR.out (Drawn.store HR.out (HD5.out) w2.heap.size 1 (.int .i64 z) (Nat.le_of_lt HG.out)) w.heap.size 0 (.int .i64 a) (Nat.le_refl _)) w.heap.size 1 (.int .i64 z) (Nat.le_refl _)) w.heap.size 2 (.int .i64 c) (Nat.le_refl _)) w.heap.size 3 (.int .i64 d) (Nat.le_refl _)) w.heap.size 4 (.int .i64 e) (Nat.le_refl _)) w.heap.size 5 (.slice o1 V.length c1) (Nat.le_refl _)) w.heap.size 6 (.slice o2 L.length c2) (Nat.le_refl _))
    have HVL : Hid (V.length ≤ 6) := (Nat.le_trans HV.out (by decide))
    have HLLn : Hid (L.length ≤ 6) := (Nat.le_trans HL.out (by decide))
    clear hmA hm hv hl hx hb0 hb1 hb2 hb3 hb4 hb5 hb6
    have hga : ¬ w2.heap.size = w.heap.size := Nat.ne_of_gt HG.out
    have hgb : ¬ w.heap.size = w2.heap.size := Nat.ne_of_lt HG.out
    have hgc := HG.out
    go_wp2
    refine bodyPost_ret (v := .agg #[.int .i64 a, .int .i64 z, .int .i64 c, .int .i64 d, .int .i64 e, .slice o1 V.length c1, .slice o2 L.length c2]) (by simp [results, Tryd.results8, go_sem, z0, z1, z2, z3, z4, z5, z6]) rfl ?_
    exact ⟨⟨a, z, c, d, e, o1, o2, c1, c2, V, L, xs, rfl, HVF.out, HLF.out, HXF.out, HVL.out, HLLn.out⟩, _, by omega, HDF.out⟩
  · go_wp2_with fail
    have hal : Below w4.heap.size w4 (w4.alloc (.cells #[.int .i64 (-1), .int .i64 10000, .int .i64 0] 3)) := (Below.refl _ _).alloc (Nat.le_refl _) _
    refine (one_any R _ 3 (-1) 10000 oa len cap (q2 + 1) _ (HD4.out.1.keep hal) (by omega) (by decide) (by decide) ?_ ?_ (ints_bal _)).mono ?_
    · simp
    · omega
    rintro e' w5 ⟨⟨z, rfl, _⟩, hd⟩
    have hk := (Keeps.of_below hal hR4).trans hd.2
    have HD5 : Hid (Drawn R oa len cap (q2 + 2) w w5) := ⟨hd.1, HD4.out.2.trans hk⟩
    have HZ5 := hid (keeps_block HZ4.out hk HNE.out)
    have HX5 := hid (HX4.out.keeps hk HRo.out HGR.out)
    clear hd hk hal
    have hm := HX5.out.m
    have hv := HX5.out.v
    have hl := HX5.out.l
    have hx := HX5.out.x
    have m0 : w5.cell? ⟨w2.heap.size, 0, none⟩ = some (.int .i64 a) := by rw [in_block hm 0]; rfl
    have m1 : w5.cell? ⟨w2.heap.size, 1, none⟩ = some (.int .i64 b) := by rw [in_block hm 1]; rfl
    have m2 : w5.cell? ⟨w2.heap.size, 2, none⟩ = some (.int .i64 c) := by rw [in_block hm 2]; rfl
    have m3 : w5.cell? ⟨w2.heap.size, 3, none⟩ = some (.int .i64 d) := by rw [in_block hm 3]; rfl
    have m4 : w5.cell? ⟨w2.heap.size, 4, none⟩ = some (.int .i64 e) := by rw [in_block hm 4]; rfl
    have m5 : w5.cell? ⟨w2.heap.size, 5, none⟩ = some (.slice o1 V.length c1) := by rw [in_block hm 5]; rfl
    have m6 : w5.cell? ⟨w2.heap.size, 6, none⟩ = some (.slice o2 L.length c2) := by rw [in_block hm 6]; rfl
    have mf : w5.frozen? ⟨w2.heap.size, 3, none⟩ = false := free_block hm 3
    have z0 : w5.cell? ⟨w.heap.size, 0, none⟩ = some (.int .i64 0) := by rw [in_block HZ5.out 0]; rfl
    have fz0 : w5.frozen? ⟨w.heap.size, 0, none⟩ = false := free_block HZ5.out 0
    have z1 : w5.cell? ⟨w.heap.size, 1, none⟩ = some (.int .i64 0) := by rw [in_block HZ5.out 1]; rfl
    have fz1 : w5.frozen? ⟨w.heap.size, 1, none⟩ = false := free_block HZ5.out 1
    have z2 : w5.cell? ⟨w.heap.size, 2, none⟩ = some (.int .i64 0) := by rw [in_block HZ5.out 2]; rfl
    have fz2 : w5.frozen? ⟨w.heap.size, 2, none⟩ = false := free_block HZ5.out 2
    have z3 : w5.cell? ⟨w.heap.size, 3, none⟩ = some (.int .i64 0) := by rw [in_block HZ5.out 3]; rfl
    have fz3 : w5.frozen? ⟨w.heap.size, 3, none⟩ = false := free_block HZ5.out 3
    have z4 : w5.cell? ⟨w.heap.size, 4, none⟩ = some (.int .i64 0) := by rw [in_block HZ5.out 4]; rfl
    have fz4 : w5.frozen? ⟨w.heap.size, 4, none⟩ = false := free_block HZ5.out 4
    have z5 : w5.cell? ⟨w.heap.size, 5, none⟩ = some (.slice none 0 0) := by rw [in_block HZ5.out 5]; rfl
    have fz5 : w5.frozen? ⟨w.heap.size, 5, none⟩ = false := free_block HZ5.out 5
    have z6 : w5.cell? ⟨w.heap.size, 6, none⟩ = some (.slice none 0 0) := by rw [in_block HZ5.out 6]; rfl
    have fz6 : w5.frozen? ⟨w.heap.size, 6, none⟩ = false := free_block HZ5.out 6
    have hmA := hm
    have hb0 := set_other HZ5.out w2.heap.size 3 (.int .i64 z) (Nat.ne_of_lt HG.out)
    have hb1 := set_block _ w.heap.size 0 _ _ (.int .i64 a) hb0
    have hb2 := set_block _ w.heap.size 1 _ _ (.int .i64 b) hb1
    have hb3 := set_block _ w.heap.size 2 _ _ (.int .i64 c) hb2
    have hb4 := set_block _ w.heap.size 3 _ _ (.int .i64 z) hb3
    have hb5 := set_block _ w.heap.size 4 _ _ (.int .i64 e) hb4
    have hb6 := set_block _ w.heap.size 5 _ _ (.slice o1 V.length c1) hb5
    have HVF := hid (row_ty (row_ty (row_ty (row_ty (row_ty (row_ty (row_ty (row_ty (hv) hmA neMsgInt 3 (.int .i64 z)) hb0 neMsgInt 0 (.int .i64 a)) hb1 neMsgInt 1 (.int .i64 b)) hb2 neMsgInt 2 (.int .i64 c)) hb3 neMsgInt 3 (.int .i64 z)) hb4 neMsgInt 4 (.int .i64 e)) hb5 neMsgInt 5 (.slice o1 V.length c1)) hb6 neMsgInt 6 (.slice o2 L.length c2))
    have HLF := hid (row_ty (row_ty (row_ty (row_ty (row_ty (row_ty (row_ty (row_ty (hl) hmA neMsgEnt 3 (.int .i64 z)) hb0 neMsgEnt 0 (.int .i64 a)) hb1 neMsgEnt 1 (.int .i64 b)) hb2 neMsgEnt 2 (.int .i64 c)) hb3 neMsgEnt 3 (.int .i64 z)) hb4 neMsgEnt 4 (.int .i64 e)) hb5 neMsgEnt 5 (.slice o1 V.length c1)) hb6 neMsgEnt 6 (.slice o2 L.length c2))
    have HXF := hid (ecells_ty (ecells_ty (ecells_ty (ecells_ty (ecells_ty (ecells_ty (ecells_ty (ecells_ty (hx) hmA neMsgInt 3 (.int .i64 z)) hb0 neMsgInt 0 (.int .i64 a)) hb1 neMsgInt 1 (.int .i64 b)) hb2 neMsgInt 2 (.int .i64 c)) hb3 neMsgInt 3 (.int .i64 z)) hb4 neMsgInt 4 (.int .i64 e)) hb5 neMsgInt 5 (.slice o1 V.length c1)) hb6 neMsgInt 6 (.slice o2 L.length c2))
    have HDF := hid (Drawn.store HR.out (Drawn.store HR.out (Drawn.store HR.out (Drawn.store HR.out (Drawn.store HR.out (Drawn.store HR.out (Drawn.store HR.out (Drawn.store HR.out (HD5.out) w2.heap.size 3 (.int .i64 z) (Nat.le_of_lt HG.out)) w.heap.size 0 (.int .i64 a) (Nat.le_refl _)) w.heap.size 1 (.int .i64 b) (Nat.le_refl _)) w.heap.size 2 (.int .i64 c) (Nat.le_refl _)) w.heap.size 3 (.int .i64 z) (Nat.le_refl _)) w.heap.size 4 (.int .i64 e) (Nat.le_refl _)) w.heap.size 5 (.slice o1 V.length c1) (Nat.le_refl _)) w.heap.size 6 (.slice o2 L.length c2) (Nat.le_refl _))
    have HVL : Hid (V.length ≤ 6) := (Nat.le_trans HV.out (by decide))
    have HLLn : Hid (L.length ≤ 6) := (Nat.le_trans HL.out (by decide))
    clear hmA hm hv hl hx hb0 hb1 hb2 hb3 hb4 hb5 hb6
    have hga : ¬ w2.heap.size = w.heap.size := Nat.ne_of_gt HG.out
    have hgb : ¬ w.heap.size = w2.heap.size := Nat.ne_of_lt HG.out
    have hgc := HG.out
    go_wp2
    refine bodyPost_ret (v := .agg #[.int .i64 a, .int .i64 b, .int .i64 c, .int .i64 z, .int .i64 e, .slice o1 V.length c1, .slice o2 L.length c2]) (by simp [results, Tryd.results8, go_sem, z0, z1, z2, z3, z4, z5, z6]) rfl ?_
    exact ⟨⟨a, b, c, z, e, o1, o2, c1, c2, V, L, xs, rfl, HVF.out, HLF.out, HXF.out, HVL.out, HLLn.out⟩, _, by omega, HDF.out⟩
  · go_wp2_with fail
    have hal : Below w4.heap.size w4 (w4.alloc (.cells #[.int .i64 (-1), .int .i64 13] 3)) := (Below.refl _ _).alloc (Nat.le_refl _) _
    refine (one_any R _ 2 (-1) 13 oa len cap (q2 + 1) _ (HD4.out.1.keep hal) (by omega) (by decide) (by decide) ?_ ?_ (ints_ins _)).mono ?_
    · simp
    · omega
    rintro e' w5 ⟨⟨z, rfl, _⟩, hd⟩
    have hk := (Keeps.of_below hal hR4).trans hd.2
    have HD5 : Hid (Drawn R oa len cap (q2 + 2) w w5) := ⟨hd.1, HD4.out.2.trans hk⟩
    have HZ5 := hid (keeps_block HZ4.out hk HNE.out)
    have HX5 := hid (HX4.out.keeps hk HRo.out HGR.out)
    clear hd hk hal
    have hm := HX5.out.m
    have hv := HX5.out.v
    have hl := HX5.out.l
    have hx := HX5.out.x
    have m0 : w5.cell? ⟨w2.heap.size, 0, none⟩ = some (.int .i64 a) := by rw [in_block hm 0]; rfl
    have m1 : w5.cell? ⟨w2.heap.size, 1, none⟩ = some (.int .i64 b) := by rw [in_block hm 1]; rfl
    have m2 : w5.cell? ⟨w2.heap.size, 2, none⟩ = some (.int .i64 c) := by rw [in_block hm 2]; rfl
    have m3 : w5.cell? ⟨w2.heap.size, 3, none⟩ = some (.int .i64 d) := by rw [in_block hm 3]; rfl
    have m4 : w5.cell? ⟨w2.heap.size, 4, none⟩ = some (.int .i64 e) := by rw [in_block hm 4]; rfl
    have m5 : w5.cell? ⟨w2.heap.size, 5, none⟩ = some (.slice o1 V.length c1) := by rw [in_block hm 5]; rfl
    have m6 : w5.cell? ⟨w2.heap.size, 6, none⟩ = some (.slice o2 L.length c2) := by rw [in_block hm 6]; rfl
    have mf : w5.frozen? ⟨w2.heap.size, 4, none⟩ = false := free_block hm 4
    have z0 : w5.cell? ⟨w.heap.size, 0, none⟩ = some (.int .i64 0) := by rw [in_block HZ5.out 0]; rfl
    have fz0 : w5.frozen? ⟨w.heap.size, 0, none⟩ = false := free_block HZ5.out 0
    have z1 : w5.cell? ⟨w.heap.size, 1, none⟩ = some (.int .i64 0) := by rw [in_block HZ5.out 1]; rfl
    have fz1 : w5.frozen? ⟨w.heap.size, 1, none⟩ = false := free_block HZ5.out 1
    have z2 : w5.cell? ⟨w.heap.size, 2, none⟩ = some (.int .i64 0) := by rw [in_block HZ5.out 2]; rfl
    have fz2 : w5.frozen? ⟨w.heap.size, 2, none⟩ = false := free_block HZ5.out 2
    have z3 : w5.cell? ⟨w.heap.size, 3, none⟩ = some (.int .i64 0) := by rw [in_block HZ5.out 3]; rfl
    have fz3 : w5.frozen? ⟨w.heap.size, 3, none⟩ = false := free_block HZ5.out 3
    have z4 : w5.cell? ⟨w.heap.size, 4, none⟩ = some (.int .i64 0) := by rw [in_block HZ5.out 4]; rfl
    have fz4 : w5.frozen? ⟨w.heap.size, 4, none⟩ = false := free_block HZ5.out 4
    have z5 : w5.cell? ⟨w.heap.size, 5, none⟩ = some (.slice none 0 0) := by rw [in_block HZ5.out 5]; rfl
    have fz5 : w5.frozen? ⟨w.heap.size, 5, none⟩ = false := free_block HZ5.out 5
    have z6 : w5.cell? ⟨w.heap.size, 6, none⟩ = some (.slice none 0 0) := by rw [in_block HZ5.out 6]; rfl
    have fz6 : w5.frozen? ⟨w.heap.size, 6, none⟩ = false := free_block HZ5.out 6
    have hmA := hm
    have hb0 := set_other HZ5.out w2.heap.size 4 (.int .i64 z) (Nat.ne_of_lt HG.out)
    have hb1 := set_block _ w.heap.size 0 _ _ (.int .i64 a) hb0
    have hb2 := set_block _ w.heap.size 1 _ _ (.int .i64 b) hb1
    have hb3 := set_block _ w.heap.size 2 _ _ (.int .i64 c) hb2
    have hb4 := set_block _ w.heap.size 3 _ _ (.int .i64 d) hb3
    have hb5 := set_block _ w.heap.size 4 _ _ (.int .i64 z) hb4
    have hb6 := set_block _ w.heap.size 5 _ _ (.slice o1 V.length c1) hb5
    have HVF := hid (row_ty (row_ty (row_ty (row_ty (row_ty (row_ty (row_ty (row_ty (hv) hmA neMsgInt 4 (.int .i64 z)) hb0 neMsgInt 0 (.int .i64 a)) hb1 neMsgInt 1 (.int .i64 b)) hb2 neMsgInt 2 (.int .i64 c)) hb3 neMsgInt 3 (.int .i64 d)) hb4 neMsgInt 4 (.int .i64 z)) hb5 neMsgInt 5 (.slice o1 V.length c1)) hb6 neMsgInt 6 (.slice o2 L.length c2))
    have HLF := hid (row_ty (row_ty (row_ty (row_ty (row_ty (row_ty (row_ty (row_ty (hl) hmA neMsgEnt 4 (.int .i64 z)) hb0 neMsgEnt 0 (.int .i64 a)) hb1 neMsgEnt 1 (.int .i64 b)) hb2 neMsgEnt 2 (.int .i64 c)) hb3 neMsgEnt 3 (.int .i64 d)) hb4 neMsgEnt 4 (.int .i64 z)) hb5 neMsgEnt 5 (.slice o1 V.length c1)) hb6 neMsgEnt 6 (.slice o2 L.length c2))
    have HXF := hid (ecells_ty (ecells_ty (ecells_ty (ecells_ty (ecells_ty (ecells_ty (ecells_ty (ecells_ty (hx) hmA neMsgInt 4 (.int .i64 z)) hb0 neMsgInt 0 (.int .i64 a)) hb1 neMsgInt 1 (.int .i64 b)) hb2 neMsgInt 2 (.int .i64 c)) hb3 neMsgInt 3 (.int .i64 d)) hb4 neMsgInt 4 (.int .i64 z)) hb5 neMsgInt 5 (.slice o1 V.length c1)) hb6 neMsgInt 6 (.slice o2 L.length c2))
    have HDF := hid (Drawn.store HR.out (Drawn.store HR.out (Drawn.store HR.out (Drawn.store HR.out (Drawn.store HR.out (Drawn.store HR.out (Drawn.store HR.out (Drawn.store HR.out (HD5.out) w2.heap.size 4 (.int .i64 z) (Nat.le_of_lt HG.out)) w.heap.size 0 (.int .i64 a) (Nat.le_refl _)) w.heap.size 1 (.int .i64 b) (Nat.le_refl _)) w.heap.size 2 (.int .i64 c) (Nat.le_refl _)) w.heap.size 3 (.int .i64 d) (Nat.le_refl _)) w.heap.size 4 (.int .i64 z) (Nat.le_refl _)) w.heap.size 5 (.slice o1 V.length c1) (Nat.le_refl _)) w.heap.size 6 (.slice o2 L.length c2) (Nat.le_refl _))
    have HVL : Hid (V.length ≤ 6) := (Nat.le_trans HV.out (by decide))
    have HLLn : Hid (L.length ≤ 6) := (Nat.le_trans HL.out (by decide))
    clear hmA hm hv hl hx hb0 hb1 hb2 hb3 hb4 hb5 hb6
    have hga : ¬ w2.heap.size = w.heap.size := Nat.ne_of_gt HG.out
    have hgb : ¬ w.heap.size = w2.heap.size := Nat.ne_of_lt HG.out
    have hgc := HG.out
    go_wp2
    refine bodyPost_ret (v := .agg #[.int .i64 a, .int .i64 b, .int .i64 c, .int .i64 d, .int .i64 z, .slice o1 V.length c1, .slice o2 L.length c2]) (by simp [results, Tryd.results8, go_sem, z0, z1, z2, z3, z4, z5, z6]) rfl ?_
    exact ⟨⟨a, b, c, d, z, o1, o2, c1, c2, V, L, xs, rfl, HVF.out, HLF.out, HXF.out, HVL.out, HLLn.out⟩, _, by omega, HDF.out⟩
  · go_wp2_with fail
    refine region_B (S := (fun w' => w'.cell? ⟨w2.heap.size, 5, none⟩ = some (.slice o1 V.length c1))) 8 (by kernel_rfl) ?_ (fun hS => ?_)
    · show w4.cell? ⟨w2.heap.size, 5, none⟩ = _
      rw [in_block HX4.out.m 5]; rfl
    obtain ⟨w5, hw5⟩ : ∃ w5, w5 = w4.drew := ⟨_, rfl⟩
    rw [← hw5] at hS ⊢
    have hal : Below w4.heap.size w4 w5 := by rw [hw5]; exact (Below.refl _ _).drew
    have HD5 := hid (HD4.out.belowV hal)
    have HZ5 : Hid (w5.heap[w.heap.size]? = some (.cells #[.int .i64 0, .int .i64 0, .int .i64 0, .int .i64 0, .int .i64 0, .slice none 0 0, .slice none 0 0] 26 (0, 0))) := by show _ = _; rw [hal.block _ (Array.getElem?_eq_some_iff.1 HZ4.out).1]; exact HZ4.out
    have HX5 := hid (HX4.out.below hal)
    have hR5 := HD5.out.1.old
    clear hal hw5
    refine takeB_on 0 (v := ?_) rfl rfl (by kernel_rfl) (by kernel_rfl) (by kernel_rfl) (by kernel_rfl) (fun _ _ _ h => h) (by rfl) hS (fun w hSw => ?_) ?_
    rotate_left
    · ((try dsimp only at hSw); go_simp; try with_reducible rfl)
    simp only [List.setIfInBounds_toArray, List.set_cons_zero, List.set_cons_succ]
    refine takeB_on 1 (v := .slice o1 V.length c1) rfl rfl (by kernel_rfl) (by kernel_rfl) (by kernel_rfl) (by kernel_rfl) (fun _ _ _ h => h) (by rfl) hS (fun w hSw => ?_) ?_
    · ((try dsimp only at hSw); go_simp; try with_reducible rfl)
    simp only [List.setIfInBounds_toArray, List.set_cons_zero, List.set_cons_succ]
    refine takeB_on 2 (v := ?_) rfl rfl (by kernel_rfl) (by kernel_rfl) (by kernel_rfl) (by kernel_rfl) (fun _ _ _ h => h) (by rfl) hS (fun w hSw => ?_) ?_
    rotate_left
    · ((try dsimp only at hSw); go_simp; try with_reducible rfl)
    simp only [List.setIfInBounds_toArray, List.set_cons_zero, List.set_cons_succ]
    refine anyB_ready (rs := [3]) (by kernel_rfl) (by simp) (ReadyB.cons rfl (fun K hK => ?_) ReadyB.nil)
    clear hS
    go_simp
    obtain ⟨w6, hw6⟩ : ∃ w6, w6 = w5.alloc (.cells #[.int .i64 (-2), .int .i64 128, .int .i64 0, .int .i64 (-1)] 3) := ⟨_, rfl⟩
    rw [← hw6]
    have hal : Below w5.heap.size w5 w6 := by rw [hw6]; exact (Below.refl _ _).alloc (Nat.le_refl _) _
    have hk := Keeps.of_below hal hR5
    have HD6 := hid (HD5.out.belowV hal)
    have HZ6 := hid (keeps_block HZ5.out hk HNE.out)
    have HX6 := hid (HX5.out.below hal)
    have hR6 := HD6.out.1.old
    have hs6 : w5.heap.size < w6.heap.size := by rw [hw6]; simp
    have HI6 : Hid (IntsAt w6 w5.heap.size 4 (-2) 128) := by rw [hw6]; exact ints_vot w5
    have hB6 : w5.heap.size ≠ R := Nat.ne_of_gt hR5
    clear hal hk hw6
    refine Shut.out hK _ _ (by show w6.cell? ⟨w2.heap.size, 5, none⟩ = _; rw [in_block HX6.out.m 5]; rfl) (fun hS => ?_)
    clear hK K
    refine anyB_ready (rs := [4]) (by kernel_rfl) (by simp) (ReadyB.cons rfl (fun K hK => ?_) ReadyB.nil)
    clear hS
    go_simp
    go_wp2_with fail
    refine (one_any R w5.heap.size 4 (-2) 128 oa len cap (q2 + 1) w6 HD6.out.1 (by omega) (by decide) (by decide) hs6 hB6 HI6.out).mono ?_
    rintro e' w7 ⟨⟨z, rfl, _⟩, hd⟩
    have HD7 := hid (HD6.out.thenV hd)
    have HZ7 := hid (keeps_block HZ6.out hd.2 HNE.out)
    have HX7 := hid (HX6.out.keeps hd.2 HRo.out HGR.out)
    have hR7 := HD7.out.1.old
    clear hd
    refine Shut.out hK _ _ (by show w7.cell? ⟨w2.heap.size, 5, none⟩ = _; rw [in_block HX7.out.m 5]; rfl) (fun hS => ?_)
    clear hK K
    refine anyB_ready (rs := [5]) (by kernel_rfl) (by simp) (ReadyB.cons rfl (fun K hK => ?_) ReadyB.nil)
    clear hS
    go_simp
    obtain ⟨w8, hw8⟩ : ∃ w8, w8 = w7.alloc (.cells #[.int .i64 z] 3) := ⟨_, rfl⟩
    rw [← hw8]
    have hal : Below w7.heap.size w7 w8 := by rw [hw8]; exact (Below.refl _ _).alloc (Nat.le_refl _) _
    have hk := Keeps.of_below hal hR7
    have HD8 := hid (HD7.out.belowV hal)
    have HZ8 := hid (keeps_block HZ7.out hk HNE.out)
    have HX8 := hid (HX7.out.below hal)
    have hR8 := HD8.out.1.old
    have hs8 : w7.heap.size < w8.heap.size := by rw [hw8]; simp
    have HC8 : Hid (∀ j u, [Value.int .i64 z][j]? = some u → w8.cell? ((⟨w7.heap.size, 0, none⟩ : Addr).add j) = some u) := by rw [hw8]; exact cell_one w7 (.int .i64 z) _
    clear hal hk hw8
    refine Shut.out hK _ _ (by show w8.cell? ⟨w2.heap.size, 5, none⟩ = _; rw [in_block HX8.out.m 5]; rfl) (fun hS => ?_)
    clear hK K
    refine anyB_ready (rs := [6]) (by kernel_rfl) (by simp) (ReadyB.cons rfl (fun K hK => ?_) ReadyB.nil)
    clear hS
    have hV := HV.out
    refine readyB_append rfl _ _ 23 rfl w.heap.size 3 i1 (.int .i64 0) 1 8 Tryd.underlying23 hi1 hy0 hy1 hy2 rfl (by decide) (.slice o1 V.length c1) V.length (V.map (Value.int .i64)) rfl HX8.out.v ⟨w7.heap.size, 0, none⟩ 1 1 [.int .i64 z] rfl rfl HC8.out (by simp [Value.oneCell']) (by unfold maxLen; omega) (by omega) HD8.out.2.size ?_
    intro v' w9 hown hgr
    have HD9 : Hid (Drawn R oa len cap (q2 + 1 + 1) w w9) := Drawn.grownV HR.out HD8.out HX8.out.v hgr
    have HZ9 : Hid (w9.heap[w.heap.size]? = some (.cells #[.int .i64 0, .int .i64 0, .int .i64 0, .int .i64 0, .int .i64 0, .slice none 0 0, .slice none 0 0] 26 (0, 0))) := grown_other HX8.out.v hgr HZ8.out neMsgInt
    have HM9 : Hid (w9.heap[w2.heap.size]? = some (.cells #[.int .i64 a, .int .i64 b, .int .i64 c, .int .i64 d, .int .i64 e, .slice o1 V.length c1, .slice o2 L.length c2] 26 (0, 0))) := grown_other HX8.out.v hgr HX8.out.m neMsgInt
    have HL9 := hid (row_grown_other HX8.out.v hgr HX8.out.l neIntEnt)
    have HX9 := hid (ecells_grown hgr HX8.out.x (by rcases HN.out with rfl | h; exact Or.inl rfl; exact Or.inr h))
    obtain ⟨U, hUl, hUm⟩ : ∃ U : List Int, U.length = V.length + 1 ∧ U.map (Value.int .i64) = V.map (Value.int .i64) ++ [.int .i64 z] := ⟨V ++ [z], by simp, by simp⟩
    rw [← hUl, ← hUm] at hown
    obtain ⟨ovv, cvv, rfl⟩ := rowv_shape hown
    have HU9 := hid hown
    have HUL : Hid (U.length ≤ 6) := by have := HV.out; show _ ≤ _; omega
    clear hown hgr hUl hUm hV
    refine Shut.out hK _ _ (by show w9.cell? ⟨w2.heap.size, 5, none⟩ = _; rw [in_block HM9.out 5]; rfl) (fun hS => ?_)
    clear hK K
    refine takeB_on 7 (v := ?_) rfl rfl (by kernel_rfl) (by kernel_rfl) (by kernel_rfl) (by kernel_rfl) (fun _ _ _ h => h) (by rfl) hS (fun w hSw => ?_) ?_
    rotate_left
    · ((try dsimp only at hSw); go_simp; try with_reducible rfl)
    simp only [List.setIfInBounds_toArray, List.set_cons_zero, List.set_cons_succ]
    have hm := HM9.out
    have hv := HU9.out
    have hl := HL9.out
    have hx := HX9.out
    have m0 : w9.cell? ⟨w2.heap.size, 0, none⟩ = some (.int .i64 a) := by rw [in_block hm 0]; rfl
    have m1 : w9.cell? ⟨w2.heap.size, 1, none⟩ = some (.int .i64 b) := by rw [in_block hm 1]; rfl
    have m2 : w9.cell? ⟨w2.heap.size, 2, none⟩ = some (.int .i64 c) := by rw [in_block hm 2]; rfl
    have m3 : w9.cell? ⟨w2.heap.size, 3, none⟩ = some (.int .i64 d) := by rw [in_block hm 3]; rfl
    have m4 : w9.cell? ⟨w2.heap.size, 4, none⟩ = some (.int .i64 e) := by rw [in_block hm 4]; rfl
    have m5 : w9.cell? ⟨w2.heap.size, 5, none⟩ = some (.slice o1 V.length c1) := by rw [in_block hm 5]; rfl
    have m6 : w9.cell? ⟨w2.heap.size, 6, none⟩ = some (.slice o2 L.length c2) := by rw [in_block hm 6]; rfl
    have mf : w9.frozen? ⟨w2.heap.size, 5, none⟩ = false := free_block hm 5
    have z0 : w9.cell? ⟨w.heap.size, 0, none⟩ = some (.int .i64 0) := by rw [in_block HZ9.out 0]; rfl
    have fz0 : w9.frozen? ⟨w.heap.size, 0, none⟩ = false := free_block HZ9.out 0
    have z1 : w9.cell? ⟨w.heap.size, 1, none⟩ = some (.int .i64 0) := by rw [in_block HZ9.out 1]; rfl
    have fz1 : w9.frozen? ⟨w.heap.size, 1, none⟩ = false := free_block HZ9.out 1
    have z2 : w9.cell? ⟨w.heap.size, 2, none⟩ = some (.int .i64 0) := by rw [in_block HZ9.out 2]; rfl
    have fz2 : w9.frozen? ⟨w.heap.size, 2, none⟩ = false := free_block HZ9.out 2
    have z3 : w9.cell? ⟨w.heap.size, 3, none⟩ = some (.int .i64 0) := by rw [in_block HZ9.out 3]; rfl
    have fz3 : w9.frozen? ⟨w.heap.size, 3, none⟩ = false := free_block HZ9.out 3
    have z4 : w9.cell? ⟨w.heap.size, 4, none⟩ = some (.int .i64 0) := by rw [in_block HZ9.out 4]; rfl
    have fz4 : w9.frozen? ⟨w.heap.size, 4, none⟩ = false := free_block HZ9.out 4
    have z5 : w9.cell? ⟨w.heap.size, 5, none⟩ = some (.slice none 0 0) := by rw [in_block HZ9.out 5]; rfl
    have fz5 : w9.frozen? ⟨w.heap.size, 5, none⟩ = false := free_block HZ9.out 5
    have z6 : w9.cell? ⟨w.heap.size, 6, none⟩ = some (.slice none 0 0) := by rw [in_block HZ9.out 6]; rfl
    have fz6 : w9.frozen? ⟨w.heap.size, 6, none⟩ = false := free_block HZ9.out 6
    have hmA := hm
    have hb0 := set_other HZ9.out w2.heap.size 5 (.slice ovv U.length cvv) (Nat.ne_of_lt HG.out)
    have hb1 := set_block _ w.heap.size 0 _ _ (.int .i64 a) hb0
    have hb2 := set_block _ w.heap.size 1 _ _ (.int .i64 b) hb1
    have hb3 := set_block _ w.heap.size 2 _ _ (.int .i64 c) hb2
    have hb4 := set_block _ w.heap.size 3 _ _ (.int .i64 d) hb3
    have hb5 := set_block _ w.heap.size 4 _ _ (.int .i64 e) hb4
    have hb6 := set_block _ w.heap.size 5 _ _ (.slice ovv U.length cvv) hb5
    have HVF := hid (row_ty (row_ty (row_ty (row_ty (row_ty (row_ty (row_ty (row_ty (hv) hmA neMsgInt 5 (.slice ovv U.length cvv)) hb0 neMsgInt 0 (.int .i64 a)) hb1 neMsgInt 1 (.int .i64 b)) hb2 neMsgInt 2 (.int .i64 c)) hb3 neMsgInt 3 (.int .i64 d)) hb4 neMsgInt 4 (.int .i64 e)) hb5 neMsgInt 5 (.slice ovv U.length cvv)) hb6 neMsgInt 6 (.slice o2 L.length c2))
    have HLF := hid (row_ty (row_ty (row_ty (row_ty (row_ty (row_ty (row_ty (row_ty (hl) hmA neMsgEnt 5 (.slice ovv U.length cvv)) hb0 neMsgEnt 0 (.int .i64 a)) hb1 neMsgEnt 1 (.int .i64 b)) hb2 neMsgEnt 2 (.int .i64 c)) hb3 neMsgEnt 3 (.int .i64 d)) hb4 neMsgEnt 4 (.int .i64 e)) hb5 neMsgEnt 5 (.slice ovv U.length cvv)) hb6 neMsgEnt 6 (.slice o2 L.length c2))
    have HXF := hid (ecells_ty (ecells_ty (ecells_ty (ecells_ty (ecells_ty (ecells_ty (ecells_ty (ecells_ty (hx) hmA neMsgInt 5 (.slice ovv U.length cvv)) hb0 neMsgInt 0 (.int .i64 a)) hb1 neMsgInt 1 (.int .i64 b)) hb2 neMsgInt 2 (.int .i64 c)) hb3 neMsgInt 3 (.int .i64 d)) hb4 neMsgInt 4 (.int .i64 e)) hb5 neMsgInt 5 (.slice ovv U.length cvv)) hb6 neMsgInt 6 (.slice o2 L.length c2))
    have HDF := hid (Drawn.store HR.out (Drawn.store HR.out (Drawn.store HR.out (Drawn.store HR.out (Drawn.store HR.out (Drawn.store HR.out (Drawn.store HR.out (Drawn.store HR.out (HD9.out) w2.heap.size 5 (.slice ovv U.length cvv) (Nat.le_of_lt HG.out)) w.heap.size 0 (.int .i64 a) (Nat.le_refl _)) w.heap.size 1 (.int .i64 b) (Nat.le_refl _)) w.heap.size 2 (.int .i64 c) (Nat.le_refl _)) w.heap.size 3 (.int .i64 d) (Nat.le_refl _)) w.heap.size 4 (.int .i64 e) (Nat.le_refl _)) w.heap.size 5 (.slice ovv U.length cvv) (Nat.le_refl _)) w.heap.size 6 (.slice o2 L.length c2) (Nat.le_refl _))
    have HVL : Hid (U.length ≤ 6) := HUL.out
    have HLLn : Hid (L.length ≤ 6) := (Nat.le_trans HL.out (by decide))
    clear hmA hm hv hl hx hb0 hb1 hb2 hb3 hb4 hb5 hb6
    have hga : ¬ w2.heap.size = w.heap.size := Nat.ne_of_gt HG.out
    have hgb : ¬ w.heap.size = w2.heap.size := Nat.ne_of_lt HG.out
    have hgc := HG.out
    refine anyB_ready (rs := [8]) (by kernel_rfl) (by simp) (ReadyB.last rfl (fun K hK => ?_) ReadyB.nil)
    clear hS
    go_simp
    refine Shut.out hK _ _ ?_
    clear hK K
    refine anyB_done (by kernel_rfl) ?_ _
    go_wp2
    refine bodyPost_ret (v := .agg #[.int .i64 a, .int .i64 b, .int .i64 c, .int .i64 d, .int .i64 e, .slice ovv U.length cvv, .slice o2 L.length c2]) (by simp [results, Tryd.results8, go_sem, z0, z1, z2, z3, z4, z5, z6]) rfl ?_
    exact ⟨⟨a, b, c, d, e, ovv, o2, cvv, c2, U, L, xs, rfl, HVF.out, HLF.out, HXF.out, HVL.out, HLLn.out⟩, _, by omega, HDF.out⟩
  · go_wp2_with fail
    refine region_B (S := (fun w' => w'.cell? ⟨w2.heap.size, 6, none⟩ = some (.slice o2 L.length c2))) 16 (by kernel_rfl) ?_ (fun hS => ?_)
    · show w4.cell? ⟨w2.heap.size, 6, none⟩ = _
      rw [in_block HX4.out.m 6]; rfl
    obtain ⟨w5, hw5⟩ : ∃ w5, w5 = w4.drew := ⟨_, rfl⟩
    rw [← hw5] at hS ⊢
    have hal : Below w4.heap.size w4 w5 := by rw [hw5]; exact (Below.refl _ _).drew
    have HD5 := hid (HD4.out.belowV hal)
    have HZ5 : Hid (w5.heap[w.heap.size]? = some (.cells #[.int .i64 0, .int .i64 0, .int .i64 0, .int .i64 0, .int .i64 0, .slice none 0 0, .slice none 0 0] 26 (0, 0))) := by show _ = _; rw [hal.block _ (Array.getElem?_eq_some_iff.1 HZ4.out).1]; exact HZ4.out
    have HX5 := hid (HX4.out.below hal)
    have hR5 := HD5.out.1.old
    clear hal hw5
    refine takeB_on 0 (v := ?_) rfl rfl (by kernel_rfl) (by kernel_rfl) (by kernel_rfl) (by kernel_rfl) (fun _ _ _ h => h) (by rfl) hS (fun w hSw => ?_) ?_
    rotate_left
    · ((try dsimp only at hSw); go_simp; try with_reducible rfl)
    simp only [List.setIfInBounds_toArray, List.set_cons_zero, List.set_cons_succ]
    refine takeB_on 1 (v := .slice o2 L.length c2) rfl rfl (by kernel_rfl) (by kernel_rfl) (by kernel_rfl) (by kernel_rfl) (fun _ _ _ h => h) (by rfl) hS (fun w hSw => ?_) ?_
    · ((try dsimp only at hSw); go_simp; try with_reducible rfl)
    simp only [List.setIfInBounds_toArray, List.set_cons_zero, List.set_cons_succ]
    refine takeB_on 2 (v := ?_) rfl rfl (by kernel_rfl) (by kernel_rfl) (by kernel_rfl) (by kernel_rfl) (fun _ _ _ h => h) (by rfl) hS (fun w hSw => ?_) ?_
    rotate_left
    · ((try dsimp only at hSw); go_simp; try with_reducible rfl)
    simp only [List.setIfInBounds_toArray, List.set_cons_zero, List.set_cons_succ]
    refine takeB_on 5 (v := ?_) rfl rfl (by kernel_rfl) (by kernel_rfl) (by kernel_rfl) (by kernel_rfl) (fun _ _ _ h => h) (by rfl) hS (fun w hSw => ?_) ?_
    rotate_left
    · ((try dsimp only at hSw); go_simp; try with_reducible rfl)
    simp only [List.setIfInBounds_toArray, List.set_cons_zero, List.set_cons_succ]
    refine takeB_on 8 (v := ?_) rfl rfl (by kernel_rfl) (by kernel_rfl) (by kernel_rfl) (by kernel_rfl) (fun _ _ _ h => h) (by rfl) hS (fun w hSw => ?_) ?_
    rotate_left
    · ((try dsimp only at hSw); go_simp; try with_reducible rfl)
    simp only [List.setIfInBounds_toArray, List.set_cons_zero, List.set_cons_succ]
    refine takeB_on 9 (v := ?_) rfl rfl (by kernel_rfl) (by kernel_rfl) (by kernel_rfl) (by kernel_rfl) (fun _ _ _ h => h) (by rfl) hS (fun w hSw => ?_) ?_
    rotate_left
    · ((try dsimp only at hSw); go_simp; try with_reducible rfl)
    simp only [List.setIfInBounds_toArray, List.set_cons_zero, List.set_cons_succ]
    refine anyB_ready (rs := [3, 6]) (by kernel_rfl) (by simp) (ReadyB.cons rfl (fun K hK => ?_) (ReadyB.cons rfl (fun K hK => ?_) ReadyB.nil))
    · clear hS
      go_simp
      obtain ⟨w6, hw6⟩ : ∃ w6, w6 = w5.alloc (.cells #[.int .i64 0, .int .i64 12, .int .i64 11] 3) := ⟨_, rfl⟩
      rw [← hw6]
      have hal : Below w5.heap.size w5 w6 := by rw [hw6]; exact (Below.refl _ _).alloc (Nat.le_refl _) _
      have hk := Keeps.of_below hal hR5
      have HD6 := hid (HD5.out.belowV hal)
      have HZ6 := hid (keeps_block HZ5.out hk HNE.out)
      have HX6 := hid (HX5.out.below hal)
      have hR6 := HD6.out.1.old
      have hs6 : w5.heap.size < w6.heap.size := by rw [hw6]; simp
      have HI1_6 : Hid (IntsAt w6 w5.heap.size 3 0 12) := by rw [hw6]; exact ints_ein w5
      have HB1 : w5.heap.size ≠ R := Nat.ne_of_gt hR5
      have hS1_6 := hs6
      clear hal hk hw6
      refine Shut.out hK _ _ (by show w6.cell? ⟨w2.heap.size, 6, none⟩ = _; rw [in_block HX6.out.m 6]; rfl) (fun hS => ?_)
      clear hK K
      refine anyB_ready (rs := [4, 6]) (by kernel_rfl) (by simp) (ReadyB.cons rfl (fun K hK => ?_) (ReadyB.cons rfl (fun K hK => ?_) ReadyB.nil))
      · clear hS
        go_simp
        go_wp2_with fail
        refine (one_any R w5.heap.size 3 0 12 oa len cap (q2 + 1) w6 HD6.out.1 (by omega) (by decide) (by decide) hS1_6 HB1 HI1_6.out).mono ?_
        rintro e' w7 ⟨⟨zz1, rfl, _⟩, hd⟩
        have hk := hd.2
        have HD7 := hid (HD6.out.thenV hd)
        have HZ7 := hid (keeps_block HZ6.out hd.2 HNE.out)
        have HX7 := hid (HX6.out.keeps hd.2 HRo.out HGR.out)
        have hR7 := HD7.out.1.old
        clear hk
        clear hd
        refine Shut.out hK _ _ (by show w7.cell? ⟨w2.heap.size, 6, none⟩ = _; rw [in_block HX7.out.m 6]; rfl) (fun hS => ?_)
        clear hK K
        refine anyB_ready (rs := [6]) (by kernel_rfl) (by simp) (ReadyB.cons rfl (fun K hK => ?_) ReadyB.nil)
        clear hS
        go_simp
        obtain ⟨w8, hw8⟩ : ∃ w8, w8 = w7.alloc (.cells #[.int .i64 0, .int .i64 1] 3) := ⟨_, rfl⟩
        rw [← hw8]
        have hal : Below w7.heap.size w7 w8 := by rw [hw8]; exact (Below.refl _ _).alloc (Nat.le_refl _) _
        have hk := Keeps.of_below hal hR7
        have HD8 := hid (HD7.out.belowV hal)
        have HZ8 := hid (keeps_block HZ7.out hk HNE.out)
        have HX8 := hid (HX7.out.below hal)
        have hR8 := HD8.out.1.old
        have hs8 : w7.heap.size < w8.heap.size := by rw [hw8]; simp
        have HI2_8 : Hid (IntsAt w8 w7.heap.size 2 0 1) := by rw [hw8]; exact ints_ebal w7
        have HB2 : w7.heap.size ≠ R := Nat.ne_of_gt hR7
        have hS2_8 := hs8
        clear hal hk hw8
        refine Shut.out hK _ _ (by show w8.cell? ⟨w2.heap.size, 6, none⟩ = _; rw [in_block HX8.out.m 6]; rfl) (fun hS => ?_)
        clear hK K
        refine anyB_ready (rs := [7]) (by kernel_rfl) (by simp) (ReadyB.cons rfl (fun K hK => ?_) ReadyB.nil)
        clear hS
        go_simp
        go_wp2_with fail
        refine (one_any R w7.heap.size 2 0 1 oa len cap (q2 + 1 + 1) w8 HD8.out.1 (by omega) (by decide) (by decide) hS2_8 HB2 HI2_8.out).mono ?_
        rintro e' w9 ⟨⟨zz2, rfl, _⟩, hd⟩
        have hk := hd.2
        have HD9 := hid (HD8.out.thenV hd)
        have HZ9 := hid (keeps_block HZ8.out hd.2 HNE.out)
        have HX9 := hid (HX8.out.keeps hd.2 HRo.out HGR.out)
        have hR9 := HD9.out.1.old
        clear hk
        clear hd
        refine Shut.out hK _ _ (by show w9.cell? ⟨w2.heap.size, 6, none⟩ = _; rw [in_block HX9.out.m 6]; rfl) (fun hS => ?_)
        clear hK K
        refine anyB_ready (rs := [10]) (by kernel_rfl) (by simp) (ReadyB.cons rfl (fun K hK => ?_) ReadyB.nil)
        clear hS
        go_simp
        go_wp2_with fail
        refine (pick_any R oa len cap (q2 + 1 + 1 + 1) 4 w9 HD9.out.1 (by omega) (by decide)).mono ?_
        rintro e' w10 ⟨⟨y1, rfl, hy5, hy6⟩, hd⟩
        have HD10 := hid (HD9.out.thenV hd)
        have HZ10 := hid (keeps_block HZ9.out hd.2 HNE.out)
        have HX10 := hid (HX9.out.keeps hd.2 HRo.out HGR.out)
        have hR10 := HD10.out.1.old
        clear hd
        obtain ⟨n, rfl⟩ : ∃ n : Nat, y1 = (n : Int) := ⟨y1.toNat, by omega⟩
        refine Shut.out hK _ _ (by show w10.cell? ⟨w2.heap.size, 6, none⟩ = _; rw [in_block HX10.out.m 6]; rfl) (fun hS => ?_)
        clear hK K
        refine anyB_ready (rs := [11]) (by kernel_rfl) (by simp) (ReadyB.cons rfl (fun K hK => ?_) ReadyB.nil)
        clear hS
        go_simp
        go_wp2_with fail
        refine (votes_any R oa len cap (q2 + 1 + 1 + 1 + 1) n w10 HD10.out.1 (by omega) (by omega)).mono ?_
        rintro e' w11 ⟨⟨v, rfl, U, hu, hu3⟩, q11, hq11, hd⟩
        have HD11 := hid (HD10.out.thenV hd)
        have HZ11 := hid (keeps_block HZ10.out hd.2 HNE.out)
        have HX11 := hid (HX10.out.keeps hd.2 HRo.out HGR.out)
        have hR11 := HD11.out.1.old
        clear hd
        obtain ⟨ovv, cvv, rfl⟩ := rowv_shape hu
        have HNI : Hid (NumsIn w.heap.size w11 ovv U) := (NumsIn.of_row hu).base HD10.out.2.size
        have HU3 := hid hu3
        clear hu
        refine Shut.out hK _ _ (by show w11.cell? ⟨w2.heap.size, 6, none⟩ = _; rw [in_block HX11.out.m 6]; rfl) (fun hS => ?_)
        clear hK K
        refine takeB_on 12 (v := ?_) rfl rfl (by kernel_rfl) (by kernel_rfl) (by kernel_rfl) (by kernel_rfl) (fun _ _ _ h => h) (by rfl) hS (fun w hSw => ?_) ?_
        rotate_left
        · ((try dsimp only at hSw); go_simp; try with_reducible rfl)
        simp only [List.setIfInBounds_toArray, List.set_cons_zero, List.set_cons_succ]
        refine anyB_ready (rs := [13]) (by kernel_rfl) (by simp) (ReadyB.cons rfl (fun K hK => ?_) ReadyB.nil)
        clear hS
        go_simp
        obtain ⟨w12, hw12⟩ : ∃ w12, w12 = w11.alloc (.cells #[.int .i64 zz1, .int .i64 zz2, .slice ovv U.length cvv] 53) := ⟨_, rfl⟩
        rw [← hw12]
        have hal : Below w11.heap.size w11 w12 := by rw [hw12]; exact (Below.refl _ _).alloc (Nat.le_refl _) _
        have hk := Keeps.of_below hal hR11
        have HD12 := hid (HD11.out.belowV hal)
        have HZ12 := hid (keeps_block HZ11.out hk HNE.out)
        have HX12 := hid (HX11.out.below hal)
        have hR12 := HD12.out.1.old
        have hs12 : w11.heap.size < w12.heap.size := by rw [hw12]; simp
        have HC12 : Hid (∀ j u, [Value.int .i64 zz1, .int .i64 zz2, .slice ovv U.length cvv][j]? = some u → w12.cell? ((⟨w11.heap.size, 0, none⟩ : Addr).add j) = some u) := by rw [hw12]; exact cell_three w11 _ _ _ _
        have HE12 : Hid (ECells w.heap.size w12 (L ++ [(zz1, zz2, U)]) (xs ++ [.int .i64 zz1, .int .i64 zz2, .slice ovv U.length cvv])) := (ECells.add HX11.out.x (by have := HU3.out; omega) HNI.out).kept (fun b cur fz hb hh => kept_below hal b cur fz hb hh)
        clear hal hk hw12
        refine Shut.out hK _ _ (by show w12.cell? ⟨w2.heap.size, 6, none⟩ = _; rw [in_block HX12.out.m 6]; rfl) (fun hS => ?_)
        clear hK K
        refine anyB_ready (rs := [14]) (by kernel_rfl) (by simp) (ReadyB.cons rfl (fun K hK => ?_) ReadyB.nil)
        clear hS
        have hL := HL.out
        refine readyB_append rfl _ _ 24 rfl w.heap.size 53 i0 (.agg #[.int .i64 0, .int .i64 0, .slice none 0 0]) 3 40 Tryd.underlying24 hi hz0 hz1 hz2 rfl (by decide) (.slice o2 L.length c2) L.length xs rfl HX12.out.l ⟨w11.heap.size, 0, none⟩ 1 1 [.int .i64 zz1, .int .i64 zz2, .slice ovv U.length cvv] rfl rfl HC12.out (by simp [Value.oneCell']) (by unfold maxLen; omega) (by omega) HD12.out.2.size ?_
        intro v' w13 hown hgr
        have HD13 : Hid (Drawn R oa len cap q11 w w13) := Drawn.grownV HR.out HD12.out HX12.out.l hgr
        have HZ13 : Hid (w13.heap[w.heap.size]? = some (.cells #[.int .i64 0, .int .i64 0, .int .i64 0, .int .i64 0, .int .i64 0, .slice none 0 0, .slice none 0 0] 26 (0, 0))) := grown_other HX12.out.l hgr HZ12.out neMsgEnt
        have HM13 : Hid (w13.heap[w2.heap.size]? = some (.cells #[.int .i64 a, .int .i64 b, .int .i64 c, .int .i64 d, .int .i64 e, .slice o1 V.length c1, .slice o2 L.length c2] 26 (0, 0))) := grown_other HX12.out.l hgr HX12.out.m neMsgEnt
        have HV13 := hid (row_grown_other HX12.out.l hgr HX12.out.v neEntInt)
        have HE13 : Hid (ECells w.heap.size w13 (L ++ [(zz1, zz2, U)]) (xs ++ [.int .i64 zz1, .int .i64 zz2, .slice ovv U.length cvv])) := HE12.out.kept (fun b cur fz hb hh => kept_grown HX12.out.l hgr b cur fz hb hh)
        obtain ⟨K2, hKl, hK2⟩ : ∃ K2 : List Ent, K2.length = L.length + 1 ∧ K2 = L ++ [(zz1, zz2, U)] := ⟨L ++ [(zz1, zz2, U)], by simp, rfl⟩
        have HE14 : Hid (ECells w.heap.size w13 K2 (xs ++ [.int .i64 zz1, .int .i64 zz2, .slice ovv U.length cvv])) := by rw [hK2]; exact HE13.out
        rw [← hKl] at hown
        obtain ⟨ovw, cvw, rfl⟩ := rowv_shape hown
        have HU13 := hid hown
        have HKL : Hid (K2.length ≤ 6) := by have := HL.out; show _ ≤ _; omega
        clear hown hgr hKl hK2 hL
        refine Shut.out hK _ _ (by show w13.cell? ⟨w2.heap.size, 6, none⟩ = _; rw [in_block HM13.out 6]; rfl) (fun hS => ?_)
        clear hK K
        refine takeB_on 15 (v := ?_) rfl rfl (by kernel_rfl) (by kernel_rfl) (by kernel_rfl) (by kernel_rfl) (fun _ _ _ h => h) (by rfl) hS (fun w hSw => ?_) ?_
        rotate_left
        · ((try dsimp only at hSw); go_simp; try with_reducible rfl)
        simp only [List.setIfInBounds_toArray, List.set_cons_zero, List.set_cons_succ]
        have hm := HM13.out
        have hv := HV13.out
        have hl := HU13.out
        have hx := HE14.out
        have m0 : w13.cell? ⟨w2.heap.size, 0, none⟩ = some (.int .i64 a) := by rw [in_block hm 0]; rfl
        have m1 : w13.cell? ⟨w2.heap.size, 1, none⟩ = some (.int .i64 b) := by rw [in_block hm 1]; rfl
        have m2 : w13.cell? ⟨w2.heap.size, 2, none⟩ = some (.int .i64 c) := by rw [in_block hm 2]; rfl
        have m3 : w13.cell? ⟨w2.heap.size, 3, none⟩ = some (.int .i64 d) := by rw [in_block hm 3]; rfl
        have m4 : w13.cell? ⟨w2.heap.size, 4, none⟩ = some (.int .i64 e) := by rw [in_block hm 4]; rfl
        have m5 : w13.cell? ⟨w2.heap.size, 5, none⟩ = some (.slice o1 V.length c1) := by rw [in_block hm 5]; rfl
        have m6 : w13.cell? ⟨w2.heap.size, 6, none⟩ = some (.slice o2 L.length c2) := by rw [in_block hm 6]; rfl
        have mf : w13.frozen? ⟨w2.heap.size, 6, none⟩ = false := free_block hm 6
        have z0 : w13.cell? ⟨w.heap.size, 0, none⟩ = some (.int .i64 0) := by rw [in_block HZ13.out 0]; rfl
        have fz0 : w13.frozen? ⟨w.heap.size, 0, none⟩ = false := free_block HZ13.out 0
        have z1 : w13.cell? ⟨w.heap.size, 1, none⟩ = some (.int .i64 0) := by rw [in_block HZ13.out 1]; rfl
        have fz1 : w13.frozen? ⟨w.heap.size, 1, none⟩ = false := free_block HZ13.out 1
        have z2 : w13.cell? ⟨w.heap.size, 2, none⟩ = some (.int .i64 0) := by rw [in_block HZ13.out 2]; rfl
        have fz2 : w13.frozen? ⟨w.heap.size, 2, none⟩ = false := free_block HZ13.out 2
        have z3 : w13.cell? ⟨w.heap.size, 3, none⟩ = some (.int .i64 0) := by rw [in_block HZ13.out 3]; rfl
        have fz3 : w13.frozen? ⟨w.heap.size, 3, none⟩ = false := free_block HZ13.out 3
        have z4 : w13.cell? ⟨w.heap.size, 4, none⟩ = some (.int .i64 0) := by rw [in_block HZ13.out 4]; rfl
        have fz4 : w13.frozen? ⟨w.heap.size, 4, none⟩ = false := free_block HZ13.out 4
        have z5 : w13.cell? ⟨w.heap.size, 5, none⟩ = some (.slice none 0 0) := by rw [in_block HZ13.out 5]; rfl
        have fz5 : w13.frozen? ⟨w.heap.size, 5, none⟩ = false := free_block HZ13.out 5
        have z6 : w13.cell? ⟨w.heap.size, 6, none⟩ = some (.slice none 0 0) := by rw [in_block HZ13.out 6]; rfl
        have fz6 : w13.frozen? ⟨w.heap.size, 6, none⟩ = false := free_block HZ13.out 6
        have hmA := hm
        have hb0 := set_other HZ13.out w2.heap.size 6 (.slice ovw K2.length cvw) (Nat.ne_of_lt HG.out)
        have hb1 := set_block _ w.heap.size 0 _ _ (.int .i64 a) hb0
        have hb2 := set_block _ w.heap.size 1 _ _ (.int .i64 b) hb1
        have hb3 := set_block _ w.heap.size 2 _ _ (.int .i64 c) hb2
        have hb4 := set_block _ w.heap.size 3 _ _ (.int .i64 d) hb3
        have hb5 := set_block _ w.heap.size 4 _ _ (.int .i64 e) hb4
        have hb6 := set_block _ w.heap.size 5 _ _ (.slice o1 V.length c1) hb5
        have HVF := hid (row_ty (row_ty (row_ty (row_ty (row_ty (row_ty (row_ty (row_ty (hv) hmA neMsgInt 6 (.slice ovw K2.length cvw)) hb0 neMsgInt 0 (.int .i64 a)) hb1 neMsgInt 1 (.int .i64 b)) hb2 neMsgInt 2 (.int .i64 c)) hb3 neMsgInt 3 (.int .i64 d)) hb4 neMsgInt 4 (.int .i64 e)) hb5 neMsgInt 5 (.slice o1 V.length c1)) hb6 neMsgInt 6 (.slice ovw K2.length cvw))
        have HLF := hid (row_ty (row_ty (row_ty (row_ty (row_ty (row_ty (row_ty (row_ty (hl) hmA neMsgEnt 6 (.slice ovw K2.length cvw)) hb0 neMsgEnt 0 (.int .i64 a)) hb1 neMsgEnt 1 (.int .i64 b)) hb2 neMsgEnt 2 (.int .i64 c)) hb3 neMsgEnt 3 (.int .i64 d)) hb4 neMsgEnt 4 (.int .i64 e)) hb5 neMsgEnt 5 (.slice o1 V.length c1)) hb6 neMsgEnt 6 (.slice ovw K2.length cvw))
        have HXF := hid (ecells_ty (ecells_ty (ecells_ty (ecells_ty (ecells_ty (ecells_ty (ecells_ty (ecells_ty (hx) hmA neMsgInt 6 (.slice ovw K2.length cvw)) hb0 neMsgInt 0 (.int .i64 a)) hb1 neMsgInt 1 (.int .i64 b)) hb2 neMsgInt 2 (.int .i64 c)) hb3 neMsgInt 3 (.int .i64 d)) hb4 neMsgInt 4 (.int .i64 e)) hb5 neMsgInt 5 (.slice o1 V.length c1)) hb6 neMsgInt 6 (.slice ovw K2.length cvw))
        have HDF := hid (Drawn.store HR.out (Drawn.store HR.out (Drawn.store HR.out (Drawn.store HR.out (Drawn.store HR.out (Drawn.store HR.out (Drawn.store HR.out (Drawn.store HR.out (HD13.out) w2.heap.size 6 (.slice ovw K2.length cvw) (Nat.le_of_lt HG.out)) w.heap.size 0 (.int .i64 a) (Nat.le_refl _)) w.heap.size 1 (.int .i64 b) (Nat.le_refl _)) w.heap.size 2 (.int .i64 c) (Nat.le_refl _)) w.heap.size 3 (.int .i64 d) (Nat.le_refl _)) w.heap.size 4 (.int .i64 e) (Nat.le_refl _)) w.heap.size 5 (.slice o1 V.length c1) (Nat.le_refl _)) w.heap.size 6 (.slice ovw K2.length cvw) (Nat.le_refl _))
        have HVL : Hid (V.length ≤ 6) := (Nat.le_trans HV.out (by decide))
        have HLLn : Hid (K2.length ≤ 6) := HKL.out
        clear hmA hm hv hl hx hb0 hb1 hb2 hb3 hb4 hb5 hb6
        have hga : ¬ w2.heap.size = w.heap.size := Nat.ne_of_gt HG.out
        have hgb : ¬ w.heap.size = w2.heap.size := Nat.ne_of_lt HG.out
        have hgc := HG.out
        refine anyB_ready (rs := [16]) (by kernel_rfl) (by simp) (ReadyB.last rfl (fun K hK => ?_) ReadyB.nil)
        clear hS
        go_simp
        refine Shut.out hK _ _ ?_
        clear hK K
        refine anyB_done (by kernel_rfl) ?_ _
        go_wp2
        refine bodyPost_ret (v := .agg #[.int .i64 a, .int .i64 b, .int .i64 c, .int .i64 d, .int .i64 e, .slice o1 V.length c1, .slice ovw K2.length cvw]) (by simp [results, Tryd.results8, go_sem, z0, z1, z2, z3, z4, z5, z6]) rfl ?_
        exact ⟨⟨a, b, c, d, e, o1, ovw, c1, cvw, V, K2, (xs ++ [.int .i64 zz1, .int .i64 zz2, .slice ovv U.length cvv]), rfl, HVF.out, HLF.out, HXF.out, HVL.out, HLLn.out⟩, _, by omega, HDF.out⟩
      · clear hS
        go_simp
        obtain ⟨w7, hw7⟩ : ∃ w7, w7 = w6.alloc (.cells #[.int .i64 0, .int .i64 1] 3) := ⟨_, rfl⟩
        rw [← hw7]
        have hal : Below w6.heap.size w6 w7 := by rw [hw7]; exact (Below.refl _ _).alloc (Nat.le_refl _) _
        have hk := Keeps.of_below hal hR6
        have HD7 := hid (HD6.out.belowV hal)
        have HZ7 := hid (keeps_block HZ6.out hk HNE.out)
        have HX7 := hid (HX6.out.below hal)
        have hR7 := HD7.out.1.old
        have hs7 : w6.heap.size < w7.heap.size := by rw [hw7]; simp
        have HI2_7 : Hid (IntsAt w7 w6.heap.size 2 0 1) := by rw [hw7]; exact ints_ebal w6
        have HB2 : w6.heap.size ≠ R := Nat.ne_of_gt hR6
        have hS2_7 := hs7
        have HI1_7 := hid (HI1_6.out.keep hS1_6 hk HB1)
        have hS1_7 : w5.heap.size < w7.heap.size := Nat.lt_of_lt_of_le hS1_6 hk.size
        clear hal hk hw7
        refine Shut.out hK _ _ (by show w7.cell? ⟨w2.heap.size, 6, none⟩ = _; rw [in_block HX7.out.m 6]; rfl) (fun hS => ?_)
        clear hK K
        refine anyB_ready (rs := [4]) (by kernel_rfl) (by simp) (ReadyB.cons rfl (fun K hK => ?_) ReadyB.nil)
        clear hS
        go_simp
        go_wp2_with fail
        refine (one_any R w5.heap.size 3 0 12 oa len cap (q2 + 1) w7 HD7.out.1 (by omega) (by decide) (by decide) hS1_7 HB1 HI1_7.out).mono ?_
        rintro e' w8 ⟨⟨zz1, rfl, _⟩, hd⟩
        have hk := hd.2
        have HD8 := hid (HD7.out.thenV hd)
        have HZ8 := hid (keeps_block HZ7.out hd.2 HNE.out)
        have HX8 := hid (HX7.out.keeps hd.2 HRo.out HGR.out)
        have hR8 := HD8.out.1.old
        have HI2_8 := hid (HI2_7.out.keep hS2_7 hk HB2)
        have hS2_8 : w6.heap.size < w8.heap.size := Nat.lt_of_lt_of_le hS2_7 hk.size
        clear hk
        clear hd
        refine Shut.out hK _ _ (by show w8.cell? ⟨w2.heap.size, 6, none⟩ = _; rw [in_block HX8.out.m 6]; rfl) (fun hS => ?_)
        clear hK K
        refine anyB_ready (rs := [7]) (by kernel_rfl) (by simp) (ReadyB.cons rfl (fun K hK => ?_) ReadyB.nil)
        clear hS
        go_simp
        go_wp2_with fail
        refine (one_any R w6.heap.size 2 0 1 oa len cap (q2 + 1 + 1) w8 HD8.out.1 (by omega) (by decide) (by decide) hS2_8 HB2 HI2_8.out).mono ?_
        rintro e' w9 ⟨⟨zz2, rfl, _⟩, hd⟩
        have hk := hd.2
        have HD9 := hid (HD8.out.thenV hd)
        have HZ9 := hid (keeps_block HZ8.out hd.2 HNE.out)
        have HX9 := hid (HX8.out.keeps hd.2 HRo.out HGR.out)
        have hR9 := HD9.out.1.old
        clear hk
        clear hd
        refine Shut.out hK _ _ (by show w9.cell? ⟨w2.heap.size, 6, none⟩ = _; rw [in_block HX9.out.m 6]; rfl) (fun hS => ?_)
        clear hK K
        refine anyB_ready (rs := [10]) (by kernel_rfl) (by simp) (ReadyB.cons rfl (fun K hK => ?_) ReadyB.nil)
        clear hS
        go_simp
        go_wp2_with fail
        refine (pick_any R oa len cap (q2 + 1 + 1 + 1) 4 w9 HD9.out.1 (by omega) (by decide)).mono ?_
        rintro e' w10 ⟨⟨y1, rfl, hy5, hy6⟩, hd⟩
        have HD10 := hid (HD9.out.thenV hd)
        have HZ10 := hid (keeps_block HZ9.out hd.2 HNE.out)
        have HX10 := hid (HX9.out.keeps hd.2 HRo.out HGR.out)
        have hR10 := HD10.out.1.old
        clear hd
        obtain ⟨n, rfl⟩ : ∃ n : Nat, y1 = (n : Int) := ⟨y1.toNat, by omega⟩
        refine Shut.out hK _ _ (by show w10.cell? ⟨w2.heap.size, 6, none⟩ = _; rw [in_block HX10.out.m 6]; rfl) (fun hS => ?_)
        clear hK K
        refine anyB_ready (rs := [11]) (by kernel_rfl) (by simp) (ReadyB.cons rfl (fun K hK => ?_) ReadyB.nil)
        clear hS
        go_simp
        go_wp2_with fail
        refine (votes_any R oa len cap (q2 + 1 + 1 + 1 + 1) n w10 HD10.out.1 (by omega) (by omega)).mono ?_
        rintro e' w11 ⟨⟨v, rfl, U, hu, hu3⟩, q11, hq11, hd⟩
        have HD11 := hid (HD10.out.thenV hd)
        have HZ11 := hid (keeps_block HZ10.out hd.2 HNE.out)
        have HX11 := hid (HX10.out.keeps hd.2 HRo.out HGR.out)
        have hR11 := HD11.out.1.old
        clear hd
        obtain ⟨ovv, cvv, rfl⟩ := rowv_shape hu
        have HNI : Hid (NumsIn w.heap.size w11 ovv U) := (NumsIn.of_row hu).base HD10.out.2.size
        have HU3 := hid hu3
        clear hu
        refine Shut.out hK _ _ (by show w11.cell? ⟨w2.heap.size, 6, none⟩ = _; rw [in_block HX11.out.m 6]; rfl) (fun hS => ?_)
        clear hK K
        refine takeB_on 12 (v := ?_) rfl rfl (by kernel_rfl) (by kernel_rfl) (by kernel_rfl) (by kernel_rfl) (fun _ _ _ h => h) (by rfl) hS (fun w hSw => ?_) ?_
        rotate_left
        · ((try dsimp only at hSw); go_simp; try with_reducible rfl)
        simp only [List.setIfInBounds_toArray, List.set_cons_zero, List.set_cons_succ]
        refine anyB_ready (rs := [13]) (by kernel_rfl) (by simp) (ReadyB.cons rfl (fun K hK => ?_) ReadyB.nil)
        clear hS
        go_simp
        obtain ⟨w12, hw12⟩ : ∃ w12, w12 = w11.alloc (.cells #[.int .i64 zz1, .int .i64 zz2, .slice ovv U.length cvv] 53) := ⟨_, rfl⟩
        rw [← hw12]
        have hal : Below w11.heap.size w11 w12 := by rw [hw12]; exact (Below.refl _ _).alloc (Nat.le_refl _) _
        have hk := Keeps.of_below hal hR11
        have HD12 := hid (HD11.out.belowV hal)
        have HZ12 := hid (keeps_block HZ11.out hk HNE.out)
        have HX12 := hid (HX11.out.below hal)
        have hR12 := HD12.out.1.old
        have hs12 : w11.heap.size < w12.heap.size := by rw [hw12]; simp
        have HC12 : Hid (∀ j u, [Value.int .i64 zz1, .int .i64 zz2, .slice ovv U.length cvv][j]? = some u → w12.cell? ((⟨w11.heap.size, 0, none⟩ : Addr).add j) = some u) := by rw [hw12]; exact cell_three w11 _ _ _ _
        have HE12 : Hid (ECells w.heap.size w12 (L ++ [(zz1, zz2, U)]) (xs ++ [.int .i64 zz1, .int .i64 zz2, .slice ovv U.length cvv])) := (ECells.add HX11.out.x (by have := HU3.out; omega) HNI.out).kept (fun b cur fz hb hh => kept_below hal b cur fz hb hh)
        clear hal hk hw12
        refine Shut.out hK _ _ (by show w12.cell? ⟨w2.heap.size, 6, none⟩ = _; rw [in_block HX12.out.m 6]; rfl) (fun hS => ?_)
        clear hK K
        refine anyB_ready (rs := [14]) (by kernel_rfl) (by simp) (ReadyB.cons rfl (fun K hK => ?_) ReadyB.nil)
        clear hS
        have hL := HL.out
        refine readyB_append rfl _ _ 24 rfl w.heap.size 53 i0 (.agg #[.int .i64 0, .int .i64 0, .slice none 0 0]) 3 40 Tryd.underlying24 hi hz0 hz1 hz2 rfl (by decide) (.slice o2 L.length c2) L.length xs rfl HX12.out.l ⟨w11.heap.size, 0, none⟩ 1 1 [.int .i64 zz1, .int .i64 zz2, .slice ovv U.length cvv] rfl rfl HC12.out (by simp [Value.oneCell']) (by unfold maxLen; omega) (by omega) HD12.out.2.size ?_
        intro v' w13 hown hgr
        have HD13 : Hid (Drawn R oa len cap q11 w w13) := Drawn.grownV HR.out HD12.out HX12.out.l hgr
        have HZ13 : Hid (w13.heap[w.heap.size]? = some (.cells #[.int .i64 0, .int .i64 0, .int .i64 0, .int .i64 0, .int .i64 0, .slice none 0 0, .slice none 0 0] 26 (0, 0))) := grown_other HX12.out.l hgr HZ12.out neMsgEnt
        have HM13 : Hid (w13.heap[w2.heap.size]? = some (.cells #[.int .i64 a, .int .i64 b, .int .i64 c, .int .i64 d, .int .i64 e, .slice o1 V.length c1, .slice o2 L.length c2] 26 (0, 0))) := grown_other HX12.out.l hgr HX12.out.m neMsgEnt
        have HV13 := hid (row_grown_other HX12.out.l hgr HX12.out.v neEntInt)
        have HE13 : Hid (ECells w.heap.size w13 (L ++ [(zz1, zz2, U)]) (xs ++ [.int .i64 zz1, .int .i64 zz2, .slice ovv U.length cvv])) := HE12.out.kept (fun b cur fz hb hh => kept_grown HX12.out.l hgr b cur fz hb hh)
        obtain ⟨K2, hKl, hK2⟩ : ∃ K2 : List Ent, K2.length = L.length + 1 ∧ K2 = L ++ [(zz1, zz2, U)] := ⟨L ++ [(zz1, zz2, U)], by simp, rfl⟩
        have HE14 : Hid (ECells w.heap.size w13 K2 (xs ++ [.int .i64 zz1, .int .i64 zz2, .slice ovv U.length cvv])) := by rw [hK2]; exact HE13.out
        rw [← hKl] at hown
        obtain ⟨ovw, cvw, rfl⟩ := rowv_shape hown
        have HU13 := hid hown
        have HKL : Hid (K2.length ≤ 6) := by have := HL.out; show _ ≤ _; omega
        clear hown hgr hKl hK2 hL
        refine Shut.out hK _ _ (by show w13.cell? ⟨w2.heap.size, 6, none⟩ = _; rw [in_block HM13.out 6]; rfl) (fun hS => ?_)
        clear hK K
        refine takeB_on 15 (v := ?_) rfl rfl (by kernel_rfl) (by kernel_rfl) (by kernel_rfl) (by kernel_rfl) (fun _ _ _ h => h) (by rfl) hS (fun w hSw => ?_) ?_
        rotate_left
        · ((try dsimp only at hSw); go_simp; try with_reducible rfl)
        simp only [List.setIfInBounds_toArray, List.set_cons_zero, List.set_cons_succ]
        have hm := HM13.out
        have hv := HV13.out
        have hl := HU13.out
        have hx := HE14.out
        have m0 : w13.cell? ⟨w2.heap.size, 0, none⟩ = some (.int .i64 a) := by rw [in_block hm 0]; rfl
        have m1 : w13.cell? ⟨w2.heap.size, 1, none⟩ = some (.int .i64 b) := by rw [in_block hm 1]; rfl
        have m2 : w13.cell? ⟨w2.heap.size, 2, none⟩ = some (.int .i64 c) := by rw [in_block hm 2]; rfl
        have m3 : w13.cell? ⟨w2.heap.size, 3, none⟩ = some (.int .i64 d) := by rw [in_block hm 3]; rfl
        have m4 : w13.cell? ⟨w2.heap.size, 4, none⟩ = some (.int .i64 e) := by rw [in_block hm 4]; rfl
        have m5 : w13.cell? ⟨w2.heap.size, 5, none⟩ = some (.slice o1 V.length c1) := by rw [in_block hm 5]; rfl
        have m6 : w13.cell? ⟨w2.heap.size, 6, none⟩ = some (.slice o2 L.length c2) := by rw [in_block hm 6]; rfl
        have mf : w13.frozen? ⟨w2.heap.size, 6, none⟩ = false := free_block hm 6
        have z0 : w13.cell? ⟨w.heap.size, 0, none⟩ = some (.int .i64 0) := by rw [in_block HZ13.out 0]; rfl
        have fz0 : w13.frozen? ⟨w.heap.size, 0, none⟩ = false := free_block HZ13.out 0
        have z1 : w13.cell? ⟨w.heap.size, 1, none⟩ = some (.int .i64 0) := by rw [in_block HZ13.out 1]; rfl
        have fz1 : w13.frozen? ⟨w.heap.size, 1, none⟩ = false := free_block HZ13.out 1
        have z2 : w13.cell? ⟨w.heap.size, 2, none⟩ = some (.int .i64 0) := by rw [in_block HZ13.out 2]; rfl
        have fz2 : w13.frozen? ⟨w.heap.size, 2, none⟩ = false := free_block HZ13.out 2
        have z3 : w13.cell? ⟨w.heap.size, 3, none⟩ = some (.int .i64 0) := by rw [in_block HZ13.out 3]; rfl
        have fz3 : w13.frozen? ⟨w.heap.size, 3, none⟩ = false := free_block HZ13.out 3
        have z4 : w13.cell? ⟨w.heap.size, 4, none⟩ = some (.int .i64 0) := by rw [in_block HZ13.out 4]; rfl
        have fz4 : w13.frozen? ⟨w.heap.size, 4, none⟩ = false := free_block HZ13.out 4
        have z5 : w13.cell? ⟨w.heap.size, 5, none⟩ = some (.slice none 0 0) := by rw [in_block HZ13.out 5]; rfl
        have fz5 : w13.frozen? ⟨w.heap.size, 5, none⟩ = false := free_block HZ13.out 5
        have z6 : w13.cell? ⟨w.heap.size, 6, none⟩ = some (.slice none 0 0) := by rw [in_block HZ13.out 6]; rfl
        have fz6 : w13.frozen? ⟨w.heap.size, 6, none⟩ = false := free_block HZ13.out 6
        have hmA := hm
        have hb0 := set_other HZ13.out w2.heap.size 6 (.slice ovw K2.length cvw) (Nat.ne_of_lt HG.out)
        have hb1 := set_block _ w.heap.size 0 _ _ (.int .i64 a) hb0
        have hb2 := set_block _ w.heap.size 1 _ _ (.int .i64 b) hb1
        have hb3 := set_block _ w.heap.size 2 _ _ (.int .i64 c) hb2
        have hb4 := set_block _ w.heap.size 3 _ _ (.int .i64 d) hb3
        have hb5 := set_block _ w.heap.size 4 _ _ (.int .i64 e) hb4
        have hb6 := set_block _ w.heap.size 5 _ _ (.slice o1 V.length c1) hb5
        have HVF := hid (row_ty (row_ty (row_ty (row_ty (row_ty (row_ty (row_ty (row_ty (hv) hmA neMsgInt 6 (.slice ovw K2.length cvw)) hb0 neMsgInt 0 (.int .i64 a)) hb1 neMsgInt 1 (.int .i64 b)) hb2 neMsgInt 2 (.int .i64 c)) hb3 neMsgInt 3 (.int .i64 d)) hb4 neMsgInt 4 (.int .i64 e)) hb5 neMsgInt 5 (.slice o1 V.length c1)) hb6 neMsgInt 6 (.slice ovw K2.length cvw))
        have HLF := hid (row_ty (row_ty (row_ty (row_ty (row_ty (row_ty (row_ty (row_ty (hl) hmA neMsgEnt 6 (.slice ovw K2.length cvw)) hb0 neMsgEnt 0 (.int .i64 a)) hb1 neMsgEnt 1 (.int .i64 b)) hb2 neMsgEnt 2 (.int .i64 c)) hb3 neMsgEnt 3 (.int .i64 d)) hb4 neMsgEnt 4 (.int .i64 e)) hb5 neMsgEnt 5 (.slice o1 V.length c1)) hb6 neMsgEnt 6 (.slice ovw K2.length cvw))
        have HXF := hid (ecells_ty (ecells_ty (ecells_ty (ecells_ty (ecells_ty (ecells_ty (ecells_ty (ecells_ty (hx) hmA neMsgInt 6 (.slice ovw K2.length cvw)) hb0 neMsgInt 0 (.int .i64 a)) hb1 neMsgInt 1 (.int .i64 b)) hb2 neMsgInt 2 (.int .i64 c)) hb3 neMsgInt 3 (.int .i64 d)) hb4 neMsgInt 4 (.int .i64 e)) hb5 neMsgInt 5 (.slice o1 V.length c1)) hb6 neMsgInt 6 (.slice ovw K2.length cvw))
        have HDF := hid (Drawn.store HR.out (Drawn.store HR.out (Drawn.store HR.out (Drawn.store HR.out (Drawn.store HR.out (Drawn.store HR.out (Drawn.store HR.out (Drawn.store HR.out (HD13.out) w2.heap.size 6 (.slice ovw K2.length cvw) (Nat.le_of_lt HG.out)) w.heap.size 0 (.int .i64 a) (Nat.le_refl _)) w.heap.size 1 (.int .i64 b) (Nat.le_refl _)) w.heap.size 2 (.int .i64 c) (Nat.le_refl _)) w.heap.size 3 (.int .i64 d) (Nat.le_refl _)) w.heap.size 4 (.int .i64 e) (Nat.le_refl _)) w.heap.size 5 (.slice o1 V.length c1) (Nat.le_refl _)) w.heap.size 6 (.slice ovw K2.length cvw) (Nat.le_refl _))
        have HVL : Hid (V.length ≤ 6) := (Nat.le_trans HV.out (by decide))
        have HLLn : Hid (K2.length ≤ 6) := HKL.out
        clear hmA hm hv hl hx hb0 hb1 hb2 hb3 hb4 hb5 hb6
        have hga : ¬ w2.heap.size = w.heap.size := Nat.ne_of_gt HG.out
        have hgb : ¬ w.heap.size = w2.heap.size := Nat.ne_of_lt HG.out
        have hgc := HG.out
        refine anyB_ready (rs := [16]) (by kernel_rfl) (by simp) (ReadyB.last rfl (fun K hK => ?_) ReadyB.nil)
        clear hS
        go_simp
        refine Shut.out hK _ _ ?_
        clear hK K
        refine anyB_done (by kernel_rfl) ?_ _
        go_wp2
        refine bodyPost_ret (v := .agg #[.int .i64 a, .int .i64 b, .int .i64 c, .int .i64 d, .int .i64 e, .slice o1 V.length c1, .slice ovw K2.length cvw]) (by simp [results, Tryd.results8, go_sem, z0, z1, z2, z3, z4, z5, z6]) rfl ?_
        exact ⟨⟨a, b, c, d, e, o1, ovw, c1, cvw, V, K2, (xs ++ [.int .i64 zz1, .int .i64 zz2, .slice ovv U.length cvv]), rfl, HVF.out, HLF.out, HXF.out, HVL.out, HLLn.out⟩, _, by omega, HDF.out⟩
    · clear hS
      go_simp
      obtain ⟨w6, hw6⟩ : ∃ w6, w6 = w5.alloc (.cells #[.int .i64 0, .int .i64 1] 3) := ⟨_, rfl⟩
      rw [← hw6]
      have hal : Below w5.heap.size w5 w6 := by rw [hw6]; exact (Below.refl _ _).alloc (Nat.le_refl _) _
      have hk := Keeps.of_below hal hR5
      have HD6 := hid (HD5.out.belowV hal)
      have HZ6 := hid (keeps_block HZ5.out hk HNE.out)
      have HX6 := hid (HX5.out.below hal)
      have hR6 := HD6.out.1.old
      have hs6 : w5.heap.size < w6.heap.size := by rw [hw6]; simp
      have HI2_6 : Hid (IntsAt w6 w5.heap.size 2 0 1) := by rw [hw6]; exact ints_ebal w5
      have HB2 : w5.heap.size ≠ R := Nat.ne_of_gt hR5
      have hS2_6 := hs6
      clear hal hk hw6
      refine Shut.out hK _ _ (by show w6.cell? ⟨w2.heap.size, 6, none⟩ = _; rw [in_block HX6.out.m 6]; rfl) (fun hS => ?_)
      clear hK K
      refine anyB_ready (rs := [3]) (by kernel_rfl) (by simp) (ReadyB.cons rfl (fun K hK => ?_) ReadyB.nil)
      clear hS
      go_simp
      obtain ⟨w7, hw7⟩ : ∃ w7, w7 = w6.alloc (.cells #[.int .i64 0, .int .i64 12, .int .i64 11] 3) := ⟨_, rfl⟩
      rw [← hw7]
      have hal : Below w6.heap.size w6 w7 := by rw [hw7]; exact (Below.refl _ _).alloc (Nat.le_refl _) _
      have hk := Keeps.of_below hal hR6
      have HD7 := hid (HD6.out.belowV hal)
      have HZ7 := hid (keeps_block HZ6.out hk HNE.out)
      have HX7 := hid (HX6.out.below hal)
      have hR7 := HD7.out.1.old
      have hs7 : w6.heap.size < w7.heap.size := by rw [hw7]; simp
      have HI1_7 : Hid (IntsAt w7 w6.heap.size 3 0 12) := by rw [hw7]; exact ints_ein w6
      have HB1 : w6.heap.size ≠ R := Nat.ne_of_gt hR6
      have hS1_7 := hs7
      have HI2_7 := hid (HI2_6.out.keep hS2_6 hk HB2)
      have hS2_7 : w5.heap.size < w7.heap.size := Nat.lt_of_lt_of_le hS2_6 hk.size
      clear hal hk hw7
      refine Shut.out hK _ _ (by show w7.cell? ⟨w2.heap.size, 6, none⟩ = _; rw [in_block HX7.out.m 6]; rfl) (fun hS => ?_)
      clear hK K
      refine anyB_ready (rs := [4]) (by kernel_rfl) (by simp) (ReadyB.cons rfl (fun K hK => ?_) ReadyB.nil)
      clear hS
      go_simp
      go_wp2_with fail
      refine (one_any R w6.heap.size 3 0 12 oa len cap (q2 + 1) w7 HD7.out.1 (by omega) (by decide) (by decide) hS1_7 HB1 HI1_7.out).mono ?_
      rintro e' w8 ⟨⟨zz1, rfl, _⟩, hd⟩
      have hk := hd.2
      have HD8 := hid (HD7.out.thenV hd)
      have HZ8 := hid (keeps_block HZ7.out hd.2 HNE.out)
      have HX8 := hid (HX7.out.keeps hd.2 HRo.out HGR.out)
      have hR8 := HD8.out.1.old
      have HI2_8 := hid (HI2_7.out.keep hS2_7 hk HB2)
      have hS2_8 : w5.heap.size < w8.heap.size := Nat.lt_of_lt_of_le hS2_7 hk.size
      clear hk
      clear hd
      refine Shut.out hK _ _ (by show w8.cell? ⟨w2.heap.size, 6, none⟩ = _; rw [in_block HX8.out.m 6]; rfl) (fun hS => ?_)
      clear hK K
      refine anyB_ready (rs := [7]) (by kernel_rfl) (by simp) (ReadyB.cons rfl (fun K hK => ?_) ReadyB.nil)
      clear hS
      go_simp
      go_wp2_with fail
      refine (one_any R w5.heap.size 2 0 1 oa len cap (q2 + 1 + 1) w8 HD8.out.1 (by omega) (by decide) (by decide) hS2_8 HB2 HI2_8.out).mono ?_
      rintro e' w9 ⟨⟨zz2, rfl, _⟩, hd⟩
      have hk := hd.2
      have HD9 := hid (HD8.out.thenV hd)
      have HZ9 := hid (keeps_block HZ8.out hd.2 HNE.out)
      have HX9 := hid (HX8.out.keeps hd.2 HRo.out HGR.out)
      have hR9 := HD9.out.1.old
      clear hk
      clear hd
      refine Shut.out hK _ _ (by show w9.cell? ⟨w2.heap.size, 6, none⟩ = _; rw [in_block HX9.out.m 6]; rfl) (fun hS => ?_)
      clear hK K
      refine anyB_ready (rs := [10]) (by kernel_rfl) (by simp) (ReadyB.cons rfl (fun K hK => ?_) ReadyB.nil)
      clear hS
      go_simp
      go_wp2_with fail
      refine (pick_any R oa len cap (q2 + 1 + 1 + 1) 4 w9 HD9.out.1 (by omega) (by decide)).mono ?_
      rintro e' w10 ⟨⟨y1, rfl, hy5, hy6⟩, hd⟩
      have HD10 := hid (HD9.out.thenV hd)
      have HZ10 := hid (keeps_block HZ9.out hd.2 HNE.out)
      have HX10 := hid (HX9.out.keeps hd.2 HRo.out HGR.out)
      have hR10 := HD10.out.1.old
      clear hd
      obtain ⟨n, rfl⟩ : ∃ n : Nat, y1 = (n : Int) := ⟨y1.toNat, by omega⟩
      refine Shut.out hK _ _ (by show w10.cell? ⟨w2.heap.size, 6, none⟩ = _; rw [in_block HX10.out.m 6]; rfl) (fun hS => ?_)
      clear hK K
      refine anyB_ready (rs := [11]) (by kernel_rfl) (by simp) (ReadyB.cons rfl (fun K hK => ?_) ReadyB.nil)
      clear hS
      go_simp
      go_wp2_with fail
      refine (votes_any R oa len cap (q2 + 1 + 1 + 1 + 1) n w10 HD10.out.1 (by omega) (by omega)).mono ?_
      rintro e' w11 ⟨⟨v, rfl, U, hu, hu3⟩, q11, hq11, hd⟩
      have HD11 := hid (HD10.out.thenV hd)
      have HZ11 := hid (keeps_block HZ10.out hd.2 HNE.out)
      have HX11 := hid (HX10.out.keeps hd.2 HRo.out HGR.out)
      have hR11 := HD11.out.1.old
      clear hd
      obtain ⟨ovv, cvv, rfl⟩ := rowv_shape hu
      have HNI : Hid (NumsIn w.heap.size w11 ovv U) := (NumsIn.of_row hu).base HD10.out.2.size
      have HU3 := hid hu3
      clear hu
      refine Shut.out hK _ _ (by show w11.cell? ⟨w2.heap.size, 6, none⟩ = _; rw [in_block HX11.out.m 6]; rfl) (fun hS => ?_)
      clear hK K
      refine takeB_on 12 (v := ?_) rfl rfl (by kernel_rfl) (by kernel_rfl) (by kernel_rfl) (by kernel_rfl) (fun _ _ _ h => h) (by rfl) hS (fun w hSw => ?_) ?_
      rotate_left
      · ((try dsimp only at hSw); go_simp; try with_reducible rfl)
      simp only [List.setIfInBounds_toArray, List.set_cons_zero, List.set_cons_succ]
      refine anyB_ready (rs := [13]) (by kernel_rfl) (by simp) (ReadyB.cons rfl (fun K hK => ?_) ReadyB.nil)
      clear hS
      go_simp
      obtain ⟨w12, hw12⟩ : ∃ w12, w12 = w11.alloc (.cells #[.int .i64 zz1, .int .i64 zz2, .slice ovv U.length cvv] 53) := ⟨_, rfl⟩
      rw [← hw12]
      have hal : Below w11.heap.size w11 w12 := by rw [hw12]; exact (Below.refl _ _).alloc (Nat.le_refl _) _
      have hk := Keeps.of_below hal hR11
      have HD12 := hid (HD11.out.belowV hal)
      have HZ12 := hid (keeps_block HZ11.out hk HNE.out)
      have HX12 := hid (HX11.out.below hal)
      have hR12 := HD12.out.1.old
      have hs12 : w11.heap.size < w12.heap.size := by rw [hw12]; simp
      have HC12 : Hid (∀ j u, [Value.int .i64 zz1, .int .i64 zz2, .slice ovv U.length cvv][j]? = some u → w12.cell? ((⟨w11.heap.size, 0, none⟩ : Addr).add j) = some u) := by rw [hw12]; exact cell_three w11 _ _ _ _
      have HE12 : Hid (ECells w.heap.size w12 (L ++ [(zz1, zz2, U)]) (xs ++ [.int .i64 zz1, .int .i64 zz2, .slice ovv U.length cvv])) := (ECells.add HX11.out.x (by have := HU3.out; omega) HNI.out).kept (fun b cur fz hb hh => kept_below hal b cur fz hb hh)
      clear hal hk hw12
      refine Shut.out hK _ _ (by show w12.cell? ⟨w2.heap.size, 6, none⟩ = _; rw [in_block HX12.out.m 6]; rfl) (fun hS => ?_)
      clear hK K
      refine anyB_ready (rs := [14]) (by kernel_rfl) (by simp) (ReadyB.cons rfl (fun K hK => ?_) ReadyB.nil)
      clear hS
      have hL := HL.out
      refine readyB_append rfl _ _ 24 rfl w.heap.size 53 i0 (.agg #[.int .i64 0, .int .i64 0, .slice none 0 0]) 3 40 Tryd.underlying24 hi hz0 hz1 hz2 rfl (by decide) (.slice o2 L.length c2) L.length xs rfl HX12.out.l ⟨w11.heap.size, 0, none⟩ 1 1 [.int .i64 zz1, .int .i64 zz2, .slice ovv U.length cvv] rfl rfl HC12.out (by simp [Value.oneCell']) (by unfold maxLen; omega) (by omega) HD12.out.2.size ?_
      intro v' w13 hown hgr
      have HD13 : Hid (Drawn R oa len cap q11 w w13) := Drawn.grownV HR.out HD12.out HX12.out.l hgr
      have HZ13 : Hid (w13.heap[w.heap.size]? = some (.cells #[.int .i64 0, .int .i64 0, .int .i64 0, .int .i64 0, .int .i64 0, .slice none 0 0, .slice none 0 0] 26 (0, 0))) := grown_other HX12.out.l hgr HZ12.out neMsgEnt
      have HM13 : Hid (w13.heap[w2.heap.size]? = some (.cells #[.int .i64 a, .int .i64 b, .int .i64 c, .int .i64 d, .int .i64 e, .slice o1 V.length c1, .slice o2 L.length c2] 26 (0, 0))) := grown_other HX12.out.l hgr HX12.out.m neMsgEnt
      have HV13 := hid (row_grown_other HX12.out.l hgr HX12.out.v neEntInt)
      have HE13 : Hid (ECells w.heap.size w13 (L ++ [(zz1, zz2, U)]) (xs ++ [.int .i64 zz1, .int .i64 zz2, .slice ovv U.length cvv])) := HE12.out.kept (fun b cur fz hb hh => kept_grown HX12.out.l hgr b cur fz hb hh)
      obtain ⟨K2, hKl, hK2⟩ : ∃ K2 : List Ent, K2.length = L.length + 1 ∧ K2 = L ++ [(zz1, zz2, U)] := ⟨L ++ [(zz1, zz2, U)], by simp, rfl⟩
      have HE14 : Hid (ECells w.heap.size w13 K2 (xs ++ [.int .i64 zz1, .int .i64 zz2, .slice ovv U.length cvv])) := by rw [hK2]; exact HE13.out
      rw [← hKl] at hown
      obtain ⟨ovw, cvw, rfl⟩ := rowv_shape hown
      have HU13 := hid hown
      have HKL : Hid (K2.length ≤ 6) := by have := HL.out; show _ ≤ _; omega
      clear hown hgr hKl hK2 hL
      refine Shut.out hK _ _ (by show w13.cell? ⟨w2.heap.size, 6, none⟩ = _; rw [in_block HM13.out 6]; rfl) (fun hS => ?_)
      clear hK K
      refine takeB_on 15 (v := ?_) rfl rfl (by kernel_rfl) (by kernel_rfl) (by kernel_rfl) (by kernel_rfl) (fun _ _ _ h => h) (by rfl) hS (fun w hSw => ?_) ?_
      rotate_left
      · ((try dsimp only at hSw); go_simp; try with_reducible rfl)
      simp only [List.setIfInBounds_toArray, List.set_cons_zero, List.set_cons_succ]
      have hm := HM13.out
      have hv := HV13.out
      have hl := HU13.out
      have hx := HE14.out
      have m0 : w13.cell? ⟨w2.heap.size, 0, none⟩ = some (.int .i64 a) := by rw [in_block hm 0]; rfl
      have m1 : w13.cell? ⟨w2.heap.size, 1, none⟩ = some (.int .i64 b) := by rw [in_block hm 1]; rfl
      have m2 : w13.cell? ⟨w2.heap.size, 2, none⟩ = some (.int .i64 c) := by rw [in_block hm 2]; rfl
      have m3 : w13.cell? ⟨w2.heap.size, 3, none⟩ = some (.int .i64 d) := by rw [in_block hm 3]; rfl
      have m4 : w13.cell? ⟨w2.heap.size, 4, none⟩ = some (.int .i64 e) := by rw [in_block hm 4]; rfl
      have m5 : w13.cell? ⟨w2.heap.size, 5, none⟩ = some (.slice o1 V.length c1) := by rw [in_block hm 5]; rfl
      have m6 : w13.cell? ⟨w2.heap.size, 6, none⟩ = some (.slice o2 L.length c2) := by rw [in_block hm 6]; rfl
      have mf : w13.frozen? ⟨w2.heap.size, 6, none⟩ = false := free_block hm 6
      have z0 : w13.cell? ⟨w.heap.size, 0, none⟩ = some (.int .i64 0) := by rw [in_block HZ13.out 0]; rfl
      have fz0 : w13.frozen? ⟨w.heap.size, 0, none⟩ = false := free_block HZ13.out 0
      have z1 : w13.cell? ⟨w.heap.size, 1, none⟩ = some (.int .i64 0) := by rw [in_block HZ13.out 1]; rfl
      have fz1 : w13.frozen? ⟨w.heap.size, 1, none⟩ = false := free_block HZ13.out 1
      have z2 : w13.cell? ⟨w.heap.size, 2, none⟩ = some (.int .i64 0) := by rw [in_block HZ13.out 2]; rfl
      have fz2 : w13.frozen? ⟨w.heap.size, 2, none⟩ = false := free_block HZ13.out 2
      have z3 : w13.cell? ⟨w.heap.size, 3, none⟩ = some (.int .i64 0) := by rw [in_block HZ13.out 3]; rfl
      have fz3 : w13.frozen? ⟨w.heap.size, 3, none⟩ = false := free_block HZ13.out 3
      have z4 : w13.cell? ⟨w.heap.size, 4, none⟩ = some (.int .i64 0) := by rw [in_block HZ13.out 4]; rfl
      have fz4 : w13.frozen? ⟨w.heap.size, 4, none⟩ = false := free_block HZ13.out 4
      have z5 : w13.cell? ⟨w.heap.size, 5, none⟩ = some (.slice none 0 0) := by rw [in_block HZ13.out 5]; rfl
      have fz5 : w13.frozen? ⟨w.heap.size, 5, none⟩ = false := free_block HZ13.out 5
      have z6 : w13.cell? ⟨w.heap.size, 6, none⟩ = some (.slice none 0 0) := by rw [in_block HZ13.out 6]; rfl
      have fz6 : w13.frozen? ⟨w.heap.size, 6, none⟩ = false := free_block HZ13.out 6
      have hmA := hm
      have hb0 := set_other HZ13.out w2.heap.size 6 (.slice ovw K2.length cvw) (Nat.ne_of_lt HG.out)
      have hb1 := set_block _ w.heap.size 0 _ _ (.int .i64 a) hb0
      have hb2 := set_block _ w.heap.size 1 _ _ (.int .i64 b) hb1
      have hb3 := set_block _ w.heap.size 2 _ _ (.int .i64 c) hb2
      have hb4 := set_block _ w.heap.size 3 _ _ (.int .i64 d) hb3
      have hb5 := set_block _ w.heap.size 4 _ _ (.int .i64 e) hb4
      have hb6 := set_block _ w.heap.size 5 _ _ (.slice o1 V.length c1) hb5
      have HVF := hid (row_ty (row_ty (row_ty (row_ty (row_ty (row_ty (row_ty (row_ty (hv) hmA neMsgInt 6 (.slice ovw K2.length cvw)) hb0 neMsgInt 0 (.int .i64 a)) hb1 neMsgInt 1 (.int .i64 b)) hb2 neMsgInt 2 (.int .i64 c)) hb3 neMsgInt 3 (.int .i64 d)) hb4 neMsgInt 4 (.int .i64 e)) hb5 neMsgInt 5 (.slice o1 V.length c1)) hb6 neMsgInt 6 (.slice ovw K2.length cvw))
      have HLF := hid (row_ty (row_ty (row_ty (row_ty (row_ty (row_ty (row_ty (row_ty (hl) hmA neMsgEnt 6 (.slice ovw K2.length cvw)) hb0 neMsgEnt 0 (.int .i64 a)) hb1 neMsgEnt 1 (.int .i64 b)) hb2 neMsgEnt 2 (.int .i64 c)) hb3 neMsgEnt 3 (.int .i64 d)) hb4 neMsgEnt 4 (.int .i64 e)) hb5 neMsgEnt 5 (.slice o1 V.length c1)) hb6 neMsgEnt 6 (.slice ovw K2.length cvw))
      have HXF := hid (ecells_ty (ecells_ty (ecells_ty (ecells_ty (ecells_ty (ecells_ty (ecells_ty (ecells_ty (hx) hmA neMsgInt 6 (.slice ovw K2.length cvw)) hb0 neMsgInt 0 (.int .i64 a)) hb1 neMsgInt 1 (.int .i64 b)) hb2 neMsgInt 2 (.int .i64 c)) hb3 neMsgInt 3 (.int .i64 d)) hb4 neMsgInt 4 (.int .i64 e)) hb5 neMsgInt 5 (.slice o1 V.length c1)) hb6 neMsgInt 6 (.slice ovw K2.length cvw))
      have HDF := hid (Drawn.store HR.out (Drawn.store HR.out (Drawn.store HR.out (Drawn.store HR.out (Drawn.store HR.out (Drawn.store HR.out (Drawn.store HR.out (Drawn.store HR.out (HD13.out) w2.heap.size 6 (.slice ovw K2.length cvw) (Nat.le_of_lt HG.out)) w.heap.size 0 (.int .i64 a) (Nat.le_refl _)) w.heap.size 1 (.int .i64 b) (Nat.le_refl _)) w.heap.size 2 (.int .i64 c) (Nat.le_refl _)) w.heap.size 3 (.int .i64 d) (Nat.le_refl _)) w.heap.size 4 (.int .i64 e) (Nat.le_refl _)) w.heap.size 5 (.slice o1 V.length c1) (Nat.le_refl _)) w.heap.size 6 (.slice ovw K2.length cvw) (Nat.le_refl _))
      have HVL : Hid (V.length ≤ 6) := (Nat.le_trans HV.out (by decide))
      have HLLn : Hid (K2.length ≤ 6) := HKL.out
      clear hmA hm hv hl hx hb0 hb1 hb2 hb3 hb4 hb5 hb6
      have hga : ¬ w2.heap.size = w.heap.size := Nat.ne_of_gt HG.out
      have hgb : ¬ w.heap.size = w2.heap.size := Nat.ne_of_lt HG.out
      have hgc := HG.out
      refine anyB_ready (rs := [16]) (by kernel_rfl) (by simp) (ReadyB.last rfl (fun K hK => ?_) ReadyB.nil)
      clear hS
      go_simp
      refine Shut.out hK _ _ ?_
      clear hK K
      refine anyB_done (by kernel_rfl) ?_ _
      go_wp2
      refine bodyPost_ret (v := .agg #[.int .i64 a, .int .i64 b, .int .i64 c, .int .i64 d, .int .i64 e, .slice o1 V.length c1, .slice ovw K2.length cvw]) (by simp [results, Tryd.results8, go_sem, z0, z1, z2, z3, z4, z5, z6]) rfl ?_
      exact ⟨⟨a, b, c, d, e, o1, ovw, c1, cvw, V, K2, (xs ++ [.int .i64 zz1, .int .i64 zz2, .slice ovv U.length cvv]), rfl, HVF.out, HLF.out, HXF.out, HVL.out, HLLn.out⟩, _, by omega, HDF.out⟩
  · have n0 : ¬ y = 0 := by omega
    have n1 : ¬ y = 1 := by omega
    have n2 : ¬ y = 2 := by omega
    have n3 : ¬ y = 3 := by omega
    have n4 : ¬ y = 4 := by omega
    have n5 : ¬ y = 5 := by omega
    clear hy hy3 hy4
    have hm := HX4.out.m
    have hv := HX4.out.v
    have hl := HX4.out.l
    have hx := HX4.out.x
    have m0 : w4.cell? ⟨w2.heap.size, 0, none⟩ = some (.int .i64 a) := by rw [in_block hm 0]; rfl
    have m1 : w4.cell? ⟨w2.heap.size, 1, none⟩ = some (.int .i64 b) := by rw [in_block hm 1]; rfl
    have m2 : w4.cell? ⟨w2.heap.size, 2, none⟩ = some (.int .i64 c) := by rw [in_block hm 2]; rfl
    have m3 : w4.cell? ⟨w2.heap.size, 3, none⟩ = some (.int .i64 d) := by rw [in_block hm 3]; rfl
    have m4 : w4.cell? ⟨w2.heap.size, 4, none⟩ = some (.int .i64 e) := by rw [in_block hm 4]; rfl
    have m5 : w4.cell? ⟨w2.heap.size, 5, none⟩ = some (.slice o1 V.length c1) := by rw [in_block hm 5]; rfl
    have m6 : w4.cell? ⟨w2.heap.size, 6, none⟩ = some (.slice o2 L.length c2) := by rw [in_block hm 6]; rfl
    have z0 : w4.cell? ⟨w.heap.size, 0, none⟩ = some (.int .i64 0) := by rw [in_block HZ4.out 0]; rfl
    have fz0 : w4.frozen? ⟨w.heap.size, 0, none⟩ = false := free_block HZ4.out 0
    have z1 : w4.cell? ⟨w.heap.size, 1, none⟩ = some (.int .i64 0) := by rw [in_block HZ4.out 1]; rfl
    have fz1 : w4.frozen? ⟨w.heap.size, 1, none⟩ = false := free_block HZ4.out 1
    have z2 : w4.cell? ⟨w.heap.size, 2, none⟩ = some (.int .i64 0) := by rw [in_block HZ4.out 2]; rfl
    have fz2 : w4.frozen? ⟨w.heap.size, 2, none⟩ = false := free_block HZ4.out 2
    have z3 : w4.cell? ⟨w.heap.size, 3, none⟩ = some (.int .i64 0) := by rw [in_block HZ4.out 3]; rfl
    have fz3 : w4.frozen? ⟨w.heap.size, 3, none⟩ = false := free_block HZ4.out 3
    have z4 : w4.cell? ⟨w.heap.size, 4, none⟩ = some (.int .i64 0) := by rw [in_block HZ4.out 4]; rfl
    have fz4 : w4.frozen? ⟨w.heap.size, 4, none⟩ = false := free_block HZ4.out 4
    have z5 : w4.cell? ⟨w.heap.size, 5, none⟩ = some (.slice none 0 0) := by rw [in_block HZ4.out 5]; rfl
    have fz5 : w4.frozen? ⟨w.heap.size, 5, none⟩ = false := free_block HZ4.out 5
    have z6 : w4.cell? ⟨w.heap.size, 6, none⟩ = some (.slice none 0 0) := by rw [in_block HZ4.out 6]; rfl
    have fz6 : w4.frozen? ⟨w.heap.size, 6, none⟩ = false := free_block HZ4.out 6
    have hmA := hm
    have hb0 := HZ4.out
    have hb1 := set_block _ w.heap.size 0 _ _ (.int .i64 a) hb0
    have hb2 := set_block _ w.heap.size 1 _ _ (.int .i64 b) hb1
    have hb3 := set_block _ w.heap.size 2 _ _ (.int .i64 c) hb2
    have hb4 := set_block _ w.heap.size 3 _ _ (.int .i64 d) hb3
    have hb5 := set_block _ w.heap.size 4 _ _ (.int .i64 e) hb4
    have hb6 := set_block _ w.heap.size 5 _ _ (.slice o1 V.length c1) hb5
    have HVF := hid (row_ty (row_ty (row_ty (row_ty (row_ty (row_ty (row_ty (hv) hb0 neMsgInt 0 (.int .i64 a)) hb1 neMsgInt 1 (.int .i64 b)) hb2 neMsgInt 2 (.int .i64 c)) hb3 neMsgInt 3 (.int .i64 d)) hb4 neMsgInt 4 (.int .i64 e)) hb5 neMsgInt 5 (.slice o1 V.length c1)) hb6 neMsgInt 6 (.slice o2 L.length c2))
    have HLF := hid (row_ty (row_ty (row_ty (row_ty (row_ty (row_ty (row_ty (hl) hb0 neMsgEnt 0 (.int .i64 a)) hb1 neMsgEnt 1 (.int .i64 b)) hb2 neMsgEnt 2 (.int .i64 c)) hb3 neMsgEnt 3 (.int .i64 d)) hb4 neMsgEnt 4 (.int .i64 e)) hb5 neMsgEnt 5 (.slice o1 V.length c1)) hb6 neMsgEnt 6 (.slice o2 L.length c2))
    have HXF := hid (ecells_ty (ecells_ty (ecells_ty (ecells_ty (ecells_ty (ecells_ty (ecells_ty (hx) hb0 neMsgInt 0 (.int .i64 a)) hb1 neMsgInt 1 (.int .i64 b)) hb2 neMsgInt 2 (.int .i64 c)) hb3 neMsgInt 3 (.int .i64 d)) hb4 neMsgInt 4 (.int .i64 e)) hb5 neMsgInt 5 (.slice o1 V.length c1)) hb6 neMsgInt 6 (.slice o2 L.length c2))
    have HDF := hid (Drawn.store HR.out (Drawn.store HR.out (Drawn.store HR.out (Drawn.store HR.out (Drawn.store HR.out (Drawn.store HR.out (Drawn.store HR.out (HD4.out) w.heap.size 0 (.int .i64 a) (Nat.le_refl _)) w.heap.size 1 (.int .i64 b) (Nat.le_refl _)) w.heap.size 2 (.int .i64 c) (Nat.le_refl _)) w.heap.size 3 (.int .i64 d) (Nat.le_refl _)) w.heap.size 4 (.int .i64 e) (Nat.le_refl _)) w.heap.size 5 (.slice o1 V.length c1) (Nat.le_refl _)) w.heap.size 6 (.slice o2 L.length c2) (Nat.le_refl _))
    have HVL : Hid (V.length ≤ 6) := (Nat.le_trans HV.out (by decide))
    have HLLn : Hid (L.length ≤ 6) := (Nat.le_trans HL.out (by decide))
    clear hmA hm hv hl hx hb0 hb1 hb2 hb3 hb4 hb5 hb6
    have hga : ¬ w2.heap.size = w.heap.size := Nat.ne_of_gt HG.out
    have hgb : ¬ w.heap.size = w2.heap.size := Nat.ne_of_lt HG.out
    have hgc := HG.out
    go_wp2
    refine bodyPost_ret (v := .agg #[.int .i64 a, .int .i64 b, .int .i64 c, .int .i64 d, .int .i64 e, .slice o1 V.length c1, .slice o2 L.length c2]) (by simp [results, Tryd.results8, go_sem, z0, z1, z2, z3, z4, z5, z6]) rfl ?_
    exact ⟨⟨a, b, c, d, e, o1, o2, c1, c2, V, L, xs, rfl, HVF.out, HLF.out, HXF.out, HVL.out, HLLn.out⟩, _, by omega, HDF.out⟩

end Go.Proofs.YtijdjplajhcilabDoor

