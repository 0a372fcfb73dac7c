/- DERIVED. slices.Compact at a row of hosts that the call owns. -/
import Derived.Test.YtahhjhhnjpbocacSortRow
import Derived.Laws.StructEq
import Derived.Lib.SlicesCompact
import Derived.Lib.SliceRun
import Derived.Deep.LoopGhost
namespace Go.Proofs.Ytahhjhhnjpbocac
open Go.RowKit Go.Sort Go.Lib

theorem cmpct_ne (x : ByteArray × Int) (l : Hs) : ∃ y m, cmpct (x :: l) = y :: m ∧ y = x := by
  rw [cmpct]
  split
  · exact ⟨x, [], rfl, rfl⟩
  · rename_i y m e
    split
    · rename_i h; exact ⟨y, m, rfl, h.symm⟩
    · exact ⟨x, y :: m, rfl, rfl⟩

theorem cmpct_snoc (l : Hs) (x : ByteArray × Int) : cmpct (l ++ [x]) = cmpct l ++ (if l.getLast? = some x then [] else [x]) := by
  induction l with
  | nil => simp [cmpct]
  | cons a l ih =>
    cases l with
    | nil =>
      by_cases h : a = x
      · simp [cmpct, h]
      · simp [cmpct, h]
    | cons b l =>
      obtain ⟨y, m, e, rfl⟩ := cmpct_ne b l
      rw [List.cons_append, cmpct, ih, List.getLast?_cons_cons]
      rw [show cmpct (a :: y :: l) = match cmpct (y :: l) with | [] => [a] | z :: m => if a = z then z :: m else a :: z :: m from rfl]
      rw [e]
      simp only [List.cons_append]
      by_cases h : a = y
      · simp [h]
      · simp [h]

theorem upTo_cmpct (o : Hs) (m : Nat) (hm : m ≤ o.length) : compactUpTo o.toArray m = cmpct (o.take m) := by
  induction m with
  | zero => rfl
  | succ m ih =>
    have hlt : m < o.length := by omega
    rw [compactUpTo_succ, ih (by omega), List.take_succ_eq_append_getElem hlt, cmpct_snoc]
    congr 1
    have e : o.toArray[m]! = o[m] := by simp [getElem!_pos, hlt]
    rw [e]
    unfold keeps
    rw [e]
    by_cases h0 : m = 0
    · subst h0; simp
    · have e2 : o.toArray[m - 1]! = o[m - 1] := by
        rw [getElem!_pos o.toArray (m - 1) (by simp; omega)]; simp
      have e3 : (o.take m).getLast? = some o[m - 1] := by
        rw [List.getLast?_eq_getElem?, List.length_take, Nat.min_eq_left (by omega), List.getElem?_take, if_pos (by omega), List.getElem?_eq_getElem]
      rw [e2, e3]
      by_cases h : o[m] = o[m - 1]
      · simp [h0, h]
      · have h' : ¬ o[m - 1] = o[m] := fun c => h c.symm
        simp [h0, h, h']

theorem eqlHost (x y : ByteArray × Int) (w : World) : (binOp .eql 29 (.agg #[.string x.1, .int .i64 x.2]) (.agg #[.string y.1, .int .i64 y.2])).run Try.prog w = .ok (.bool (decide (x = y))) w := by
  have u3 := Try.underlying3
  have a3 := Try.isAgg3
  have z3 := Try.sizeOf3
  have u9 := Try.underlying9
  have a9 := Try.isAgg9
  have z9 := Try.sizeOf9
  have hS : Try.prog.underlying 29 = some (.struct (Try.prog.fieldsOf 29)) := by kernel_rfl
  have hp : Try.prog.stoodInHeld 29 = false := by kernel_rfl
  rw [run_eql_struct, show (10000 : Nat) = 9999 + 1 from rfl, run_equalIn_struct w 9999 29 _ _ hS hp]
  simp only [Program.fieldsOf, Try.underlying29]
  obtain ⟨s, n⟩ := x
  obtain ⟨t, m⟩ := y
  by_cases h1 : s = t
  · subst h1
    by_cases h2 : n = m
    · subst h2; go_simp
    · have h3 : (n == m) = false := by simpa using h2
      go_simp
  · have h2 : (s.toList == t.toList) = false := by
      simp only [beq_eq_false_iff_ne]
      exact fun c => h1 (toList_inj c)
    go_simp

theorem neqHost2 (x y : ByteArray × Int) (w : World) : (binOp .neq 29 (.agg #[.string x.1, .int .i64 x.2]) (.agg #[.string y.1, .int .i64 y.2])).run Try.prog w = .ok (.bool (!decide (x = y))) w := by
  have h := eqlHost x y w
  rw [run_eql_struct] at h
  rw [run_neq_struct]
  cases hr : (Op.equalIn 10000 29 (.agg #[.string x.1, .int .i64 x.2]) (.agg #[.string y.1, .int .i64 y.2])).run Try.prog w with
  | ok b w' =>
    rw [hr] at h
    simp only [Result.andThen] at h ⊢
    injection h with h1 h2
    injection h1 with h1
    rw [h1, h2]
  | _ => rw [hr] at h; simp [Result.andThen] at h

theorem own_setCells {base g n cp : Nat} : ∀ (l : List Value) (o : Nat) (w : World) (xs : List Value), w.ownsRow base 29 2 (.slice (some ⟨g, 0, none⟩) n cp) n xs →
    ∃ ys, (w.setCells g o l).ownsRow base 29 2 (.slice (some ⟨g, 0, none⟩) n cp) n ys ∧ (∀ j, j < o → ys[j]? = xs[j]?) ∧ w.grownBy (w.setCells g o l) (some g)
  | [], o, w, xs, h => ⟨xs, h, fun _ _ => rfl, World.grownBy.refl _ _⟩
  | v :: l, o, w, xs, h => by
    obtain ⟨h1, h2⟩ := h.stored o v
    obtain ⟨ys, h3, h4, h5⟩ := own_setCells l (o + 1) _ _ h1
    refine ⟨ys, h3, fun j hj => ?_, h2.trans h5⟩
    rw [h4 j (by omega), List.getElem?_set_ne (by omega)]

theorem own_short {w : World} {base g n cp m : Nat} {xs : List Value} (h : w.ownsRow base 29 2 (.slice (some ⟨g, 0, none⟩) n cp) n xs) (hm : m ≤ n) :
    w.ownsRow base 29 2 (.slice (some ⟨g, 0, none⟩) m cp) m (xs.take (m * 2)) := by
  refine ⟨by rw [List.length_take, h.1]; omega, ?_⟩
  rcases h.2 with ⟨e, _⟩ | ⟨g', cap, cur, e, hbg, hb, hkc, hcm, hcur, htk⟩
  · cases e
  · injection e with e1 e2 e3
    injection e1 with e1
    injection e1 with e1
    subst e1 e3
    refine Or.inr ⟨g, cp, cur, rfl, hbg, hb, by omega, hcm, hcur, ?_⟩
    rw [← htk, List.take_take, Nat.min_eq_left (by omega)]

def zcells (m : Nat) : List Value := (Builtin.zeroCells #[.string ⟨#[]⟩, .int .i64 0] m).toList

theorem run_clear_row (wr : World) {base g n cp k : Nat} {xs : List Value} (h : wr.ownsRow base 29 2 (.slice (some ⟨g, 0, none⟩) n cp) n xs) (hk : k < n) (c : Nat) (ty : TypeId) :
    (Builtin.clear_ #[23] ty #[.slice (some ⟨g, k * 2, none⟩) (n - k) c]).run Try.prog wr = .ok (.tuple #[]) (wr.setCells g (k * 2) (zcells (n - k))) := by
  unfold zcells
  have hlen : (Builtin.zeroCells #[.string ⟨#[]⟩, .int .i64 0] (n - k)).toList.length = (n - k) * 2 := by simp [Builtin.zeroCells]
  have hst := run_storeCells_cells (P := Try.prog) g (k * 2) (Builtin.zeroCells #[.string ⟨#[]⟩, .int .i64 0] (n - k)).toList 0 wr
    (by
      intro j hj
      rw [hlen] at hj
      rw [h.cellAt _ (by omega), List.getElem?_eq_getElem (by rw [h.1]; omega)]
      rfl)
    (by intro j hj; exact h.frozenAt _)
    (by
      intro v hv
      simp only [Builtin.zeroCells, Array.toList_map, List.mem_map] at hv
      obtain ⟨i, _, rfl⟩ := hv
      rcases Nat.mod_two_eq_zero_or_one i with hm | hm
      · simp [hm]; rfl
      · simp [hm]; rfl)
  simp only [Nat.add_zero] at hst
  have hz : ∀ w, (zeroValue 29).run Try.prog w = .ok (.agg #[.string ⟨#[]⟩, .int .i64 0]) w := fun w => by rfl
  obtain ⟨m, hm⟩ : ∃ m, n - k = m + 1 := ⟨n - k - 1, by omega⟩
  rw [hm] at hst ⊢
  have hcs : (Value.agg #[.string ⟨#[]⟩, .int .i64 0]).cells = #[.string ⟨#[]⟩, .int .i64 0] := by rfl
  simp [Builtin.clear_, run_underlying Try.underlying23, hz, hcs, hst]

theorem host_cells {w : World} {base g cp : Nat} {o : Hs} (h : w.ownsRow base 29 2 (.slice (some ⟨g, 0, none⟩) o.length cp) o.length (hcells o)) (i : Nat) (hi : i < o.length) :
    w.cell? ⟨g, i * 2, none⟩ = some (.string o.toArray[i]!.1) ∧ w.cell? ⟨g, i * 2 + 1, none⟩ = some (.int .i64 o.toArray[i]!.2) := by
  have e : o.toArray[i]! = o[i] := by simp [getElem!_pos, hi]
  rw [e, h.cellAt _ (by omega), h.cellAt _ (by omega)]
  exact hcells_at o i hi

theorem hcells_set (o : Hs) (k : Nat) (u : ByteArray × Int) : hcells (o.set k u) = ((hcells o).set (k * 2) (.string u.1)).set (k * 2 + 1) (.int .i64 u.2) := by
  induction o generalizing k with
  | nil => rfl
  | cons x t ih =>
    cases k with
    | zero => rfl
    | succ k =>
      rw [List.set_cons_succ, hcells, ih, show (k + 1) * 2 = k * 2 + 1 + 1 by omega]
      rfl

theorem hcells_take (o : Hs) (k : Nat) : (hcells o).take (k * 2) = hcells (o.take k) := by
  induction o generalizing k with
  | nil => simp [hcells]
  | cons x t ih =>
    cases k with
    | zero => simp [hcells]
    | succ k =>
      rw [show (k + 1) * 2 = k * 2 + 1 + 1 by omega, hcells, List.take_succ_cons, List.take_succ_cons, ih, List.take_succ_cons, hcells]

set_option maxHeartbeats 4000000 in
set_option maxRecDepth 1000000 in
theorem compact_row (base g cp : Nat) (o : Hs) (w : World) (hl : o.length ≤ 100) (h : w.ownsRow base 29 2 (.slice (some ⟨g, 0, none⟩) o.length cp) o.length (hcells o)) :
    Calls Try.prog 14 #[.slice (some ⟨g, 0, none⟩) o.length cp] w fun e w' =>
      e = .returned (.slice (some ⟨g, 0, none⟩) (cmpct o).length cp) ∧ w'.ownsRow base 29 2 (.slice (some ⟨g, 0, none⟩) (cmpct o).length cp) (cmpct o).length (hcells (cmpct o)) ∧ w.grownBy w' (some g) := by
  have hcap : o.length ≤ cp := by
    rcases h.2 with ⟨e, _⟩ | ⟨g', cap, cur, e, hbg, hb, hkc, hcm, hcur, htk⟩
    · cases e
    · injection e with e1 e2 e3
      omega
  have hsame : (∀ j, j < o.length → keeps o.toArray j = true) → cmpct o = o := by
    intro hall
    have h1 := compact_all o hall
    unfold compact at h1
    rw [upTo_cmpct o _ (Nat.le_refl _), List.take_length] at h1
    exact h1
  have HS := hid hsame
  clear hsame
  have HO := hid h
  clear h
  by_cases h2 : o.length < 2
  · have e : cmpct o = o := HS.out (fun j hj => keeps_lt_one _ j (by omega))
    rw [e]
    go_enter Try.func14, Try.ntmps14
    go_wp2
    go_ret
    exact ⟨rfl, HO.out, World.grownBy.refl _ _⟩
  · go_enter Try.func14, Try.ntmps14
    go_wp2
    go_loopg [3] o.length (fun gh s3 wr => ∃ k q : Nat, 1 ≤ k ∧ k ≤ o.length ∧ o.length - k ≤ gh ∧ s3 = .int .i64 k ∧ wr = w.drewN q ∧ ∀ j, j < k → keeps o.toArray j = true)
    case atStart => exact ⟨1, 0, Nat.le_refl _, by omega, by omega, rfl, rfl, keeps_lt_one _⟩
    case round =>
      obtain ⟨k, q, hk1, hk, hg, rfl, rfl, hall⟩ := hrel
      have A := hid hall
      clear hall
      by_cases hlt : k < o.length
      · obtain ⟨c1, f1⟩ := host_cells HO.out k hlt
        obtain ⟨c0, f0⟩ := host_cells HO.out (k - 1) (by omega)
        generalize hx : o.toArray[k]! = x at c1 f1
        generalize hy : o.toArray[k - 1]! = y at c0 f0
        have B := hid (And.intro hx hy)
        clear hx hy
        have hkk : (k : Int) - 1 = ((k - 1 : Nat) : Int) := by omega
        have heq := fun W => eqlHost x y W
        by_cases hdup : x = y
        · subst hdup
          simp only [decide_true] at heq
          go_wp2_with fail
          go_quiet (fail)
          go_wp2
          clear c0 c1 f0 f1 heq
          go_loopg [3, 5] o.length (fun gh s3 s5 wr => ∃ (kk k2 : Nat) (dk : Hs), s3 = .int .i64 kk ∧ s5 = .int .i64 k2 ∧ 1 ≤ k2 ∧ k + k2 ≤ o.length ∧ o.length - (k + k2) ≤ gh ∧ dk.length = o.length ∧ wr.ownsRow base 29 2 (.slice (some ⟨g, 0, none⟩) o.length cp) o.length (hcells dk) ∧ w.grownBy wr (some g) ∧ CompInv o.toArray (k + k2) kk dk.toArray)
          case atStart =>
            refine ⟨k, 1, o, rfl, rfl, Nat.le_refl _, by omega, by omega, rfl, ?_, ?_, CompInv.start A.out (keeps_neg (by omega) (by rw [B.out.1, B.out.2]))⟩
            · exact HO.out
            · exact ⟨rfl, rfl, rfl, Nat.le_refl _, fun _ _ _ => rfl⟩
          case round =>
            obtain ⟨kk, k2, dk, rfl, rfl, h1, hle, hg2, hdl, hown, hgr, hI⟩ := hrel
            have hkk2 := hI.lt
            have HG := hid hgr
            have I2 := hid hI
            clear hgr
            rw [← hdl] at hown
            by_cases hlt2 : k + k2 < o.length
            · obtain ⟨m0, m1⟩ := host_cells hown (k + k2) (by omega)
              obtain ⟨p0, p1⟩ := host_cells hown (k + k2 - 1) (by omega)
              obtain ⟨q0, q1⟩ := host_cells hown kk (by omega)
              have z0 := hown.frozenAt (kk * 2)
              have z1 := hown.frozenAt (kk * 2 + 1)
              rw [hI.high (k + k2) (by omega)] at m0 m1
              rw [hI.high (k + k2 - 1) (by omega)] at p0 p1
              rw [show (k + k2) * 2 = k * 2 + k2 * 2 by omega] at m0 m1
              rw [show (k + k2 - 1) * 2 = k * 2 + (k2 - 1) * 2 by omega] at p0 p1
              clear hI
              generalize hu : o.toArray[k + k2]! = u at m0 m1
              generalize hv : o.toArray[k + k2 - 1]! = v at p0 p1
              generalize dk.toArray[kk]! = old at q0 q1
              have C := hid (And.intro hu hv)
              clear hu hv
              have HOWN := hid hown
              clear hown
              have hk22 : (k2 : Int) - 1 = ((k2 - 1 : Nat) : Int) := by omega
              have hneq := fun W => neqHost2 u v W
              by_cases huv : u = v
              · subst huv
                simp only [decide_true, Bool.not_true] at hneq
                go_wp2_with fail
                go_quiet (fail)
                go_wp2
                go_roundg (o.length - (k + (k2 + 1)))
                case measure => omega
                case rel =>
                  refine ⟨kk, k2 + 1, dk, rfl, by go_num, by omega, by omega, Nat.le_refl _, hdl, ?_, ?_, I2.out.skip (keeps_neg (by omega) (by rw [C.out.1, C.out.2]))⟩
                  · rw [← hdl]; exact HOWN.out
                  · exact HG.out.trans ⟨rfl, rfl, rfl, Nat.le_refl _, fun _ _ _ => rfl⟩
              · simp only [huv, decide_false, Bool.not_false] at hneq
                go_wp2_with fail
                go_quiet (fail)
                go_wp2
                go_roundg (o.length - (k + (k2 + 1)))
                case measure => omega
                case rel =>
                  have hkey := I2.out.keep (by simpa using hlt2) (keeps_pos (by rw [C.out.1, C.out.2]; exact huv))
                  rw [C.out.1] at hkey
                  refine ⟨kk + 1, k2 + 1, dk.set kk u, by go_num, by go_num, by omega, by omega, Nat.le_refl _, by simpa using hdl, ?_, ?_, by have h9 := hkey; simp only [List.setIfInBounds_toArray] at h9; exact h9⟩
                  · rw [← hdl, hcells_set]
                    exact ((HOWN.out.stored (kk * 2) (.string u.1)).1.stored (kk * 2 + 1) (.int .i64 u.2)).1
                  · exact (HG.out.trans (HOWN.out.stored (kk * 2) (.string u.1)).2).trans (((HOWN.out.stored (kk * 2) (.string u.1)).1.stored (kk * 2 + 1) (.int .i64 u.2)).2.trans ⟨rfl, rfl, rfl, Nat.le_refl _, fun _ _ _ => rfl⟩)
            · have hend : k + k2 = o.length := by omega
              have hcl := fun ty => run_clear_row wr hown (k := kk) (by omega) (cp - kk) ty
              rw [hdl] at hcl
              have HOWN := hid hown
              clear hown hI
              go_wp2
              go_ret
              have hI := I2.out
              rw [hend] at hI
              have hlen := hI.len
              rw [upTo_cmpct o _ (Nat.le_refl _), List.take_length] at hlen
              have ht : dk.take kk = cmpct o := by
                apply List.ext_getElem?
                intro j
                by_cases hj : j < kk
                · have := hI.low j hj
                  rw [upTo_cmpct o _ (Nat.le_refl _), List.take_length] at this
                  rw [List.getElem?_take, if_pos hj, this, getElem!_pos dk.toArray j (by simp; omega), List.getElem?_eq_getElem (by omega)]
                  simp
                · rw [List.getElem?_eq_none (by simp; omega), List.getElem?_eq_none (by omega)]
              obtain ⟨ys, h3, h4, h5⟩ := own_setCells (zcells (o.length - kk)) (kk * 2) wr _ HOWN.out
              have h6 := own_short h3 (m := kk) (by omega)
              have h7 : ys.take (kk * 2) = hcells (cmpct o) := by
                rw [← ht, ← hcells_take]
                apply List.ext_getElem?
                intro j
                rw [List.getElem?_take, List.getElem?_take]
                split
                · rename_i hj; exact h4 j hj
                · rfl
              rw [h7] at h6
              rw [hlen]
              exact ⟨rfl, h6, HG.out.trans h5⟩
        · simp only [hdup, decide_false] at heq
          go_wp2_with fail
          go_quiet (fail)
          go_wp2
          go_roundg (o.length - (k + 1))
          case measure => omega
          case rel =>
            refine ⟨k + 1, _, by omega, by omega, Nat.le_refl _, by go_num, rfl, fun j hj => ?_⟩
            by_cases e : j = k
            · subst e
              exact keeps_pos (by rw [B.out.1, B.out.2]; exact hdup)
            · exact A.out j (by omega)
      · have hke : k = o.length := by omega
        subst hke
        go_wp2
        go_ret
        have e : cmpct o = o := HS.out A.out
        rw [e]
        exact ⟨rfl, HO.out, ⟨rfl, rfl, rfl, Nat.le_refl _, fun _ _ _ => rfl⟩⟩

end Go.Proofs.Ytahhjhhnjpbocac
